/- ReachOf and its model answer alike. Rows of Booleans that a call has made; their marks. The traces of the machines that a law tries go where there is a way. ReachOf answers as its model for the drawn program; what is stepped is reached, and what comes next of what is reached. -/
import Derived.Test.YtjeflaodeafhbaaDoorH443
import Derived.Test.YtjeflaodeafhbaaDoorG94
import Derived.Test.YtjeflaodeafhbaaDoorG130
import Derived.Deep.QuietTactic
import Derived.BigQuiet
namespace Go.Proofs.YtjeflaodeafhbaaDoor
open Go.RowKit Go.Shelf
set_option linter.unusedSimpArgs false
theorem nowhere_any (x : Int) (w : World) : Calls Tryd.prog 76 #[.int .i64 x] w fun e w' => e = .returned (.bool false) ∧ w = w' := by
  go_enter Tryd.func76, Tryd.ntmps76
  go_wp2
  go_ret
  exact ⟨rfl, rfl⟩
theorem MarkRes.congr {k : Nat} {f g : Nat → Bool} {w w' : World} {e : Ending} (h : MarkRes k f w e w') (hf : ∀ y, y < k → f y = g y) : MarkRes k g w e w' := by
  obtain ⟨v, he, ho, hg⟩ := h
  exact ⟨v, he, by rw [← bolL_congr k f g hf]; exact ho, hg⟩
theorem MarkRes.after {k : Nat} {f : Nat → Bool} {w w1 w2 : World} {e : Ending} (hg : w.grownBy w1 none) (h : MarkRes k f w1 e w2) : MarkRes k f w e w2 := by
  obtain ⟨v, he, ho, h2⟩ := h
  exact ⟨v, he, World.ownsRow.mono ho hg.size, grown_same hg h2⟩
theorem MarkRes.nil (f : Nat → Bool) (w w' : World) (hg : w.grownBy w' none) : MarkRes 0 f w (.returned (.slice none 0 0)) w' := ⟨_, rfl, World.ownsRow_nil _ _ _ _, hg⟩
/-- What 'reached' leaves without a cut. -/
theorem reached_no (A : Option Addr) (n c : Nat) (F : Nat → Ins) (w : World) (hv : vcB n F = true) (hwt : WT w) (h : Code w A n F) :
    Calls Tryd.prog 75 #[.slice A n c, .func (.func 76) #[] #[]] w fun e w' => ∃ r : Nat → Bool, (∀ y, y ≤ n → (r y = true ↔ Way F n noCut 0 y)) ∧ MarkRes (n + 1) r w e w' := by
  refine reached_any A n c 76 #[] F noCut (fun _ => True) w hv hwt h trivial (fun _ _ _ _ _ => trivial) (enters_of Tryd.func76 (by kernel_rfl) rfl) (fun x W _ _ _ _ => ?_)
  refine (nowhere_any (x : Int) W).mono ?_
  rintro e w' ⟨rfl, rfl⟩
  exact ⟨rfl, grown_refl _ _⟩
end Go.Proofs.YtjeflaodeafhbaaDoor

namespace Go.Proofs.YtjeflaodeafhbaaDoor
open Go.RowKit
theorem RowO.bols {wr : World} {lo hi : Nat} {v : Value} {K : Nat} {f : Nat → Bool} (h : RowO wr lo hi 4 v K (bolL K f)) : ∃ A c, v = .slice A K c ∧ Bols wr A K f := by
  rcases h.own.2 with ⟨e', h0⟩ | ⟨g', cap', cur, e', _⟩
  · exact ⟨none, 0, by rw [e', h0], .inl h0⟩
  · have ho := h.own
    rw [e'] at ho
    exact ⟨some ⟨g', 0, none⟩, cap', e', OwnB.bols ho⟩
theorem MarkRes.row {k : Nat} {f : Nat → Bool} {w w' : World} {e : Ending} (h : MarkRes k f w e w') : ∃ v, e = .returned v ∧ RowO w' w.heap.size w'.heap.size 4 v k (bolL k f) ∧ w.grownBy w' none := by
  obtain ⟨v, he, ho, hg⟩ := h
  exact ⟨v, he, ⟨ho, fun i hi => (World.ownsRow.lt ho i hi).2⟩, hg⟩
end Go.Proofs.YtjeflaodeafhbaaDoor

namespace Go.Proofs.YtjeflaodeafhbaaDoor
open Go.RowKit
set_option linter.unusedSimpArgs false
/-- A step leads to one of those that may come next. -/
theorem sNext_in {n : Nat} {F : Nat → Ins} {s : Sta} (hv : vcB n F = true) (hs : OkS s) (hh : sHalt n F s = false) : (sNext F s).at' ∈ nxI (F s.at'.toNat) s.at'.toNat := by
  obtain ⟨hlt, h9⟩ := halt_parts hh
  obtain ⟨_, _, _, hw, hn9, _⟩ := ins_parts hv hlt
  have e7 := word7 (F s.at'.toNat).op.toList
  have e8 := word8 (F s.at'.toNat).op.toList
  have h0 := hs.lo
  show stepAt (nOf F s.at') s.at'.toNat (raOf F s.at') (kOf F s.at') s.r ∈ _
  unfold nxI stepAt
  rw [h9, if_neg (by simp)]
  rw [hw] at e7 e8
  rw [← e7, ← e8, show kOf F s.at' = (F s.at'.toNat).k from rfl]
  generalize nOf F s.at' = m at *
  by_cases h8 : m = 8
  · subst h8
    simp
  · have h8b : ((m : Int) == 8) = false := beq_eq_false_iff_ne.2 (by omega)
    rw [h8b, if_neg h8]
    by_cases h7 : m = 7
    · subst h7
      rcases hk : ((F s.at'.toNat).k == (s.at'.toNat : Int) + 1) with _ | _
      · by_cases hr : s.r (raOf F s.at') = 0 <;> simp [hr]
      · have hk2 := beq_iff_eq.1 hk
        by_cases hr : s.r (raOf F s.at') = 0 <;> simp [hr, hk2]
    · have h7b : ((m : Int) == 7) = false := beq_eq_false_iff_ne.2 (by omega)
      rw [h7b, if_neg h7]
      simp
theorem trR_in (t : Int) (j : Nat) : 0 ≤ trR t j ∧ trR t j ≤ 255 := by
  unfold trR
  omega
theorem trM_in (t : Int) (j : Nat) : 0 ≤ trM t j ∧ trM t j ≤ 255 := by
  unfold trM
  omega
end Go.Proofs.YtjeflaodeafhbaaDoor

namespace Go.Proofs.YtjeflaodeafhbaaDoor
open Go.RowKit
set_option linter.unusedSimpArgs false
/-- What is drawn: a program; nothing that was there has changed. -/
def DrwC (w : World) (e : Ending) (w' : World) : Prop :=
  ∃ (A : Option Addr) (k c : Nat) (f : Nat → Ins), e = .returned (.slice A k c) ∧ k ≤ 14 ∧ Code w' A k f ∧ w.grownBy w' none
theorem nums_on {w w' : World} {A : Option Addr} {n : Nat} {f : Nat → Int} (h : Nums w A n f) (hg : w.grownBy w' none) : Nums w' A n f := h.grown hg (by intro _ _ _ e; cases e)
theorem bols_on {w w' : World} {A : Option Addr} {n : Nat} {f : Nat → Bool} (h : Bols w A n f) (hg : w.grownBy w' none) : Bols w' A n f := h.grown hg (by intro _ _ _ e; cases e)
theorem NumRes.num {k : Nat} {f : Nat → Int} {w w' : World} {e : Ending} (h : NumRes k f w e w') : ∃ A c, e = .returned (.slice A k c) ∧ Nums w' A k f ∧ w.grownBy w' none := by
  obtain ⟨v, rfl, hR, hg⟩ := NumRes.row h
  obtain ⟨A, c, rfl, hn⟩ := hR.nums
  exact ⟨A, c, rfl, hn, hg⟩
end Go.Proofs.YtjeflaodeafhbaaDoor
