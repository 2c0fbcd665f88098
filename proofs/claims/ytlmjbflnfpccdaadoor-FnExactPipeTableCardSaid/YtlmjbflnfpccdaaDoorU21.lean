/- Rows of Booleans that come in: copied; what the exact laws over pipes keep. -/
import Derived.Test.YtlmjbflnfpccdaaDoorW110
import Derived.Test.YtlmjbflnfpccdaaDoorW401d
namespace Go.Proofs.YtlmjbflnfpccdaaDoor
open Go.RowKit
theorem info4b : (Tryd.prog.info? 4).map (fun i => (i.zero, i.size, i.bytes)) = some (some (.bool false), 1, 1) := by kernel_rfl
theorem made_bools (n : Nat) : (madeCells #[Value.bool false] n).toList = bolL n (fun _ => false) := by
  rw [toList_madeCells_one]
  unfold bolL
  rw [List.map_const', List.length_range]
theorem OwnB.set {w : World} {B g n cap : Nat} {f : Nat → Bool} (h : OwnB w B (some ⟨g, 0, none⟩) n cap f) (k : Nat) (x : Bool) :
    OwnB (w.setCell ⟨g, k, none⟩ (.bool x)) B (some ⟨g, 0, none⟩) n cap (fun j => if j = k then x else f j) := by
  have h1 := (World.ownsRow.stored h k (.bool x)).1
  rw [bolL_set n _ (fun j => if j = k then x else f j) k x (by simp) (fun j _ hne => by
    show _ = (if j = k then _ else _)
    rw [if_neg hne])] at h1
  exact h1
theorem OwnB.on {w w' : World} {B g n cap : Nat} {f : Nat → Bool} (h : OwnB w B (some ⟨g, 0, none⟩) n cap f) (hg : w.grownBy w' none) : OwnB w' B (some ⟨g, 0, none⟩) n cap f := World.ownsRow.kept h hg (.inr (by
  show some g ≠ none
  simp))
theorem OwnB.far {w w' : World} {B b K c : Nat} {f : Nat → Bool} {row : Option Nat} (h : OwnB w B (some ⟨b, 0, none⟩) K c f) (hg : w.grownBy w' row) (hr : row ≠ some b) : OwnB w' B (some ⟨b, 0, none⟩) K c f := World.ownsRow.kept h hg (.inr (by
  show some b ≠ row
  exact fun e => hr e.symm))
theorem Bols.on {w w' : World} {A : Option Addr} {n : Nat} {f : Nat → Bool} (h : Bols w A n f) (hg : w.grownBy w' none) : Bols w' A n f := h.grown hg (by intro _ _ _ e; cases e)
/-- The instructions and the Booleans that came in can be read; nothing that was there has changed. -/
structure SJ (w wr : World) (A : Option Addr) (n : Nat) (F : Nat → Ins) (AJ : Option Addr) (m : Nat) (J : Nat → Bool) : Prop where
  sc : SC w wr A n F
  bols0 : Bols w AJ m J
section
variable {w wr w2 : World} {A AJ : Option Addr} {n m : Nat} {F : Nat → Ins} {J : Nat → Bool}
theorem SJ.bols (h : SJ w wr A n F AJ m J) : Bols wr AJ m J := h.bols0.on h.sc.base
theorem SJ.grown (h : SJ w wr A n F AJ m J) (hg : wr.grownBy w2 none) : SJ w w2 A n F AJ m J := ⟨h.sc.grown hg, h.bols0⟩
theorem SJ.row {row : Option Nat} (h : SJ w wr A n F AJ m J) (g : wr.grownBy w2 row) (hb : ∀ b, row = some b → w.heap.size ≤ b) : SJ w w2 A n F AJ m J := ⟨h.sc.row g hb, h.bols0⟩
end
set_option maxHeartbeats 1000000 in
theorem toBoolS_zero (A : Option Addr) (cap : Nat) (f : Nat → Bool) (w : World) :
    Calls Tryd.prog 14 #[.slice A 0 cap] w fun e w' => e = .returned (.slice (some ⟨w.heap.size, 0, none⟩) 0 0) ∧ OwnB w' w.heap.size (some ⟨w.heap.size, 0, none⟩) 0 0 f ∧ w.grownBy w' none := by
  obtain ⟨i0, hi, hz0, hz1, hz2⟩ := info_parts info4b
  go_enter Tryd.func14, Tryd.ntmps14
  go_wp2_with (first
    | (at_make; refine wpList_make_full _ rfl _ _ 23 rfl w.heap.size 4 i0 (.bool false) 1 Tryd.underlying23 hi hz0 hz1 .i64 .i64 0 0 0 rfl rfl rfl rfl (by omega) (by unfold maxLen; omega) (Nat.le_refl _) ?_)
    | go_in)
  intro w1 hown1 hgr1
  simp only [made_bools] at hown1
  have HO1 := shade hown1
  have HG1 := shade hgr1
  clear hown1 hgr1
  go_wp2
  refine wp_loop_rounds 1 ?_
  rw [rounds_succ]
  go_wp2
  go_ret
  exact ⟨rfl, OwnB.congr HO1.out (fun j hj => absurd hj (by omega)), HG1.out⟩
set_option maxHeartbeats 1000000 in
theorem toBoolS_at (b off n cap : Nat) (f : Nat → Bool) (w : World) (hn0 : 0 < n) (hn : n ≤ 1048576) (h : Bols w (some ⟨b, off, none⟩) n f) :
    Calls Tryd.prog 14 #[.slice (some ⟨b, off, none⟩) n cap] w fun e w' => e = .returned (.slice (some ⟨w.heap.size, 0, none⟩) n n) ∧ OwnB w' w.heap.size (some ⟨w.heap.size, 0, none⟩) n n f ∧ w.grownBy w' none := by
  have H := shade h
  have hlt : b < w.heap.size := by
    rcases h with h | ⟨b', off', hA, hb, _⟩
    · omega
    · injection hA with hA
      injection hA with e1 e2
      omega
  clear h
  obtain ⟨i0, hi, hz0, hz1, hz2⟩ := info_parts info4b
  go_enter Tryd.func14, Tryd.ntmps14
  go_wp2_with (first
    | (at_make; refine wpList_make_full _ rfl _ _ 23 rfl w.heap.size 4 i0 (.bool false) 1 Tryd.underlying23 hi hz0 hz1 .i64 .i64 n n n rfl rfl rfl rfl (by rw [hz2]; omega) (by unfold maxLen; omega) (Nat.le_refl _) ?_)
    | go_in)
  intro w1 hown1 hgr1
  simp only [made_bools] at hown1
  have HO1 := shade hown1
  have HG1 := shade hgr1
  clear hown1 hgr1
  go_wp2
  go_loopw [4] (fun i wr => ∃ k : Nat, k ≤ n ∧ i = .int .i64 k ∧ OwnB wr w.heap.size (some ⟨w.heap.size, 0, none⟩) n n (fun j => if j < k then f j else false) ∧ w.grownBy wr none) (fun i _ => n - (intOf i).toNat)
  case atStart => exact ⟨0, Nat.zero_le _, rfl, OwnB.congr HO1.out (fun j _ => by rw [if_neg (by omega)]), HG1.out⟩
  case round =>
    obtain ⟨k, hk, rfl, hown, hgr⟩ := hrel
    by_cases hkn : k < n
    · have q0 := (H.out.grown hgr (by intro _ _ _ e; cases e)).cell hkn
      have q1 := hown.bols.cell hkn
      have q2 := World.ownsRow.frozenAt hown k
      rw [Nat.zero_add] at q1
      have HO := shade hown
      have HR := shade hgr
      clear hown hgr
      go_wp2
      go_roundw
      case rel =>
        have hs := World.ownsRow.stored HO.out k (.bool (f k))
        refine ⟨k + 1, by omega, by go_num, ?_, grown_then HR.out hs.2 (Nat.le_refl _)⟩
        have h1 := hs.1
        rw [bolL_set n _ (fun j => if j < k + 1 then f j else false) k (f k) (by simp) (fun j _ hne => by
          show (if j < k then _ else _) = (if j < k + 1 then _ else _)
          by_cases h : j < k
          · rw [if_pos h, if_pos (by omega)]
          · rw [if_neg h, if_neg (by omega)])] at h1
        exact h1
      case measure => simp [intOf]; omega
    · have hkn2 : k = n := by omega
      subst hkn2
      have HO := shade hown
      have HR := shade hgr
      clear hown hgr
      go_wp2
      go_ret
      exact ⟨rfl, HO.out.congr (fun j hj => by rw [if_pos hj]), HR.out⟩


theorem toBoolS_any (A : Option Addr) (n cap : Nat) (f : Nat → Bool) (w : World) (hn : n ≤ 1048576) (h : Bols w A n f) :
    Calls Tryd.prog 14 #[.slice A n cap] w fun e w' => e = .returned (.slice (some ⟨w.heap.size, 0, none⟩) n n) ∧ OwnB w' w.heap.size (some ⟨w.heap.size, 0, none⟩) n n f ∧ w.grownBy w' none := by
  by_cases h0 : n = 0
  · subst h0
    exact toBoolS_zero A cap f w
  · obtain ⟨b, off, rfl, _⟩ := h.resolve_left h0
    exact toBoolS_at b off n cap f w (by omega) hn h


end Go.Proofs.YtlmjbflnfpccdaaDoor
