/- StillMisses, CountMisses, PastMisses and ChooseMisses of the program. -/
import Derived.Test.YtfmcmndhghfoeaaZ18
import Derived.Shelf.Abstract
namespace Go.Proofs.Ytfmcmndhghfoeaa
open Go.RowKit Go.Shelf
def stillV (J : Nat → Bool) (m : Nat) (y : Bool) : Int := if m ≤ 300 then (msB J (fun _ => y) m : Int) else -1
def countV (J : Nat → Bool) (m : Nat) (b f : Int) : Int := if m ≤ 300 ∧ 1 ≤ b ∧ b ≤ 3 ∧ 0 ≤ f ∧ f ≤ 2 ^ b.toNat - 1 then (msB J (cg (2 ^ b.toNat - 1) f (2 ^ (b.toNat - 1)) J) m : Int) else -1
def pastV (J : Nat → Bool) (m : Nat) (s : Int) : Int := if m ≤ 300 ∧ 0 ≤ s ∧ s ≤ 4 then (msB J (pg s.toNat J) m : Int) else -1
def chooseV (J : Nat → Bool) (m : Nat) (s : Int) : Int := if m ≤ 300 ∧ 0 ≤ s ∧ s ≤ 4 then (msB J (chg9 (pg 0 J) (pg s.toNat J) J) m : Int) else -1
def bestV (J : Nat → Bool) (m : Nat) (s : Int) : Int := if m ≤ 300 ∧ 0 ≤ s ∧ s ≤ 4 then (bt s.toNat J m : Int) else -1
theorem Bols.on {w w' : World} {A : Option Addr} {n : Nat} {f : Nat → Bool} (h : Bols w A n f) (hg : w.grownBy w' none) : Bols w' A n f := h.grown hg (by intro _ _ _ e; cases e)
set_option maxHeartbeats 1000000 in
theorem still1_any (g : Nat) (y v : Bool) (w : World) (h : Holds5 w g 4 #[.bool y]) :
    Calls Try.prog 35 #[.bool v, .pointer (some ⟨g, 0, none⟩)] w fun e w' => e = .returned (.bool (y == v)) ∧ w = w' := by
  have q := h.look 0
  simp at q
  go_enter Try.func35, Try.ntmps35
  go_wp2
  go_ret
  exact ⟨by cases y <;> cases v <;> rfl, rfl⟩
set_option maxHeartbeats 2000000 in
theorem IStillMisses_any (AJ : Option Addr) (m cj : Nat) (J : Nat → Bool) (y : Bool) (w : World) (hj : Bols w AJ m J) :
    Calls Try.prog 14 #[.slice AJ m cj, .bool y] w fun e w' => e = .returned (.int .i64 (stillV J m y)) ∧ w.grownBy w' none := by
  unfold stillV
  have H := shade hj
  clear hj
  by_cases hm : m ≤ 300
  · rw [if_pos hm]
    have i1 : ¬ (300 : Int) < (m : Int) := by omega
    go_enter Try.func14, Try.ntmps14
    go_wp2_with fail
    refine (missesOf_any AJ m cj J (fun _ => y) _ #[] #[.pointer (some ⟨w.heap.size, 0, none⟩)] (fun _ W => Holds5 W w.heap.size 4 #[.bool y] ∧ w.grownBy W none) _ hm ⟨Holds5.fresh w 4 #[.bool y], World.grownBy_alloc _ _ _⟩ (fun _ W h => H.out.on h.2) (enters_of Try.func35 (by kernel_rfl) rfl)
      (fun j W _ h => (still1_any w.heap.size y (J j) W h.1).mono (fun e w' he => ⟨he.1, he.2 ▸ h⟩))).mono ?_
    rintro e w2 ⟨rfl, -, hg⟩
    have HG := shade hg
    clear hg
    go_wp2_with fail
    go_ret
    exact ⟨rfl, HG.out⟩
  · rw [if_neg hm]
    have i1 : (300 : Int) < (m : Int) := by omega
    go_enter Try.func14, Try.ntmps14
    go_wp2_with fail
    go_ret
    exact ⟨rfl, World.grownBy_alloc _ _ _⟩
end Go.Proofs.Ytfmcmndhghfoeaa
