/- A guess by what went before, and what is learned of it. -/
import Derived.Test.YtfmcmndhghfoeaaZ15
import Derived.Test.YtfmcmndhghfoeaaW30
namespace Go.Proofs.Ytfmcmndhghfoeaa
open Go.RowKit
/-- The state of a guess by what went before, behind the first j jumps. -/
def LB (w : World) (g s : Nat) (J : Nat → Bool) (j : Nat) : Prop := Holds5 w g TLB (lbA (s : Int) (tw s J j : Int) (tb s J j) (fun _ => 3))
theorem LB.other {w w' : World} {g s : Nat} {J : Nat → Bool} {j : Nat} {row : Option Nat} (h : LB w g s J j) (hg : w.grownBy w' row) (hr : some g ≠ row) : LB w' g s J j := Holds5.grown h hg hr
set_option maxRecDepth 100000 in
set_option maxHeartbeats 4000000 in
theorem ltry_any (g s : Nat) (J : Nat → Bool) (j : Nat) (hs : s ≤ 4) (w : World) (h : LB w g s J j) :
    Calls Try.prog 45 #[.pointer (some ⟨g, 0, none⟩), .bool (J j)] w fun e w' => e = .returned (.bool (pg s J j == J j)) ∧ LB w' g s J (j + 1) ∧ w.grownBy w' (some g) := by
  have hy : tw s J j < 16 := Nat.lt_of_lt_of_le (tw_lt s J j) (by rcases (show s = 0 ∨ s = 1 ∨ s = 2 ∨ s = 3 ∨ s = 4 by omega) with rfl | rfl | rfl | rfl | rfl <;> decide)
  have hr := tb_rng s J j (tw s J j)
  have hp : pg s J j = decide (2 ≤ tb s J j (tw s J j)) := rfl
  have hT : ∀ i, tb s J (j + 1) i = up (tb s J j) (tw s J j) (stp (tb s J j (tw s J j)) (J j) 3) i := fun i => rfl
  have hW : tw s J (j + 1) = (2 * tw s J j + (J j).toNat) % 2 ^ s := rfl
  unfold LB at h ⊢
  rw [lbA_congr _ _ (fun i _ => hT i) (fun i _ => rfl), hW, hp]
  clear hp hT hW
  generalize tw s J j = y at *
  generalize tb s J j = T at *
  generalize J j = b at *
  have HC := shade (fun W (hW : Holds5 W g TLB (lbA (s : Int) (y : Int) T (fun _ => 3))) => (ctry_any g (2 + y * 2) (T y) 3 2 b (.inr (.inl ⟨rfl, rfl⟩)) hr.1 hr.2 W ((hW.look _).trans (lbA_at _ _ _ _ y hy).1) ((hW.look _).trans (lbA_at _ _ _ _ y hy).2) (hW.free _)))
  have HL := shade (fun W (T' : Nat → Int) (hW : Holds5 W g TLB (lbA (s : Int) (y : Int) T' (fun _ => 3))) => learn_any g 0 y s b hs hy TLB _ W hW rfl rfl)
  have q1 := h.look 1
  have H := shade h
  have HY := shade hy
  have i1 : (y : Int) < 16 := by omega
  have i2 : (0 : Int) ≤ (y : Int) := by omega
  have q1' : w.cell? ⟨g, 1, none⟩ = some (.int .i64 (y : Int)) := q1
  have q2 : ∀ (u : Value) (k : Nat), ((w.setCell ⟨g, 2 + y * 2, none⟩ u).drewN k).cell? ⟨g, 1, none⟩ = some (.int .i64 (y : Int)) := fun u k => by
    refine (((H.out.put (2 + y * 2) u).drewN k).look 1).trans ?_
    rw [Array.getElem?_setIfInBounds_ne (by omega)]
    rfl
  clear q1 h hr
  go_enter Try.func45, Try.ntmps45
  go_wp2_with fail
  go_region_held3 (fun w' => w'.cell? ⟨g, 1, none⟩ = some (.int .i64 (y : Int))) (first | exact q1' | exact q2 _ _) (first | (go_at_call 39; refine (HC.out _ H.out.drew).mono ?_; rintro e w1 ⟨rfl, k, rfl⟩))
  go_wp2_with fail
  refine (HL.out _ (up T y (stp (T y) b 3)) (by
    have h3 := (H.out.put (2 + y * 2) (.int .i64 (stp (T y) b 3))).drewN (1 + k)
    rw [lbA_put _ _ _ _ y _ HY.out] at h3
    exact h3)).mono ?_
  rintro e w2 ⟨rfl, hB, hg⟩
  have HB := shade hB
  have HG := shade (show w.grownBy w2 (some g) from grown_same (grown_drewN (grown_set g (2 + y * 2) (.int .i64 (stp (T y) b 3))) (1 + k)) hg)
  clear hB hg
  go_wp2_with fail
  go_ret
  exact ⟨rfl, HB.out, HG.out⟩
end Go.Proofs.Ytfmcmndhghfoeaa
