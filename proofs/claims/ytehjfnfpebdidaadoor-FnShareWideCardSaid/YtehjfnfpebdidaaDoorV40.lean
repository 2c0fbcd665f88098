/- What is shared: where it stands first, by the program's slices.Index. -/
import Derived.Test.YtehjfnfpebdidaaDoorW931
import Derived.BigQuiet
import Derived.Deep.QuietTactic
import Derived.Deep.RegionHeld3
namespace Go.Proofs.YtehjfnfpebdidaaDoor
open Go.RowKit
set_option linter.unusedSimpArgs false
/-- The first ones of a row, as a list. -/
def lstW (f : Nat → Wid) (n : Nat) : List Wid := (List.range n).map f
theorem firstW_next {l : List Wid} {x d : Wid} {j : Nat} (h : j ≤ firstW l x) (hd : l[j]? = some d) (hne : d ≠ x) : j + 1 ≤ firstW l x := by
  by_cases e : j = firstW l x
  · have hl : j < l.length := (List.getElem?_eq_some_iff.1 hd).1
    have h2 := firstW_at l x (by omega)
    rw [← e, hd] at h2
    injection h2 with h2
    exact absurd h2 hne
  · omega
theorem firstW_here {l : List Wid} {x : Wid} {j : Nat} (h : j ≤ firstW l x) (hd : l[j]? = some x) : firstW l x = j := by
  by_cases e : j < firstW l x
  · exact absurd hd (firstW_before l x j e)
  · omega
set_option maxRecDepth 100000 in
set_option maxHeartbeats 4000000 in
theorem index_any (A : Option Addr) (n c : Nat) (f : Nat → Wid) (l : List Wid) (x : Wid) (w : World) (hl : l.length = n) (hn : n ≤ 8) (hf : ∀ j, j < n → l[j]? = some (f j)) (h : Wds w A n f) :
    Calls Tryd.prog 23 #[.slice A n c, valW x] w fun e w' => e = .returned (.int .i64 (if firstW l x < n then (firstW l x : Int) else -1)) ∧ w.grownBy w' none := by
  have H := shade h
  have HF := shade hf
  obtain ⟨op, xa, xb, xk⟩ := x
  clear h hf
  have hx : ∀ W : World, (∃ o, W = o) := fun W => ⟨W, rfl⟩
  clear hx
  have hB := Holds5.fresh w 43 #[.string op, .int .i64 xa, .int .i64 xb, .int .i64 xk]
  have hG := World.grownBy_alloc w (.cells #[.string op, .int .i64 xa, .int .i64 xb, .int .i64 xk] 43) none
  unfold valW
  obtain ⟨r, hr⟩ : ∃ r : Int, (if firstW l ⟨op, xa, xb, xk⟩ < n then (firstW l ⟨op, xa, xb, xk⟩ : Int) else -1) = r := ⟨_, rfl⟩
  rw [hr]
  have HR := shade hr
  clear hr
  go_enter Tryd.func23, Tryd.ntmps23
  go_upto_region 1 with (fail)
  obtain ⟨w1, hw1⟩ : ∃ w1, w.alloc (.cells #[.string op, .int .i64 xa, .int .i64 xb, .int .i64 xk] 43) = w1 := ⟨_, rfl⟩
  rw [hw1] at hB hG ⊢
  have HB := shade hB; have HG := shade hG
  clear hw1 hB hG
  obtain ⟨g, hg⟩ : ∃ g, w.heap.size = g := ⟨_, rfl⟩
  rw [hg] at HB ⊢
  clear hg
  go_wp2_with fail
  go_loopw [8] (fun i wr => ∃ j : Nat, j ≤ n ∧ i = .int .i64 (j : Int) ∧ j ≤ firstW l ⟨op, xa, xb, xk⟩ ∧ Holds5 wr g 43 #[.string op, .int .i64 xa, .int .i64 xb, .int .i64 xk] ∧ w.grownBy wr none) (fun i _ => n - (intOf i).toNat)
  case atStart => exact ⟨0, Nat.zero_le _, rfl, Nat.zero_le _, HB.out, HG.out⟩
  case round =>
    obtain ⟨j, hj, rfl, hfj, hB, hG⟩ := hrel
    have HB2 := shade hB; have HG2 := shade hG
    clear hB hG
    by_cases hlt : j < n
    · obtain ⟨b, o, rfl, -⟩ := H.out.resolve_left (by omega)
      obtain ⟨p0, p1, p2, p3⟩ := (H.out.on HG2.out).four hlt
      have hfe := HF.out j hlt
      generalize f j = d at *
      obtain ⟨dop, da, db, dk⟩ := d
      simp only [] at p0 p1 p2 p3
      have x0 := HB2.out.look 0; have x1 := HB2.out.look 1; have x2 := HB2.out.look 2; have x3 := HB2.out.look 3
      simp at x0 x1 x2 x3
      have i1 : (j : Int) < (n : Int) := by omega
      have i2 : (0 : Int) ≤ (j : Int) := by omega
      have HFE := shade hfe
      clear hfe
      have hcase : (op ≠ dop) ∨ (op = dop ∧ xa ≠ da) ∨ (op = dop ∧ xa = da ∧ xb ≠ db) ∨ (op = dop ∧ xa = da ∧ xb = db ∧ xk ≠ dk) ∨ (op = dop ∧ xa = da ∧ xb = db ∧ xk = dk) := by
        by_cases e1 : op = dop <;> by_cases e2 : xa = da <;> by_cases e3 : xb = db <;> by_cases e4 : xk = dk <;> simp [e1, e2, e3, e4]
      rcases hcase with h | ⟨rfl, h⟩ | ⟨rfl, rfl, h⟩ | ⟨rfl, rfl, rfl, h⟩ | ⟨rfl, rfl, rfl, rfl⟩
      · have h1 : (op.toList == dop.toList) = false := by
          rw [beq_eq_false_iff_ne]
          exact fun e => h (eq_of_toList e)
        go_wp2_with fail
        go_region_with (fail)
        all_goals
          go_wp2_with fail
          go_roundw
          case rel => exact ⟨j + 1, by omega, by go_num, firstW_next hfj HFE.out (by intro e; injection e with e1 e2 e3 e4; exact h e1.symm), HB2.out.drew, grown_drewN HG2.out 1⟩
          case measure => simp [intOf]; omega
      · go_wp2_with fail
        go_region_with (fail)
        all_goals
          go_wp2_with fail
          go_roundw
          case rel => exact ⟨j + 1, by omega, by go_num, firstW_next hfj HFE.out (by intro e; injection e with e1 e2 e3 e4; exact h e2.symm), HB2.out.drew, grown_drewN HG2.out 1⟩
          case measure => simp [intOf]; omega
      · go_wp2_with fail
        go_region_with (fail)
        all_goals
          go_wp2_with fail
          go_roundw
          case rel => exact ⟨j + 1, by omega, by go_num, firstW_next hfj HFE.out (by intro e; injection e with e1 e2 e3 e4; exact h e3.symm), HB2.out.drew, grown_drewN HG2.out 1⟩
          case measure => simp [intOf]; omega
      · go_wp2_with fail
        go_region_with (fail)
        all_goals
          go_wp2_with fail
          go_roundw
          case rel => exact ⟨j + 1, by omega, by go_num, firstW_next hfj HFE.out (by intro e; injection e with e1 e2 e3 e4; exact h e4.symm), HB2.out.drew, grown_drewN HG2.out 1⟩
          case measure => simp [intOf]; omega
      · go_wp2_with fail
        go_region_with (fail)
        all_goals
          have hz := firstW_here hfj HFE.out
          have hlt2 : firstW l ⟨op, xa, xb, xk⟩ < n := by omega
          go_wp2_with fail
          go_ret
          exact ⟨by rw [← HR.out, if_pos hlt2, hz]; rfl, grown_drewN HG2.out 1⟩
    · have hle := firstW_le l ⟨op, xa, xb, xk⟩
      have hno : ¬ firstW l ⟨op, xa, xb, xk⟩ < n := by omega
      go_wp2_with fail
      go_ret
      exact ⟨by rw [← HR.out, if_neg hno]; rfl, HG2.out⟩
end Go.Proofs.YtehjfnfpebdidaaDoor
