/- What is shared: the program's moved. -/
import Derived.Test.YtehjfnfpebdidaaDoorW930
namespace Go.Proofs.YtehjfnfpebdidaaDoor
open Go.RowKit
set_option linter.unusedSimpArgs false
/-- A wide instruction as a value. -/
def valW (c : Wid) : Value := .agg #[.string c.op, .int .i64 c.a, .int .i64 c.b, .int .i64 c.k]
theorem nums_in {w : World} {A : Option Addr} {n : Nat} {f : Nat → Int} (h : Nums w A n f) (o o2 : Obj) : Nums ((w.alloc o).alloc o2) A n f := h.grown (grown_alloc (World.grownBy_alloc w o none) o2) (by intro _ _ _ e; cases e)
/-- Four cells of an own block, written. -/
theorem put4 {w wq : World} {g : Nat} {u0 u1 u2 u3 : Value} (hg0 : w.heap.size ≤ g) (h : Holds5 wq g 43 #[u0, u1, u2, u3]) (hG : w.grownBy wq none) (v0 v1 v2 v3 : Value) :
    Holds5 ((((wq.setCell ⟨g, 0, none⟩ v0).setCell ⟨g, 1, none⟩ v1).setCell ⟨g, 2, none⟩ v2).setCell ⟨g, 3, none⟩ v3) g 43 #[v0, v1, v2, v3] ∧ w.grownBy ((((wq.setCell ⟨g, 0, none⟩ v0).setCell ⟨g, 1, none⟩ v1).setCell ⟨g, 2, none⟩ v2).setCell ⟨g, 3, none⟩ v3) none := by
  have h4 := (((h.put 0 v0).put 1 v1).put 2 v2).put 3 v3
  simp at h4
  have hr : ∀ k, some g = some k → w.heap.size ≤ k := fun k e => by
    injection e with e
    omega
  exact ⟨h4, grown_row (grown_row (grown_row (grown_row hG (grown_set g 0 v0) hr) (grown_set g 1 v1) hr) (grown_set g 2 v2) hr) (grown_set g 3 v3) hr⟩
theorem moved_box (op : ByteArray) (a b k : Int) (w : World) (x : Nat) : Holds5 (((w.alloc (.cells #[.string op, .int .i64 a, .int .i64 b, .int .i64 k] 43)).alloc (.cells #[.string ⟨#[]⟩, .int .i64 0, .int .i64 0, .int .i64 0] 43)).drewN x) (w.heap.size + 1) 43 #[.string ⟨#[]⟩, .int .i64 0, .int .i64 0, .int .i64 0] ∧ w.grownBy (((w.alloc (.cells #[.string op, .int .i64 a, .int .i64 b, .int .i64 k] 43)).alloc (.cells #[.string ⟨#[]⟩, .int .i64 0, .int .i64 0, .int .i64 0] 43)).drewN x) none := by
  have h := Holds5.fresh (w.alloc (.cells #[.string op, .int .i64 a, .int .i64 b, .int .i64 k] 43)) 43 #[.string ⟨#[]⟩, .int .i64 0, .int .i64 0, .int .i64 0]
  rw [World.size_alloc] at h
  exact ⟨h, grown_drewN (grown_alloc (World.grownBy_alloc w _ none) _) x⟩
set_option maxRecDepth 100000 in
set_option maxHeartbeats 8000000 in
theorem moved_any (op : ByteArray) (a b k : Int) (i c : Nat) (l : List Nat) (A : Option Addr) (w : World) (hg : WT w) (hv : okW i ⟨op, a, b, k⟩ = true) (h : Nums w A i (fun j => ((l.getD j 0 : Nat) : Int))) :
    Calls Tryd.prog 22 #[.agg #[.string op, .int .i64 a, .int .i64 b, .int .i64 k], .slice A i c] w fun e w' => e = .returned (valW (mvW ⟨op, a, b, k⟩ l)) ∧ w.grownBy w' none := by
  have HW := shade (fun W (hW : WT W) => wordOf_any op W hW)
  have HG := shade hg
  have HN := shade h
  have hok := (okW_told op a b k i).symm.trans hv
  rw [decide_eq_true_iff] at hok
  clear hg hv h
  by_cases e0 : wordN op.toList = 0
  · have hr : mvW ⟨op, a, b, k⟩ l = ⟨op, a, b, k⟩ := if_pos e0
    rw [hr]
    rw [e0] at HW
    clear hok e0 hr
    go_enter Tryd.func22, Tryd.ntmps22
    go_wp2_with (first | (go_at_call 27; refine (HW.out _ ((HG.out.alloc _).alloc _)).mono ?_; rintro e w' ⟨rfl, rfl⟩) | go_in)
    have hP := Holds5.fresh (w.alloc (.cells #[.string op, .int .i64 a, .int .i64 b, .int .i64 k] 43)) 43 #[.string op, .int .i64 a, .int .i64 b, .int .i64 k]
    have x0 := hP.look 0; have x1 := hP.look 1; have x2 := hP.look 2; have x3 := hP.look 3
    simp at x0 x1 x2 x3
    refine bodyPost_ret (by simp [results, Tryd.results22, go_sem, x0, x1, x2, x3]; try rfl) rfl ?_
    exact ⟨rfl, grown_alloc (World.grownBy_alloc _ _ _) _⟩
  · obtain ⟨a, rfl⟩ := Int.eq_ofNat_of_zero_le (show 0 ≤ a by omega)
    obtain ⟨b, rfl⟩ := Int.eq_ofNat_of_zero_le (show 0 ≤ b by omega)
    have ha : a < i := by omega
    have hb : b < i := by omega
    have hne : (wordN op.toList == 0) = false := beq_eq_false_iff_ne.2 e0
    obtain ⟨bl, ol, rfl, -⟩ := HN.out.resolve_left (by omega)
    have q1 : _ = some (Value.int .i64 ((l.getD a 0 : Nat) : Int)) := (nums_in HN.out (.cells #[.string op, .int .i64 a, .int .i64 b, .int .i64 k] 43) (.cells #[.string ⟨#[]⟩, .int .i64 0, .int .i64 0, .int .i64 0] 43)).cell ha
    have q2 : _ = some (Value.int .i64 ((l.getD b 0 : Nat) : Int)) := (nums_in HN.out (.cells #[.string op, .int .i64 a, .int .i64 b, .int .i64 k] 43) (.cells #[.string ⟨#[]⟩, .int .i64 0, .int .i64 0, .int .i64 0] 43)).cell hb
    have hr : mvW ⟨op, a, b, k⟩ l = if (wordN op.toList = 1 ∨ wordN op.toList = 3) ∧ l.getD b 0 < l.getD a 0 then ⟨op, l.getD b 0, l.getD a 0, 0⟩ else ⟨op, l.getD a 0, l.getD b 0, 0⟩ := by
      unfold mvW
      simp only [Int.toNat_natCast]
      rw [if_neg e0]
    rw [hr]
    generalize l.getD a 0 = ya at *
    generalize l.getD b 0 = yb at *
    generalize wordN op.toList = m at *
    have hm4 : (m = 1 ∨ m = 3) ∨ ((m == 1) = false ∧ (m == 3) = false) := by
      by_cases h1 : m = 1
      · exact .inl (.inl h1)
      · by_cases h3 : m = 3
        · exact .inl (.inr h3)
        · exact .inr ⟨beq_eq_false_iff_ne.2 h1, beq_eq_false_iff_ne.2 h3⟩
    rcases hm4 with hm4 | ⟨n1, n3⟩
    · by_cases hlt : yb < ya
      · rw [if_pos ⟨hm4, hlt⟩]
        have hmin : min (ya : Int) (yb : Int) = (yb : Int) := by omega
        have hmax : max (ya : Int) (yb : Int) = (ya : Int) := by omega
        have hlt2 : (yb : Int) < (ya : Int) := by omega
        clear hr hok e0
        rcases hm4 with rfl | rfl
        · go_enter Tryd.func22, Tryd.ntmps22
          go_wp2_with (first | (go_at_call 27; refine (HW.out _ ((HG.out.alloc _).alloc _)).mono ?_; rintro e w' ⟨rfl, rfl⟩) | go_in)
          go_quiet (fail)
          go_wp2_with fail
          have hq := moved_box op a b k w
          generalize hwq : World.drewN _ _ = wq
          obtain ⟨hP4, hG4⟩ := put4 (g := w.heap.size + 1) (by omega) (hwq ▸ (hq _).1) (hwq ▸ (hq _).2) (.string op) (.int .i64 (yb : Int)) (.int .i64 (ya : Int)) (.int .i64 0)
          generalize World.setCell _ _ _ = wz at *
          have x0 := hP4.look 0; have x1 := hP4.look 1; have x2 := hP4.look 2; have x3 := hP4.look 3
          simp at x0 x1 x2 x3
          refine bodyPost_ret (by simp [results, Tryd.results22, go_sem, x0, x1, x2, x3]; try rfl) rfl ?_
          exact ⟨rfl, hG4⟩
        · go_enter Tryd.func22, Tryd.ntmps22
          go_wp2_with (first | (go_at_call 27; refine (HW.out _ ((HG.out.alloc _).alloc _)).mono ?_; rintro e w' ⟨rfl, rfl⟩) | go_in)
          go_quiet (fail)
          go_wp2_with fail
          have hq := moved_box op a b k w
          generalize hwq : World.drewN _ _ = wq
          obtain ⟨hP4, hG4⟩ := put4 (g := w.heap.size + 1) (by omega) (hwq ▸ (hq _).1) (hwq ▸ (hq _).2) (.string op) (.int .i64 (yb : Int)) (.int .i64 (ya : Int)) (.int .i64 0)
          generalize World.setCell _ _ _ = wz at *
          have x0 := hP4.look 0; have x1 := hP4.look 1; have x2 := hP4.look 2; have x3 := hP4.look 3
          simp at x0 x1 x2 x3
          refine bodyPost_ret (by simp [results, Tryd.results22, go_sem, x0, x1, x2, x3]; try rfl) rfl ?_
          exact ⟨rfl, hG4⟩
      · rw [if_neg (fun h => hlt h.2)]
        clear hr hok e0
        rcases (show ya < yb ∨ ya = yb by omega) with hlt3 | heq
        · have hlt4 : (ya : Int) < (yb : Int) := by omega
          have hlt5 : ¬ (yb : Int) < (ya : Int) := by omega
          rcases hm4 with rfl | rfl
          · go_enter Tryd.func22, Tryd.ntmps22
            go_wp2_with (first | (go_at_call 27; refine (HW.out _ ((HG.out.alloc _).alloc _)).mono ?_; rintro e w' ⟨rfl, rfl⟩) | go_in)
            go_quiet (fail)
            go_wp2_with fail
            have hq := moved_box op a b k w
            generalize hwq : World.drewN _ _ = wq
            obtain ⟨hP4, hG4⟩ := put4 (g := w.heap.size + 1) (by omega) (hwq ▸ (hq _).1) (hwq ▸ (hq _).2) (.string op) (.int .i64 (ya : Int)) (.int .i64 (yb : Int)) (.int .i64 0)
            generalize World.setCell _ _ _ = wz at *
            have x0 := hP4.look 0; have x1 := hP4.look 1; have x2 := hP4.look 2; have x3 := hP4.look 3
            simp at x0 x1 x2 x3
            refine bodyPost_ret (by simp [results, Tryd.results22, go_sem, x0, x1, x2, x3]; try rfl) rfl ?_
            exact ⟨rfl, hG4⟩
          · go_enter Tryd.func22, Tryd.ntmps22
            go_wp2_with (first | (go_at_call 27; refine (HW.out _ ((HG.out.alloc _).alloc _)).mono ?_; rintro e w' ⟨rfl, rfl⟩) | go_in)
            go_quiet (fail)
            go_wp2_with fail
            have hq := moved_box op a b k w
            generalize hwq : World.drewN _ _ = wq
            obtain ⟨hP4, hG4⟩ := put4 (g := w.heap.size + 1) (by omega) (hwq ▸ (hq _).1) (hwq ▸ (hq _).2) (.string op) (.int .i64 (ya : Int)) (.int .i64 (yb : Int)) (.int .i64 0)
            generalize World.setCell _ _ _ = wz at *
            have x0 := hP4.look 0; have x1 := hP4.look 1; have x2 := hP4.look 2; have x3 := hP4.look 3
            simp at x0 x1 x2 x3
            refine bodyPost_ret (by simp [results, Tryd.results22, go_sem, x0, x1, x2, x3]; try rfl) rfl ?_
            exact ⟨rfl, hG4⟩
        · subst heq
          rcases hm4 with rfl | rfl
          · go_enter Tryd.func22, Tryd.ntmps22
            go_wp2_with (first | (go_at_call 27; refine (HW.out _ ((HG.out.alloc _).alloc _)).mono ?_; rintro e w' ⟨rfl, rfl⟩) | go_in)
            go_quiet (fail)
            go_wp2_with fail
            have hq := moved_box op a b k w
            generalize hwq : World.drewN _ _ = wq
            obtain ⟨hP4, hG4⟩ := put4 (g := w.heap.size + 1) (by omega) (hwq ▸ (hq _).1) (hwq ▸ (hq _).2) (.string op) (.int .i64 (ya : Int)) (.int .i64 (ya : Int)) (.int .i64 0)
            generalize World.setCell _ _ _ = wz at *
            have x0 := hP4.look 0; have x1 := hP4.look 1; have x2 := hP4.look 2; have x3 := hP4.look 3
            simp at x0 x1 x2 x3
            refine bodyPost_ret (by simp [results, Tryd.results22, go_sem, x0, x1, x2, x3]; try rfl) rfl ?_
            exact ⟨rfl, hG4⟩
          · go_enter Tryd.func22, Tryd.ntmps22
            go_wp2_with (first | (go_at_call 27; refine (HW.out _ ((HG.out.alloc _).alloc _)).mono ?_; rintro e w' ⟨rfl, rfl⟩) | go_in)
            go_quiet (fail)
            go_wp2_with fail
            have hq := moved_box op a b k w
            generalize hwq : World.drewN _ _ = wq
            obtain ⟨hP4, hG4⟩ := put4 (g := w.heap.size + 1) (by omega) (hwq ▸ (hq _).1) (hwq ▸ (hq _).2) (.string op) (.int .i64 (ya : Int)) (.int .i64 (ya : Int)) (.int .i64 0)
            generalize World.setCell _ _ _ = wz at *
            have x0 := hP4.look 0; have x1 := hP4.look 1; have x2 := hP4.look 2; have x3 := hP4.look 3
            simp at x0 x1 x2 x3
            refine bodyPost_ret (by simp [results, Tryd.results22, go_sem, x0, x1, x2, x3]; try rfl) rfl ?_
            exact ⟨rfl, hG4⟩
    · have hif : ¬ ((m = 1 ∨ m = 3) ∧ yb < ya) := by
        rintro ⟨h1 | h1, -⟩
        · rw [h1] at n1
          cases n1
        · rw [h1] at n3
          cases n3
      rw [if_neg hif]
      clear hr hok e0 hif
      go_enter Tryd.func22, Tryd.ntmps22
      go_wp2_with (first | (go_at_call 27; refine (HW.out _ ((HG.out.alloc _).alloc _)).mono ?_; rintro e w' ⟨rfl, rfl⟩) | go_in)
      go_quiet (fail)
      go_wp2_with fail
      have hq := moved_box op a b k w
      generalize hwq : World.drewN _ _ = wq
      obtain ⟨hP4, hG4⟩ := put4 (g := w.heap.size + 1) (by omega) (hwq ▸ (hq _).1) (hwq ▸ (hq _).2) (.string op) (.int .i64 (ya : Int)) (.int .i64 (yb : Int)) (.int .i64 0)
      generalize World.setCell _ _ _ = wz at *
      have x0 := hP4.look 0; have x1 := hP4.look 1; have x2 := hP4.look 2; have x3 := hP4.look 3
      simp at x0 x1 x2 x3
      refine bodyPost_ret (by simp [results, Tryd.results22, go_sem, x0, x1, x2, x3]; try rfl) rfl ?_
      exact ⟨rfl, hG4⟩
end Go.Proofs.YtehjfnfpebdidaaDoor
