/- The way that the last jumps went, as the program learns it. -/
import Derived.Test.YtfmcmndhghfoeaaZ14
namespace Go.Proofs.Ytfmcmndhghfoeaa
open Go.RowKit
theorem put_twice (cs : Array Value) (i : Nat) (u v : Value) : (cs.setIfInBounds i u).setIfInBounds i v = cs.setIfInBounds i v := by
  apply Array.ext_getElem?
  intro j
  by_cases h : i = j
  · subst h
    simp only [Array.getElem?_setIfInBounds_self, Array.size_setIfInBounds]
  · simp only [Array.getElem?_setIfInBounds_ne h]
theorem learn_two {w : World} {g o : Nat} {t : TypeId} {cs : Array Value} (H : Holds5 w g t cs) (a c z : Int) (hz : c = z) :
    Holds5 (((w.setCell ⟨g, o, none⟩ (.int .i64 a)).setCell ⟨g, o, none⟩ (.int .i64 c)).drew) g t (cs.setIfInBounds o (.int .i64 z)) ∧ w.grownBy (((w.setCell ⟨g, o, none⟩ (.int .i64 a)).setCell ⟨g, o, none⟩ (.int .i64 c)).drew) (some g) := by
  subst hz
  have h := ((H.put o (.int .i64 a)).put o (.int .i64 c)).drew
  rw [put_twice] at h
  exact ⟨h, grown_drewN (grown_same (grown_set g o _) (grown_set g o _)) 1⟩
theorem learn_three {w : World} {g o : Nat} {t : TypeId} {cs : Array Value} (H : Holds5 w g t cs) (a b c z : Int) (hz : c = z) :
    Holds5 ((((w.setCell ⟨g, o, none⟩ (.int .i64 a)).setCell ⟨g, o, none⟩ (.int .i64 b)).setCell ⟨g, o, none⟩ (.int .i64 c)).drew) g t (cs.setIfInBounds o (.int .i64 z)) ∧ w.grownBy ((((w.setCell ⟨g, o, none⟩ (.int .i64 a)).setCell ⟨g, o, none⟩ (.int .i64 b)).setCell ⟨g, o, none⟩ (.int .i64 c)).drew) (some g) := by
  subst hz
  have h := (((H.put o (.int .i64 a)).put o (.int .i64 b)).put o (.int .i64 c)).drew
  rw [put_twice, put_twice] at h
  exact ⟨h, grown_drewN (grown_same (grown_same (grown_set g o _) (grown_set g o _)) (grown_set g o _)) 1⟩
set_option maxRecDepth 100000 in
set_option maxHeartbeats 4000000 in
theorem learn_any (g o y s : Nat) (b : Bool) (hs : s ≤ 4) (hy : y < 16) (t : TypeId) (cs : Array Value) (w : World) (h : Holds5 w g t cs) (h0 : cs[o]? = some (.int .i64 (s : Int))) (h1 : cs[o + 1]? = some (.int .i64 (y : Int))) :
    Calls Try.prog 48 #[.pointer (some ⟨g, o, none⟩), .bool b] w fun e w' => e = .returned (.tuple #[]) ∧ Holds5 w' g t (cs.setIfInBounds (o + 1) (.int .i64 (((2 * y + b.toNat) % 2 ^ s : Nat) : Int))) ∧ w.grownBy w' (some g) := by
  have H := shade h
  have q0 := (h.look o).trans h0
  have q1 := (h.look (o + 1)).trans h1
  have f1 := h.free (o + 1)
  clear h h0 h1
  obtain ⟨z, hz⟩ : ∃ z : Nat, (2 * y + b.toNat) % 2 ^ s = z := ⟨_, rfl⟩
  rw [hz]
  rcases b with _ | _
  · have hz' : (2 * y + 0) % 2 ^ s = z := hz
    clear hz
    rcases (show s = 0 ∨ s = 1 ∨ s = 2 ∨ s = 3 ∨ s = 4 by omega) with rfl | rfl | rfl | rfl | rfl
    all_goals
      have HZ := shade hz'
      clear hz'
      go_enter Try.func48, Try.ntmps48
      go_wp2
      go_region_with (fail)
      all_goals
        (try simp only [Exit.inBlock, Exit.then])
        go_end0
        refine ⟨rfl, learn_two H.out _ _ _ ?_⟩
        have hz := HZ.out
        simp only [Nat.reducePow] at hz
        omega
  · have hz' : (2 * y + 1) % 2 ^ s = z := hz
    clear hz
    rcases (show s = 0 ∨ s = 1 ∨ s = 2 ∨ s = 3 ∨ s = 4 by omega) with rfl | rfl | rfl | rfl | rfl
    all_goals
      have HZ := shade hz'
      clear hz'
      go_enter Try.func48, Try.ntmps48
      go_wp2
      go_region_with (fail)
      all_goals
        (try simp only [Exit.inBlock, Exit.then])
        go_end0
        refine ⟨rfl, learn_three H.out _ _ _ _ ?_⟩
        have hz := HZ.out
        simp only [Nat.reducePow] at hz
        omega
end Go.Proofs.Ytfmcmndhghfoeaa
