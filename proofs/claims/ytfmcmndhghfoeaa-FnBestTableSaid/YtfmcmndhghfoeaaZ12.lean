/- A counter's guess; new counters. -/
import Derived.Test.YtfmcmndhghfoeaaZ11
namespace Go.Proofs.Ytfmcmndhghfoeaa
open Go.RowKit
theorem Mst.le {m half : Int} (h : Mst m half) : m ≤ 7 := by unfold Mst at h; omega
theorem Mst.two {m half : Int} (h : Mst m half) : m = 2 * half - 1 := by unfold Mst at h; omega
theorem Mst.pos {m half : Int} (h : Mst m half) : 0 < half := by unfold Mst at h; omega
set_option maxHeartbeats 1000000 in
theorem ctry_any (g o : Nat) (x m half : Int) (b : Bool) (hm : Mst m half) (hx0 : 0 ≤ x) (hx : x ≤ m) (w : World) (h0 : w.cell? ⟨g, o, none⟩ = some (.int .i64 x)) (h1 : w.cell? ⟨g, o + 1, none⟩ = some (.int .i64 m)) (hf : w.frozen? ⟨g, o, none⟩ = false) :
    Calls Try.prog 39 #[.pointer (some ⟨g, o, none⟩), .bool b] w fun e w' => e = .returned (.bool (decide (half ≤ x) == b)) ∧ ∃ k : Nat, w' = (w.setCell ⟨g, o, none⟩ (.int .i64 (stp x b m))).drewN k := by
  have HH := shade (isHigh_any g o x m half hm w h0 h1)
  have HC := shade (fun k : Nat => count_any g o x m b hx0 hx hm.le (w.drewN k) h0 h1 hf)
  clear h0 h1 hf
  go_enter Try.func39, Try.ntmps39
  go_wp2_with fail
  refine HH.out.mono ?_
  rintro e w1 ⟨rfl, k, rfl⟩
  go_wp2_with fail
  refine (HC.out k).mono ?_
  rintro e w2 ⟨rfl, k2, rfl⟩
  go_wp2_with fail
  go_ret
  exact ⟨rfl, k + k2, drewN_drewN (w.setCell ⟨g, o, none⟩ (.int .i64 (stp x b m))) k k2⟩
set_option maxHeartbeats 1000000 in
theorem counterOf_any (b f : Int) (m : Int) (hb : b = 1 ∧ m = 1 ∨ b = 2 ∧ m = 3 ∨ b = 3 ∧ m = 7) (w : World) :
    Calls Try.prog 38 #[.int .i64 b, .int .i64 f] w fun e w' => e = .returned (.agg #[.int .i64 f, .int .i64 m]) ∧ w.grownBy w' none ∧ w'.heap.size = w.heap.size + 1 := by
  rcases hb with ⟨rfl, rfl⟩ | ⟨rfl, rfl⟩ | ⟨rfl, rfl⟩
  all_goals
    go_enter Try.func38, Try.ntmps38
    go_wp2
    refine bodyPost_ret (results_cell_row rfl _ _ _ _ _ (0, 0) _ rfl (Holds5.fresh w _ _) Try.underlying49 rfl (by kernel_rfl)) rfl ?_
    exact ⟨rfl, World.grownBy_alloc _ _ _, World.size_alloc _ _⟩
end Go.Proofs.Ytfmcmndhghfoeaa
