/- Counters of the program: what they guess, and what they learn. -/
import Derived.Test.YtfmcmndhghfoeaaZ10
import Derived.Test.YtfmcmndhghfoeaaW110
namespace Go.Proofs.Ytfmcmndhghfoeaa
open Go.RowKit
/-- Greatest numbers of counters, and their halves. -/
def Mst (m half : Int) : Prop := m = 1 ∧ half = 1 ∨ m = 3 ∧ half = 2 ∨ m = 7 ∧ half = 4
set_option maxHeartbeats 1000000 in
theorem isHigh_any (g o : Nat) (x m half : Int) (hm : Mst m half) (w : World) (h0 : w.cell? ⟨g, o, none⟩ = some (.int .i64 x)) (h1 : w.cell? ⟨g, o + 1, none⟩ = some (.int .i64 m)) :
    Calls Try.prog 52 #[.pointer (some ⟨g, o, none⟩)] w fun e w' => e = .returned (.bool (decide (half ≤ x))) ∧ ∃ k : Nat, w' = w.drewN k := by
  rcases hm with ⟨rfl, rfl⟩ | ⟨rfl, rfl⟩ | ⟨rfl, rfl⟩
  all_goals
    go_enter Try.func52, Try.ntmps52
    go_wp2
    go_quiet (fail)
    go_wp2
    go_ret
    exact ⟨rfl, _, rfl⟩
set_option maxHeartbeats 4000000 in
theorem countUp_any (g o : Nat) (x m : Int) (hx0 : 0 ≤ x) (hx : x ≤ m) (hm : m ≤ 7) (w : World) (h0 : w.cell? ⟨g, o, none⟩ = some (.int .i64 x)) (h1 : w.cell? ⟨g, o + 1, none⟩ = some (.int .i64 m)) (hf : w.frozen? ⟨g, o, none⟩ = false) :
    Calls Try.prog 53 #[.pointer (some ⟨g, o, none⟩), .bool true] w fun e w' => e = .returned (.tuple #[]) ∧ ∃ k : Nat, w' = (w.setCell ⟨g, o, none⟩ (.int .i64 (stp x true m))).drewN k := by
  unfold stp
  rw [if_pos rfl]
  have hw : IntKind.i64.wrap (x + 1) = x + 1 := by rw [IntKind.wrap_i64]; omega
  rcases (show x < m ∨ x = m by omega) with h | h
  · have e1 : min (x + 1) m = x + 1 := by omega
    have i1 : x + 1 ≤ m := by omega
    rw [e1]
    go_enter Try.func53, Try.ntmps53
    go_wp2
    go_region_with (fail)
    all_goals (try simp only [hw] at *)
    all_goals (first | (exfalso; omega) | skip)
    all_goals
      go_wp2
      go_end0
      first
        | exact ⟨rfl, _, rfl⟩
        | exact ⟨rfl, _, by rw [show m = x + 1 by omega]; rfl⟩
  · subst h
    have e1 : min (x + 1) x = x := by omega
    rw [e1]
    go_enter Try.func53, Try.ntmps53
    go_wp2
    go_region_with (fail)
    all_goals (try simp only [hw] at *)
    all_goals (first | (exfalso; omega) | skip)
    all_goals
      go_wp2
      go_end0
      exact ⟨rfl, _, rfl⟩
set_option maxHeartbeats 4000000 in
theorem countDown_any (g o : Nat) (x m : Int) (hx0 : 0 ≤ x) (hx : x ≤ m) (hm : m ≤ 7) (w : World) (h0 : w.cell? ⟨g, o, none⟩ = some (.int .i64 x)) (hf : w.frozen? ⟨g, o, none⟩ = false) :
    Calls Try.prog 53 #[.pointer (some ⟨g, o, none⟩), .bool false] w fun e w' => e = .returned (.tuple #[]) ∧ ∃ k : Nat, w' = (w.setCell ⟨g, o, none⟩ (.int .i64 (stp x false m))).drewN k := by
  unfold stp
  rw [if_neg (by decide)]
  rcases (show 0 < x ∨ x = 0 by omega) with h | h
  · have e1 : max (x - 1) 0 = x - 1 := by omega
    have hw : IntKind.i64.wrap (x - 1) = x - 1 := by rw [IntKind.wrap_i64]; omega
    have i1 : 0 ≤ x - 1 := by omega
    rw [e1]
    go_enter Try.func53, Try.ntmps53
    go_wp2
    (try simp only [hw] at *)
    all_goals (first | (exfalso; omega) | skip)
    all_goals
      (try go_wp2)
      go_end0
      first
        | exact ⟨rfl, 0, rfl⟩
        | exact ⟨rfl, 0, by rw [show x - 1 = 0 by omega]; rfl⟩
  · subst h
    have e1 : max ((0 : Int) - 1) 0 = 0 := by omega
    rw [e1]
    go_enter Try.func53, Try.ntmps53
    go_wp2
    go_end0
    exact ⟨rfl, 0, rfl⟩
theorem count_any (g o : Nat) (x m : Int) (b : Bool) (hx0 : 0 ≤ x) (hx : x ≤ m) (hm : m ≤ 7) (w : World) (h0 : w.cell? ⟨g, o, none⟩ = some (.int .i64 x)) (h1 : w.cell? ⟨g, o + 1, none⟩ = some (.int .i64 m)) (hf : w.frozen? ⟨g, o, none⟩ = false) :
    Calls Try.prog 53 #[.pointer (some ⟨g, o, none⟩), .bool b] w fun e w' => e = .returned (.tuple #[]) ∧ ∃ k : Nat, w' = (w.setCell ⟨g, o, none⟩ (.int .i64 (stp x b m))).drewN k := by
  rcases b with _ | _
  · exact countDown_any g o x m hx0 hx hm w h0 hf
  · exact countUp_any g o x m hx0 hx hm w h0 h1 hf
end Go.Proofs.Ytfmcmndhghfoeaa
