/- The model's ValidMachine: what it answers, for every machine whose numbers can be read. -/
import Derived.Test.YtlhfmjlcpcopkaaDoorW37
import Derived.Test.YtlhfmjlcpcopkaaDoorW52
namespace Go.Proofs.YtlhfmjlcpcopkaaDoor
open Go.RowKit
/-- Is it in the range? -/
def inRB (n lo hi : Int) : Bool := decide (lo ≤ n) && decide (n ≤ hi)
set_option maxHeartbeats 1000000 in
theorem inRB_any (n lo hi : Int) (w : World) :
    Calls Tryd.prog 86 #[.int .i64 n, .int .i64 lo, .int .i64 hi] w fun e w' => e = .returned (.bool (inRB n lo hi)) ∧ w = w' := by
  go_enter Tryd.func86, Tryd.ntmps86
  go_wp2
  all_goals
    go_ret
    exact ⟨by simp [inRB]; try omega, rfl⟩
/-- Are all of the numbers words? -/
def okL (n : Nat) (f : Nat → Int) : Bool := (List.range n).all fun j => inRB (f j) 0 255
theorem okL_iff {n : Nat} {f : Nat → Int} : okL n f = true ↔ ∀ j, j < n → inRB (f j) 0 255 = true := by
  simp [okL, List.all_eq_true]
theorem okL_false {n k : Nat} {f : Nat → Int} (hk : k < n) (h : inRB (f k) 0 255 = false) : okL n f = false := by
  rw [Bool.eq_false_iff]
  intro h'
  rw [okL_iff.1 h' k hk] at h
  cases h
/-- Is the machine valid? -/
def vmB (at' : Int) (n1 n2 : Nat) (f1 f2 : Nat → Int) : Bool := inRB at' 0 40 && (okL n1 f1 && decide (n1 = 4)) && (okL n2 f2 && decide (n2 = 8))


end Go.Proofs.YtlhfmjlcpcopkaaDoor