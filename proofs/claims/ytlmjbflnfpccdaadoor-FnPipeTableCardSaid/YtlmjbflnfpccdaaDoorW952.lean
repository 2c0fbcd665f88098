/- How long one instruction waits for another, by the model and by the program. -/
import Derived.Test.YtlmjbflnfpccdaaDoorG950
import Derived.Deep.RegionHeld3
namespace Go.Proofs.YtlmjbflnfpccdaaDoor
open Go.RowKit
set_option linter.unusedSimpArgs false
theorem uses_spec (c : Ins) (hc : vI c = true) (w : World) :
    Calls Tryd.prog 63 #[IV c.op c.d c.a c.b c.k] w fun e w' => e = .returned (.tuple #[.int .i64 (rdI c), .int .i64 (wrI c)]) ∧ Below w.heap.size w w' := by
  have h := vI_word hc
  exact specUsesOf_any c.op c.d c.a c.b c.k hc (wordN c.op.toList).toNat (by omega) (by omega) w
theorem uses_impl (c : Ins) (hc : vI c = true) (w : World) (hg : WT w) :
    Calls Tryd.prog 66 #[IV c.op c.d c.a c.b c.k] w fun e w' => e = .returned (.tuple #[.int .i64 (rdI c), .int .i64 (wrI c)]) ∧ Below w.heap.size w w' := by
  have h := vI_word hc
  exact UsesOf_yes c.op c.d c.a c.b c.k w hg hc (wordN c.op.toList).toNat (by omega) (by omega)
theorem wt_1 {a b : Ins} (h : (bits .and .i64 (wrI a) (rdI b) != 0) = true) : wtI a b = lat a.op.toList := if_pos h
theorem wt_2 {a b : Ins} (h : (bits .and .i64 (wrI a) (rdI b) != 0) = false) (h2 : (bits .and .i64 (wrI a) (wrI b) != 0) = true) : wtI a b = max 1 (lat a.op.toList - lat b.op.toList + 1) := by
  unfold wtI
  rw [if_neg (by rw [h]; simp), if_pos h2]
theorem wt_3 {a b : Ins} (h : (bits .and .i64 (wrI a) (rdI b) != 0) = false) (h2 : (bits .and .i64 (wrI a) (wrI b) != 0) = false) (h3 : ((bits .and .i64 (rdI a) (wrI b) != 0) || memB a.op.toList b.op.toList) = true) : wtI a b = 1 := by
  unfold wtI
  rw [if_neg (by rw [h]; simp), if_neg (by rw [h2]; simp), if_pos h3]
theorem wt_4 {a b : Ins} (h : (bits .and .i64 (wrI a) (rdI b) != 0) = false) (h2 : (bits .and .i64 (wrI a) (wrI b) != 0) = false) (h3 : ((bits .and .i64 (rdI a) (wrI b) != 0) || memB a.op.toList b.op.toList) = false) : wtI a b = 0 := by
  unfold wtI
  rw [if_neg (by rw [h]; simp), if_neg (by rw [h2]; simp), if_neg (by rw [h3]; simp)]

end Go.Proofs.YtlmjbflnfpccdaaDoor
