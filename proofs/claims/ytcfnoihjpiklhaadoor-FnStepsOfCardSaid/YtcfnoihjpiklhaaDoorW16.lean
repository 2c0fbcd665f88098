/- UsesOf and the model's UsesOf return the same two sets of registers, as defined here, at every instruction (UsesOf: provided that wordTexts holds its words). -/
import Derived.Test.YtcfnoihjpiklhaaDoorW13
namespace Go.Proofs.YtcfnoihjpiklhaaDoor
open Go.RowKit
/-- One register as a set. -/
def sh (n : Int) : Int := wrap64 (2 ^ n.toNat)
/-- The sets of registers that a valid instruction reads and writes, by its word. -/
def usesR (n : Nat) (d a b : Int) : Int := if n = 0 then 0 else if n ≤ 4 then bits .or .i64 (sh a) (sh b) else if n = 5 then sh a else if n = 6 then bits .or .i64 (sh d) (sh a) else if n = 7 then sh a else 0
/-- Those that it writes. -/
def usesW (n : Nat) (d : Int) : Int := if n ≤ 5 then sh d else 0


theorem usesR_0 (d a b : Int) : usesR 0 d a b = 0 := by unfold usesR; repeat (first | rw [if_pos (by omega)] | rw [if_neg (by omega)])
theorem usesW_0 (d : Int) : usesW 0 d = sh d := by unfold usesW; first | exact if_pos (by omega) | exact if_neg (by omega)
theorem usesE_0 (d a b : Int) : Ending.returned (.tuple #[.int .i64 (0), .int .i64 (sh d)]) = .returned (.tuple #[.int .i64 (usesR 0 d a b), .int .i64 (usesW 0 d)]) := by rw [usesR_0, usesW_0]
theorem usesR_1 (d a b : Int) : usesR 1 d a b = bits .or .i64 (sh a) (sh b) := by unfold usesR; repeat (first | rw [if_pos (by omega)] | rw [if_neg (by omega)])
theorem usesW_1 (d : Int) : usesW 1 d = sh d := by unfold usesW; first | exact if_pos (by omega) | exact if_neg (by omega)
theorem usesE_1 (d a b : Int) : Ending.returned (.tuple #[.int .i64 (bits .or .i64 (sh a) (sh b)), .int .i64 (sh d)]) = .returned (.tuple #[.int .i64 (usesR 1 d a b), .int .i64 (usesW 1 d)]) := by rw [usesR_1, usesW_1]
theorem usesR_2 (d a b : Int) : usesR 2 d a b = bits .or .i64 (sh a) (sh b) := by unfold usesR; repeat (first | rw [if_pos (by omega)] | rw [if_neg (by omega)])
theorem usesW_2 (d : Int) : usesW 2 d = sh d := by unfold usesW; first | exact if_pos (by omega) | exact if_neg (by omega)
theorem usesE_2 (d a b : Int) : Ending.returned (.tuple #[.int .i64 (bits .or .i64 (sh a) (sh b)), .int .i64 (sh d)]) = .returned (.tuple #[.int .i64 (usesR 2 d a b), .int .i64 (usesW 2 d)]) := by rw [usesR_2, usesW_2]
theorem usesR_3 (d a b : Int) : usesR 3 d a b = bits .or .i64 (sh a) (sh b) := by unfold usesR; repeat (first | rw [if_pos (by omega)] | rw [if_neg (by omega)])
theorem usesW_3 (d : Int) : usesW 3 d = sh d := by unfold usesW; first | exact if_pos (by omega) | exact if_neg (by omega)
theorem usesE_3 (d a b : Int) : Ending.returned (.tuple #[.int .i64 (bits .or .i64 (sh a) (sh b)), .int .i64 (sh d)]) = .returned (.tuple #[.int .i64 (usesR 3 d a b), .int .i64 (usesW 3 d)]) := by rw [usesR_3, usesW_3]
theorem usesR_4 (d a b : Int) : usesR 4 d a b = bits .or .i64 (sh a) (sh b) := by unfold usesR; repeat (first | rw [if_pos (by omega)] | rw [if_neg (by omega)])
theorem usesW_4 (d : Int) : usesW 4 d = sh d := by unfold usesW; first | exact if_pos (by omega) | exact if_neg (by omega)
theorem usesE_4 (d a b : Int) : Ending.returned (.tuple #[.int .i64 (bits .or .i64 (sh a) (sh b)), .int .i64 (sh d)]) = .returned (.tuple #[.int .i64 (usesR 4 d a b), .int .i64 (usesW 4 d)]) := by rw [usesR_4, usesW_4]
theorem usesR_5 (d a b : Int) : usesR 5 d a b = sh a := by unfold usesR; repeat (first | rw [if_pos (by omega)] | rw [if_neg (by omega)])
theorem usesW_5 (d : Int) : usesW 5 d = sh d := by unfold usesW; first | exact if_pos (by omega) | exact if_neg (by omega)
theorem usesE_5 (d a b : Int) : Ending.returned (.tuple #[.int .i64 (sh a), .int .i64 (sh d)]) = .returned (.tuple #[.int .i64 (usesR 5 d a b), .int .i64 (usesW 5 d)]) := by rw [usesR_5, usesW_5]
theorem usesR_6 (d a b : Int) : usesR 6 d a b = bits .or .i64 (sh d) (sh a) := by unfold usesR; repeat (first | rw [if_pos (by omega)] | rw [if_neg (by omega)])
theorem usesW_6 (d : Int) : usesW 6 d = 0 := by unfold usesW; first | exact if_pos (by omega) | exact if_neg (by omega)
theorem usesE_6 (d a b : Int) : Ending.returned (.tuple #[.int .i64 (bits .or .i64 (sh d) (sh a)), .int .i64 (0)]) = .returned (.tuple #[.int .i64 (usesR 6 d a b), .int .i64 (usesW 6 d)]) := by rw [usesR_6, usesW_6]
theorem usesR_7 (d a b : Int) : usesR 7 d a b = sh a := by unfold usesR; repeat (first | rw [if_pos (by omega)] | rw [if_neg (by omega)])
theorem usesW_7 (d : Int) : usesW 7 d = 0 := by unfold usesW; first | exact if_pos (by omega) | exact if_neg (by omega)
theorem usesE_7 (d a b : Int) : Ending.returned (.tuple #[.int .i64 (sh a), .int .i64 (0)]) = .returned (.tuple #[.int .i64 (usesR 7 d a b), .int .i64 (usesW 7 d)]) := by rw [usesR_7, usesW_7]
theorem usesR_8 (d a b : Int) : usesR 8 d a b = 0 := by unfold usesR; repeat (first | rw [if_pos (by omega)] | rw [if_neg (by omega)])
theorem usesW_8 (d : Int) : usesW 8 d = 0 := by unfold usesW; first | exact if_pos (by omega) | exact if_neg (by omega)
theorem usesE_8 (d a b : Int) : Ending.returned (.tuple #[.int .i64 (0), .int .i64 (0)]) = .returned (.tuple #[.int .i64 (usesR 8 d a b), .int .i64 (usesW 8 d)]) := by rw [usesR_8, usesW_8]
theorem usesR_9 (d a b : Int) : usesR 9 d a b = 0 := by unfold usesR; repeat (first | rw [if_pos (by omega)] | rw [if_neg (by omega)])
theorem usesW_9 (d : Int) : usesW 9 d = 0 := by unfold usesW; first | exact if_pos (by omega) | exact if_neg (by omega)
theorem usesE_9 (d a b : Int) : Ending.returned (.tuple #[.int .i64 (0), .int .i64 (0)]) = .returned (.tuple #[.int .i64 (usesR 9 d a b), .int .i64 (usesW 9 d)]) := by rw [usesR_9, usesW_9]

theorem or_comm_i (x y : Int) : bits .or .i64 x y = bits .or .i64 y x := by
  show IntKind.i64.wrap ((BitVec.ofInt 64 x ||| BitVec.ofInt 64 y).toNat : Int) = IntKind.i64.wrap ((BitVec.ofInt 64 y ||| BitVec.ofInt 64 x).toNat : Int)
  rw [BitVec.or_comm]


end Go.Proofs.YtcfnoihjpiklhaaDoor