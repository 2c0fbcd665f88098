/- Walks of kindOf, EncodeInstr and their like. -/
import Derived.Test.YtcfnoihjpiklhaaDoorW8
namespace Go.Proofs.YtcfnoihjpiklhaaDoor
open Go.RowKit


theorem ret_i {k : IntKind} {x y : Int} (h : x = y) : Ending.returned (.int k x) = .returned (.int k y) := by rw [h]
/-- The number of an instruction. -/
def encV (l : List UInt8) (d a b k : Int) : Int := if vB l d a b k = true then (((wordN l * 4 + d) * 4 + a) * 4 + b) * 256 + k else -1
theorem enc_no {l : List UInt8} {d a b k : Int} (h : vB l d a b k = false) : encV l d a b k = -1 := by simp [encV, h]
theorem enc_yes {l : List UInt8} {d a b k : Int} (h : vB l d a b k = true) : encV l d a b k = (((wordN l * 4 + d) * 4 + a) * 4 + b) * 256 + k := by simp [encV, h]
theorem VI_bounds {l : List UInt8} {d a b k : Int} (h : VI l d a b k) : (0 ≤ wordN l ∧ wordN l ≤ 9) ∧ (0 ≤ d ∧ d ≤ 3) ∧ (0 ≤ a ∧ a ≤ 3) ∧ (0 ≤ b ∧ b ≤ 3) ∧ (0 ≤ k ∧ k ≤ 255) := by
  unfold VI at h
  omega
end Go.Proofs.YtcfnoihjpiklhaaDoor