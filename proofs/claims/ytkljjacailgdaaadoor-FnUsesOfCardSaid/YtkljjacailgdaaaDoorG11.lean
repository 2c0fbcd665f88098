/- Walks of kindOf, EncodeInstr and their like. Walks of DecodeInstr. -/
import Derived.Test.YtkljjacailgdaaaDoorW8
namespace Go.Proofs.YtkljjacailgdaaaDoor
open Go.RowKit


theorem ret_i {k : IntKind} {x y : Int} (h : x = y) : Ending.returned (.int k x) = .returned (.int k y) := by rw [h]
/-- The number of an instruction. -/
def encV (l : List UInt8) (d a b k : Int) : Int := if vB l d a b k = true then (((wordN l * 4 + d) * 4 + a) * 4 + b) * 256 + k else -1
theorem enc_no {l : List UInt8} {d a b k : Int} (h : vB l d a b k = false) : encV l d a b k = -1 := by simp [encV, h]
theorem enc_yes {l : List UInt8} {d a b k : Int} (h : vB l d a b k = true) : encV l d a b k = (((wordN l * 4 + d) * 4 + a) * 4 + b) * 256 + k := by simp [encV, h]
theorem VI_bounds {l : List UInt8} {d a b k : Int} (h : VI l d a b k) : (0 ≤ wordN l ∧ wordN l ≤ 9) ∧ (0 ≤ d ∧ d ≤ 3) ∧ (0 ≤ a ∧ a ≤ 3) ∧ (0 ≤ b ∧ b ≤ 3) ∧ (0 ≤ k ∧ k ≤ 255) := by
  unfold VI at h
  omega
end Go.Proofs.YtkljjacailgdaaaDoor
namespace Go.Proofs.YtkljjacailgdaaaDoor
open Go.RowKit
/-- The word of an index. -/
def wT : Nat → ByteArray
  | 0 => ⟨#[115, 101, 116]⟩
  | 1 => ⟨#[97, 100, 100]⟩
  | 2 => ⟨#[115, 117, 98]⟩
  | 3 => ⟨#[109, 117, 108]⟩
  | 4 => ⟨#[108, 116]⟩
  | 5 => ⟨#[108, 100]⟩
  | 6 => ⟨#[115, 116]⟩
  | 7 => ⟨#[98, 122]⟩
  | 8 => ⟨#[106, 109, 112]⟩
  | _ => ⟨#[104, 108, 116]⟩
theorem wtCell {w : World} (h : WT w) (q : Nat) (hq : q < 10) : w.cell? ⟨0, q, none⟩ = some (.string (wT q)) := by
  obtain ⟨t, fr, h⟩ := h
  rw [cell_of_row w _ q wtCells t fr h]
  match q, hq with
  | 0, _ => rfl
  | 1, _ => rfl
  | 2, _ => rfl
  | 3, _ => rfl
  | 4, _ => rfl
  | 5, _ => rfl
  | 6, _ => rfl
  | 7, _ => rfl
  | 8, _ => rfl
  | 9, _ => rfl

/-- The instruction of a number, as its parts. -/
def decOk (n : Int) : Bool := decide (0 ≤ n) && decide (n < 163840) && vB (wT (n / 16384).toNat).toList (n / 4096 % 4) (n / 1024 % 4) (n / 256 % 4) (n % 256)
theorem decOk_eq (n : Int) (q : Nat) (h0 : 0 ≤ n) (h1 : n < 163840) (hq : n / 16384 = q) : decOk n = vB (wT q).toList (n / 4096 % 4) (n / 1024 % 4) (n / 256 % 4) (n % 256) := by
  simp [decOk, hq, h0, h1]
end Go.Proofs.YtkljjacailgdaaaDoor