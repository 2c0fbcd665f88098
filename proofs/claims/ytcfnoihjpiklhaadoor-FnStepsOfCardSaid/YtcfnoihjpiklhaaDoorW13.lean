/- Walks of DecodeInstr. -/
import Derived.Test.YtcfnoihjpiklhaaDoorW11
namespace Go.Proofs.YtcfnoihjpiklhaaDoor
open Go.RowKit
/-- The word of an index. -/
def wT : Nat → ByteArray
  | 0 => ⟨#[115, 101, 116]⟩
  | 1 => ⟨#[97, 100, 100]⟩
  | 2 => ⟨#[115, 117, 98]⟩
  | 3 => ⟨#[109, 117, 108]⟩
  | 4 => ⟨#[108, 116]⟩
  | 5 => ⟨#[108, 100]⟩
  | 6 => ⟨#[115, 116]⟩
  | 7 => ⟨#[98, 122]⟩
  | 8 => ⟨#[106, 109, 112]⟩
  | _ => ⟨#[104, 108, 116]⟩
theorem wtCell {w : World} (h : WT w) (q : Nat) (hq : q < 10) : w.cell? ⟨0, q, none⟩ = some (.string (wT q)) := by
  obtain ⟨t, fr, h⟩ := h
  rw [cell_of_row w _ q wtCells t fr h]
  match q, hq with
  | 0, _ => rfl
  | 1, _ => rfl
  | 2, _ => rfl
  | 3, _ => rfl
  | 4, _ => rfl
  | 5, _ => rfl
  | 6, _ => rfl
  | 7, _ => rfl
  | 8, _ => rfl
  | 9, _ => rfl

/-- The instruction of a number, as its parts. -/
def decOk (n : Int) : Bool := decide (0 ≤ n) && decide (n < 163840) && vB (wT (n / 16384).toNat).toList (n / 4096 % 4) (n / 1024 % 4) (n / 256 % 4) (n % 256)
theorem decOk_eq (n : Int) (q : Nat) (h0 : 0 ≤ n) (h1 : n < 163840) (hq : n / 16384 = q) : decOk n = vB (wT q).toList (n / 4096 % 4) (n / 1024 % 4) (n / 256 % 4) (n % 256) := by
  simp [decOk, hq, h0, h1]
end Go.Proofs.YtcfnoihjpiklhaaDoor