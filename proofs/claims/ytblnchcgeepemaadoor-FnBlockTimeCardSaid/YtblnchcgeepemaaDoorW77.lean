/- The laws' marks over a slice of instructions that the call owns: every cell is written, nothing else changes. -/
import Derived.Test.YtblnchcgeepemaaDoorW51
import Derived.Laws.IdiomStrings
import Derived.Laws.Concat
namespace Go.Proofs.YtblnchcgeepemaaDoor
open Go.RowKit
theorem size_one (b : UInt8) (s : ByteArray) : (ByteArray.append ⟨#[b]⟩ s).size = s.size + 1 := by
  have : ((⟨#[b]⟩ : ByteArray) ++ s).size = (⟨#[b]⟩ : ByteArray).size + s.size := ByteArray.size_append
  rw [show ByteArray.append ⟨#[b]⟩ s = (⟨#[b]⟩ : ByteArray) ++ s from rfl, this]
  show 1 + s.size = s.size + 1
  omega
theorem grown_then_some {a b c : World} {g : Nat} (h : a.grownBy b (some g)) (h' : b.grownBy c none) : a.grownBy c (some g) :=
  ⟨h'.os.trans h.os, h'.tape.trans h.tape, h'.output.trans h.output, Nat.le_trans h.size h'.size, fun i hi hne => (h'.block i (Nat.lt_of_lt_of_le hi h.size) (by simp)).trans (h.block i hi hne)⟩
end Go.Proofs.YtblnchcgeepemaaDoor
