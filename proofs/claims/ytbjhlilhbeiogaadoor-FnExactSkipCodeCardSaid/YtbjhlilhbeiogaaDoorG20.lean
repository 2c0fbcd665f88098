/- The reader's pick returns a number below its argument, moves on by one place and changes nothing but the reader, for a reader of at most 2000 bytes that has been asked fewer than a million times. The reader's one and of return one of the list's elements and change nothing but the reader, for a reader of at most 2000 bytes that has been asked fewer than a million times and a list that is not empty. The model's goodInstr and someInstr return an instruction and change nothing but the reader, for a reader of at most 2000 bytes that has been asked fewer than a million times. The model's someInstr returns an instruction and changes nothing but the reader, for a reader of at most 2000 bytes that has been asked fewer than a million times. newReader makes a reader over the first 2000 bytes, and DrawEncodeInstr and DrawValidInstr return an instruction and change nothing that was there, for bytes whose cells can be read. -/
import Derived.Test.YtbjhlilhbeiogaaDoorW0
import Derived.BigQuiet
import Derived.Deep.QuietTactic
import Derived.Laws.AppendOwn
import Derived.OwnWalk
import Derived.Deep.RegionHeld
import Derived.Test.YtbjhlilhbeiogaaDoorW2
namespace Go.Proofs.YtbjhlilhbeiogaaDoor
open Go.RowKit


/-- What a pick leaves: a number below m, 0 if there is none. -/
def PickOk (m : Int) (W : World) (e : Ending) (w' : World) : Prop := ∃ v : Int, (0 ≤ v ∧ (1 ≤ m → v < m) ∧ (m < 1 → v = 0)) ∧ e = .returned (.int .i64 v) ∧ ∃ k : Nat, W.drewN k = w'
theorem xor_nat (a b : Nat) (ha : a < 9223372036854775808) (hb : b < 9223372036854775808) : ∃ c : Nat, bits .xor .i64 (a : Int) (b : Int) = (c : Int) := by
  have h1 : (BitVec.ofInt 64 (a : Int)).toNat = a := by
    rw [BitVec.ofInt_natCast, BitVec.toNat_ofNat]
    exact Nat.mod_eq_of_lt (by omega)
  have h2 : (BitVec.ofInt 64 (b : Int)).toNat = b := by
    rw [BitVec.ofInt_natCast, BitVec.toNat_ofNat]
    exact Nat.mod_eq_of_lt (by omega)
  have hx : a ^^^ b < 2 ^ 63 := Nat.xor_lt_two_pow (by omega) (by omega)
  refine ⟨a ^^^ b, ?_⟩
  show IntKind.i64.wrap ((BitVec.ofInt 64 (a : Int) ^^^ BitVec.ofInt 64 (b : Int)).toNat : Int) = _
  rw [BitVec.toNat_xor, h1, h2, IntKind.wrap_i64]
  omega


end Go.Proofs.YtbjhlilhbeiogaaDoor
namespace Go.Proofs.YtbjhlilhbeiogaaDoor
open Go.RowKit


theorem only_refl (w : World) (g : Nat) : w.grownBy w (some g) := ⟨rfl, rfl, rfl, Nat.le_refl _, fun _ _ _ => rfl⟩
theorem only_alloc {a w : World} {g : Nat} (h : a.grownBy w (some g)) (o : Obj) : a.grownBy (w.alloc o) (some g) :=
  ⟨h.os, h.tape, h.output, Nat.le_trans h.size (by simp), fun i hi hne => (Below.heap_alloc w o i (Nat.lt_of_lt_of_le hi h.size)).trans (h.block i hi hne)⟩
theorem only_put {a w : World} {g : Nat} (h : a.grownBy w (some g)) {p : Addr} (hp : a.heap.size ≤ p.block ∨ p.block = g) (u : Value) : a.grownBy (w.setCell p u) (some g) :=
  ⟨h.os, h.tape, h.output, by simpa [World.setCell] using h.size, fun i hi hne => (Below.heap_setCell w p u i (by
    rintro rfl
    rcases hp with hp | hp
    · omega
    · exact hne (by rw [hp]))).trans (h.block i hi hne)⟩
theorem only_drewN {a w : World} {g : Nat} (h : a.grownBy w (some g)) (k : Nat) : a.grownBy (w.drewN k) (some g) := ⟨h.os, h.tape, h.output, h.size, h.block⟩
theorem only_trans {a b c : World} {g : Nat} (h : a.grownBy b (some g)) (h' : b.grownBy c (some g)) : a.grownBy c (some g) :=
  ⟨h'.os.trans h.os, h'.tape.trans h.tape, h'.output.trans h.output, Nat.le_trans h.size h'.size, fun i hi hne => (h'.block i (Nat.lt_of_lt_of_le hi h.size) hne).trans (h.block i hi hne)⟩
theorem only_cell {a w : World} {g : Nat} (h : a.grownBy w (some g)) {p : Addr} {u : Value} (hp : p.block ≠ g) (hc : a.cell? p = some u) : w.cell? p = some u := by
  rw [World.cell?_of_block (h.block p.block (World.block_lt_of_cell? a p hc) (fun e => hp (by simpa using e)))]
  exact hc
section
variable {w w' : World} {g : Nat} {A : Option Addr} {n cap : Nat} {zs : List Int} {p : Nat}
end
end Go.Proofs.YtbjhlilhbeiogaaDoor
namespace Go.Proofs.YtbjhlilhbeiogaaDoor
open Go.RowKit
theorem only_five {a w : World} {g k : Nat} (h : a.grownBy w (some g)) (hk : a.heap.size ≤ k) (u0 u1 u2 u3 u4 : Value) :
    a.grownBy (((((w.setCell ⟨k, 0, none⟩ u0).setCell ⟨k, 1, none⟩ u1).setCell ⟨k, 2, none⟩ u2).setCell ⟨k, 3, none⟩ u3).setCell ⟨k, 4, none⟩ u4) (some g) :=
  only_put (only_put (only_put (only_put (only_put h (p := ⟨k, 0, none⟩) (.inl hk) u0) (p := ⟨k, 1, none⟩) (.inl hk) u1) (p := ⟨k, 2, none⟩) (.inl hk) u2) (p := ⟨k, 3, none⟩) (.inl hk) u3) (p := ⟨k, 4, none⟩) (.inl hk) u4


end Go.Proofs.YtbjhlilhbeiogaaDoor
namespace Go.Proofs.YtbjhlilhbeiogaaDoor
open Go.RowKit
end Go.Proofs.YtbjhlilhbeiogaaDoor
namespace Go.Proofs.YtbjhlilhbeiogaaDoor
open Go.RowKit
/-- Bytes that came in. -/
structure Bys (w : World) (A : Option Addr) (n cap : Nat) (zs : List Int) : Prop where
  fits : n ≤ cap
  big : cap ≤ maxLen
  cells : 0 < n → ∃ b off, A = some ⟨b, off, none⟩ ∧ b < w.heap.size ∧ ∀ j, j < n → w.cell? ⟨b, off + j, none⟩ = some (.int .u8 (zs.getD j 0))
  rng : ∀ j, j < n → 0 ≤ zs.getD j 0 ∧ zs.getD j 0 ≤ 255
/-- What is drawn: some instruction, and nothing that was there has changed. -/
def DrawOk (w : World) (e : Ending) (w' : World) : Prop := ∃ (op : ByteArray) (d a b k : Int), e = .returned (IV op d a b k) ∧ Below w.heap.size w w'


end Go.Proofs.YtbjhlilhbeiogaaDoor