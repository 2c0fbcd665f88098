/- The model's someInstr returns an instruction and changes nothing but the reader, for a reader of at most 2000 bytes that has been asked fewer than a million times. -/
import Derived.Test.YtbfgmmljegdbfaaDoorW22
namespace Go.Proofs.YtbfgmmljegdbfaaDoor
open Go.RowKit
/-- What someInstr leaves. -/
def SomeOk2 (w : World) (g : Nat) (A : Option Addr) (n cap : Nat) (zs : List Int) (p : Nat) (e : Ending) (w' : World) : Prop :=
  ∃ (op : ByteArray) (d a b k : Int) (q : Nat), q ≤ p + 20 ∧ e = .returned (IV op d a b k) ∧ Rd w' g A n cap zs q ∧ w.grownBy w' (some g)


end Go.Proofs.YtbfgmmljegdbfaaDoor