/- Machines that the call makes: what a call leaves that makes one. -/
import Derived.Test.YtcfnoihjpiklhaaDoorW31
import Derived.BigRegion
import Derived.Laws.ResultCell
namespace Go.Proofs.YtcfnoihjpiklhaaDoor
open Go.RowKit
/-- A machine as a value. -/
abbrev MV (at' : Int) (A1 : Option Addr) (n1 c1 : Nat) (A2 : Option Addr) (n2 c2 : Nat) : Value := .agg #[.int .i64 at', .slice A1 n1 c1, .slice A2 n2 c2]
/-- What a call that makes a machine leaves. -/
def MachOk (w : World) (at' : Int) (n1 n2 : Nat) (f1 f2 : Nat → Int) (e : Ending) (w' : World) : Prop :=
  ∃ g1 c1 g2 c2, e = .returned (MV at' (some ⟨g1, 0, none⟩) n1 c1 (some ⟨g2, 0, none⟩) n2 c2) ∧ g1 ≠ g2 ∧ Own w' w.heap.size (some ⟨g1, 0, none⟩) n1 c1 f1 ∧ Own w' w.heap.size (some ⟨g2, 0, none⟩) n2 c2 f2 ∧ w.grownBy w' none

end Go.Proofs.YtcfnoihjpiklhaaDoor