/- Walks of the laws' helpers over slices of numbers: compare, mark, test, copy, measure. Machines that the call makes: what a call leaves that makes one. A state's machine is a machine of memory of its own with the state's numbers. The laws' helpers over machines: compare, mark, test, measure, copy. -/
import Derived.Test.YtblnchcgeepemaaDoorW30
import Derived.BigRegion
import Derived.Laws.ResultCell
import Derived.Test.YtblnchcgeepemaaDoorW51
namespace Go.Proofs.YtblnchcgeepemaaDoor
open Go.RowKit
theorem info3 : (Tryd.prog.info? 3).map (fun i => (i.zero, i.size, i.bytes)) = some (some (.int .i64 0), 1, 8) := by kernel_rfl


theorem made_zero (n : Nat) : (madeCells #[Value.int .i64 0] n).toList = numL n (fun _ => 0) := by
  rw [toList_madeCells_one]
  unfold numL
  rw [List.map_const', List.length_range]
set_option maxRecDepth 100000 in
set_option maxHeartbeats 1000000 in
theorem clone_at (b off n cap : Nat) (f : Nat → Int) (w : World) (hn0 : 0 < n) (hn : n ≤ 1048576) (h : Nums w (some ⟨b, off, none⟩) n f) :
    Calls Tryd.prog 18 #[.slice (some ⟨b, off, none⟩) n cap] w fun e w' => ∃ g c, e = .returned (.slice (some ⟨g, 0, none⟩) n c) ∧ Own w' w.heap.size (some ⟨g, 0, none⟩) n c f ∧ w.grownBy w' none := by
  obtain ⟨i0, hi, hz0, hz1, hz2⟩ := info_parts info3
  have H := shade h
  clear h
  have he : ∀ W : World, (binOp .eql 25 (.slice (some ⟨b, off, none⟩) n cap) (.slice none 0 0)).run Tryd.prog W = .ok (.bool false) W := fun _ => rfl
  go_enter Tryd.func18, Tryd.ntmps18
  go_wp2_with (first
    | (at_builtin; refine wpList_append_grows _ rfl _ _ 25 rfl 3 i0 (.int .i64 0) 1 8 Tryd.underlying25 hi hz0 hz1 hz2 rfl (by decide) _ 0 0 [] rfl (fun _ => ⟨rfl, rfl⟩) rfl (fun _ _ j u h => by simp at h) ⟨b, off, none⟩ n cap (numL n f) rfl (by simp [numL_len]) ((H.out.alloc _).cells) (numL_oneCell n f) (by omega) (by unfold maxLen; omega) (by omega) ?_)
    | go_in)
  intro v' w1 hown hgr
  obtain ⟨g, c, rfl⟩ : ∃ g c, v' = .slice (some ⟨g, 0, none⟩) n c := by
    rcases hown.2 with ⟨_, h0⟩ | ⟨g, c, _, h, _⟩
    · omega
    · exact ⟨g, c, h⟩
  have HO := shade (Own.lower (B' := w.heap.size) hown (by omega))
  have HR := shade (show w.grownBy w1 none from grown_same (World.grownBy_alloc _ _ _) hgr)
  clear hown hgr
  go_wp2
  go_ret
  exact ⟨g, c, rfl, HO.out, HR.out⟩

end Go.Proofs.YtblnchcgeepemaaDoor
namespace Go.Proofs.YtblnchcgeepemaaDoor
open Go.RowKit
/-- A machine as a value. -/
abbrev MV (at' : Int) (A1 : Option Addr) (n1 c1 : Nat) (A2 : Option Addr) (n2 c2 : Nat) : Value := .agg #[.int .i64 at', .slice A1 n1 c1, .slice A2 n2 c2]
/-- What a call that makes a machine leaves. -/
def MachOk (w : World) (at' : Int) (n1 n2 : Nat) (f1 f2 : Nat → Int) (e : Ending) (w' : World) : Prop :=
  ∃ g1 c1 g2 c2, e = .returned (MV at' (some ⟨g1, 0, none⟩) n1 c1 (some ⟨g2, 0, none⟩) n2 c2) ∧ g1 ≠ g2 ∧ Own w' w.heap.size (some ⟨g1, 0, none⟩) n1 c1 f1 ∧ Own w' w.heap.size (some ⟨g2, 0, none⟩) n2 c2 f2 ∧ w.grownBy w' none

end Go.Proofs.YtblnchcgeepemaaDoor
namespace Go.Proofs.YtblnchcgeepemaaDoor
open Go.RowKit
/-- A state as a value. -/
abbrev SV (at' : Int) (f1 f2 : Nat → Int) : Value := .agg #[.int .i64 at', .int .i64 (f1 0), .int .i64 (f1 1), .int .i64 (f1 2), .int .i64 (f1 3), .int .i64 (f2 0), .int .i64 (f2 1), .int .i64 (f2 2), .int .i64 (f2 3), .int .i64 (f2 4), .int .i64 (f2 5), .int .i64 (f2 6), .int .i64 (f2 7)]
theorem cell_drew {w : World} {a : Addr} {v : Value} (h : w.cell? a = some v) : w.drew.cell? a = some v := h
theorem Own.far {w : World} {B g n c r : Nat} {f : Nat → Int} (h : Own w B (some ⟨g, 0, none⟩) n c f) (hne : g ≠ r) (o : Nat) (u : Value) : Own (w.setCell ⟨r, o, none⟩ u) B (some ⟨g, 0, none⟩) n c f :=
  World.ownsRow.kept h (grown_set r o u) (.inr (by
    show some g ≠ some r
    simpa using hne))
theorem grown_put {a w : World} (h : a.grownBy w none) {r : Nat} (hr : a.heap.size ≤ r) (o : Nat) (u : Value) : a.grownBy (w.setCell ⟨r, o, none⟩ u) none := grown_then h (grown_set r o u) hr
theorem Own.on {w w' : World} {B g n c : Nat} {f : Nat → Int} (h : Own w B (some ⟨g, 0, none⟩) n c f) (hg : w.grownBy w' none) : Own w' B (some ⟨g, 0, none⟩) n c f :=
  World.ownsRow.kept h hg (.inr (by
    show some g ≠ none
    simp))
theorem state_nums {w : World} {s : Nat} {t : TypeId} {at' : Int} {f1 f2 : Nat → Int} (h : Holds5 w s t #[.int .i64 at', .int .i64 (f1 0), .int .i64 (f1 1), .int .i64 (f1 2), .int .i64 (f1 3), .int .i64 (f2 0), .int .i64 (f2 1), .int .i64 (f2 2), .int .i64 (f2 3), .int .i64 (f2 4), .int .i64 (f2 5), .int .i64 (f2 6), .int .i64 (f2 7)]) : Nums w (some ⟨s, 1, none⟩) 4 f1 ∧ Nums w (some ⟨s, 5, none⟩) 8 f2 := by
  refine ⟨.inr ⟨s, 1, rfl, h.inside, fun j hj => ?_⟩, .inr ⟨s, 5, rfl, h.inside, fun j hj => ?_⟩⟩
  · rw [h.look]
    match j, hj with
    | 0, _ => rfl
    | 1, _ => rfl
    | 2, _ => rfl
    | 3, _ => rfl
  · rw [h.look]
    match j, hj with
    | 0, _ => rfl
    | 1, _ => rfl
    | 2, _ => rfl
    | 3, _ => rfl
    | 4, _ => rfl
    | 5, _ => rfl
    | 6, _ => rfl
    | 7, _ => rfl
end Go.Proofs.YtblnchcgeepemaaDoor
namespace Go.Proofs.YtblnchcgeepemaaDoor
open Go.RowKit
/-- Only the blocks g1 and g2 may have changed. -/
structure But (w w' : World) (g1 g2 : Nat) : Prop where
  os : w'.os = w.os
  tape : w'.tape = w.tape
  output : w'.output = w.output
  size : w.heap.size ≤ w'.heap.size
  block : ∀ i, i < w.heap.size → i ≠ g1 → i ≠ g2 → w'.heap[i]? = w.heap[i]?
theorem But.of1 {w w' : World} {g1 : Nat} (g2 : Nat) (h : w.grownBy w' (some g1)) : But w w' g1 g2 := ⟨h.os, h.tape, h.output, h.size, fun i hi h1 _ => h.block i hi (by simpa using h1)⟩
theorem But.of2 {w w' : World} (g1 : Nat) {g2 : Nat} (h : w.grownBy w' (some g2)) : But w w' g1 g2 := ⟨h.os, h.tape, h.output, h.size, fun i hi _ h1 => h.block i hi (by simpa using h1)⟩
theorem But.of {w w' : World} (g1 g2 : Nat) (h : w.grownBy w' none) : But w w' g1 g2 := ⟨h.os, h.tape, h.output, h.size, fun i hi _ _ => h.block i hi (by simp)⟩
theorem But.trans {a b c : World} {g1 g2 : Nat} (h : But a b g1 g2) (h' : But b c g1 g2) : But a c g1 g2 :=
  ⟨h'.os.trans h.os, h'.tape.trans h.tape, h'.output.trans h.output, Nat.le_trans h.size h'.size, fun i hi h1 h2 => (h'.block i (Nat.lt_of_lt_of_le hi h.size) h1 h2).trans (h.block i hi h1 h2)⟩
theorem But.below {w w' : World} {g1 g2 B : Nat} (h : But w w' g1 g2) (h1 : B ≤ g1) (h2 : B ≤ g2) (hB : B ≤ w.heap.size) : Below B w w' := ⟨h.os, h.tape, h.output, h.size, fun i hi => h.block i (by omega) (by omega) (by omega)⟩
theorem But.holds {w w' : World} {g1 g2 g : Nat} {t : TypeId} {cs : Array Value} (h : But w w' g1 g2) (hh : Holds5 w g t cs) (h1 : g ≠ g1) (h2 : g ≠ g2) : Holds5 w' g t cs := (h.block g hh.inside h1 h2).trans hh
theorem But.nums {w w' : World} {g1 g2 : Nat} {A : Option Addr} {n : Nat} {f : Nat → Int} (h : But w w' g1 g2) (hh : Nums w A n f) (hne : ∀ b off, A = some ⟨b, off, none⟩ → b ≠ g1 ∧ b ≠ g2) : Nums w' A n f := by
  rcases hh with hh | ⟨b, off, hA, hlt, hc⟩
  · exact .inl hh
  · obtain ⟨n1, n2⟩ := hne b off hA
    exact .inr ⟨b, off, hA, Nat.lt_of_lt_of_le hlt h.size, fun j hj => (World.cell?_of_block (a := ⟨b, off + j, none⟩) (h.block b hlt n1 n2)).trans (hc j hj)⟩


/-- What a slice's block is: below the heap's size, if it has elements. -/
theorem Nums.ne {w : World} {A : Option Addr} {n : Nat} {f : Nat → Int} (h : Nums w A n f) (o : Obj) : Nums (w.alloc o) A n f := h.alloc o
end Go.Proofs.YtblnchcgeepemaaDoor