/- What StepMachine and its model leave, in one form; marks on it. -/
import Derived.Test.YtbcncifadklkgaaDoorW76
import Derived.Test.YtbcncifadklkgaaDoorW77
import Derived.Test.YtbcncifadklkgaaDoorW35
namespace Go.Proofs.YtbcncifadklkgaaDoor
open Go.RowKit
/-- The memory of a machine that a call has made: none, or two slices of its own. -/
def RM (wr : World) (B : Nat) (B1 : Option Addr) (k1 d1 : Nat) (B2 : Option Addr) (k2 d2 : Nat) (g1 g2 : Nat → Int) : Prop :=
  (k1 = 0 ∧ k2 = 0 ∧ B1 = none ∧ B2 = none) ∨ ∃ r1 r2, B1 = some ⟨r1, 0, none⟩ ∧ B2 = some ⟨r2, 0, none⟩ ∧ r1 ≠ r2 ∧ Own wr B (some ⟨r1, 0, none⟩) k1 d1 g1 ∧ Own wr B (some ⟨r2, 0, none⟩) k2 d2 g2
section
variable {w wr w' : World} {B : Nat} {B1 B2 : Option Addr} {k1 d1 k2 d2 : Nat} {g1 g2 : Nat → Int}
theorem RM.nums (h : RM wr B B1 k1 d1 B2 k2 d2 g1 g2) : Nums wr B1 k1 g1 ∧ Nums wr B2 k2 g2 := by
  rcases h with ⟨h1, h2, _, _⟩ | ⟨r1, r2, rfl, rfl, _, o1, o2⟩
  · exact ⟨.inl h1, .inl h2⟩
  · exact ⟨o1.nums, o2.nums⟩
theorem RM.on (h : RM wr B B1 k1 d1 B2 k2 d2 g1 g2) (hg : wr.grownBy w' none) : RM w' B B1 k1 d1 B2 k2 d2 g1 g2 := by
  rcases h with h | ⟨r1, r2, e1, e2, hne, o1, o2⟩
  · exact .inl h
  · exact .inr ⟨r1, r2, e1, e2, hne, o1.on hg, o2.on hg⟩
/-- Only the blocks of two slices may have changed. -/
structure ButO (w w' : World) (B1 B2 : Option Addr) : Prop where
  os : w'.os = w.os
  tape : w'.tape = w.tape
  output : w'.output = w.output
  size : w.heap.size ≤ w'.heap.size
  block : ∀ i, i < w.heap.size → B1.map (·.block) ≠ some i → B2.map (·.block) ≠ some i → w'.heap[i]? = w.heap[i]?
theorem RM.low (h : RM wr B B1 k1 d1 B2 k2 d2 g1 g2) : (∀ i, B1.map (·.block) = some i → B ≤ i ∧ i < wr.heap.size) ∧ (∀ i, B2.map (·.block) = some i → B ≤ i ∧ i < wr.heap.size) := by
  rcases h with ⟨_, _, rfl, rfl⟩ | ⟨r1, r2, rfl, rfl, hne, o1, o2⟩
  · refine ⟨fun i e => ?_, fun i e => ?_⟩
    · have e' : none = some i := e
      injection e'
    · have e' : none = some i := e
      injection e'
  · refine ⟨fun i e => ?_, fun i e => ?_⟩
    · have e' : some r1 = some i := e
      injection e' with e'
      subst e'
      exact o1.lt
    · have e' : some r2 = some i := e
      injection e' with e'
      subst e'
      exact o2.lt
theorem ButO.holds {g : Nat} {t : TypeId} {cs : Array Value} (h : ButO w w' B1 B2) (hh : Holds5 w g t cs) (h1 : B1.map (·.block) ≠ some g) (h2 : B2.map (·.block) ≠ some g) : Holds5 w' g t cs := (h.block g hh.inside h1 h2).trans hh
theorem ButO.nums {A : Option Addr} {n : Nat} {f : Nat → Int} (h : ButO w w' B1 B2) (hh : Nums w A n f) (hne : ∀ b off, A = some ⟨b, off, none⟩ → B1.map (·.block) ≠ some b ∧ B2.map (·.block) ≠ some b) : Nums w' A n f := by
  rcases hh with hh | ⟨b, off, hA, hlt, hc⟩
  · exact .inl hh
  · obtain ⟨n1, n2⟩ := hne b off hA
    exact .inr ⟨b, off, hA, Nat.lt_of_lt_of_le hlt h.size, fun j hj => (World.cell?_of_block (a := ⟨b, off + j, none⟩) (h.block b hlt n1 n2)).trans (hc j hj)⟩
end
/-- What a step leaves, in one form. -/
def StepRes (w : World) (ok : Bool) (at2 : Int) (k1 k2 : Nat) (g1 g2 : Nat → Int) (e : Ending) (w' : World) : Prop :=
  ∃ B1 d1 B2 d2, e = .returned (.tuple #[MV at2 B1 k1 d1 B2 k2 d2, .bool ok]) ∧ RM w' w.heap.size B1 k1 d1 B2 k2 d2 g1 g2 ∧ w.grownBy w' none
theorem StepRes.no {w : World} {e : Ending} {w' : World} (g1 g2 : Nat → Int) (h : NoStep w e w') : StepRes w false 0 0 0 g1 g2 e w' := ⟨none, 0, none, 0, h.1, .inl ⟨rfl, rfl, rfl, rfl⟩, h.2⟩
theorem StepRes.yes {w : World} {at2 : Int} {g1 g2 : Nat → Int} {e : Ending} {w' : World} (h : YesStep w at2 g1 g2 e w') : StepRes w true at2 4 8 g1 g2 e w' := by
  obtain ⟨r1, c1, r2, c2, he, hne, o1, o2, hg⟩ := h
  exact ⟨_, c1, _, c2, he, .inr ⟨r1, r2, rfl, rfl, hne, o1, o2⟩, hg⟩
/-- Both StepMachines leave the same. -/
theorem step_both (n : Nat) (F : Nat → Ins) (at' : Int) (n1 n2 : Nat) (f1 f2 : Nat → Int) (hn : n ≤ 9223372036854775807) (hn1 : n1 ≤ 9223372036854775807) (hn2 : n2 ≤ 9223372036854775807) :
    ∃ (ok : Bool) (at2 : Int) (k1 k2 : Nat) (g1 g2 : Nat → Int), (k1 ≤ 8 ∧ k2 ≤ 8) ∧
      (∀ (A : Option Addr) (c : Nat) (A1 : Option Addr) (c1 : Nat) (A2 : Option Addr) (c2 : Nat) (W : World), Code W A n F → Nums W A1 n1 f1 → Nums W A2 n2 f2 → Calls Tryd.prog 34 #[.slice A n c, MV at' A1 n1 c1 A2 n2 c2] W (StepRes W ok at2 k1 k2 g1 g2)) ∧
      (∀ (A : Option Addr) (c : Nat) (A1 : Option Addr) (c1 : Nat) (A2 : Option Addr) (c2 : Nat) (W : World), WT W → Code W A n F → Nums W A1 n1 f1 → Nums W A2 n2 f2 → Calls Tryd.prog 18 #[.slice A n c, MV at' A1 n1 c1 A2 n2 c2] W (StepRes W ok at2 k1 k2 g1 g2)) := by
  rcases hs : stepB n F at' n1 n2 f1 f2 with _ | _
  · exact ⟨false, 0, 0, 0, f1, f2, ⟨by omega, by omega⟩, fun A c A1 c1 A2 c2 W hC h1 h2 => (SpecStepMachine_no A n c F at' A1 n1 c1 A2 n2 c2 f1 f2 W hn hC h1 h2 hn1 hn2 hs).mono fun _ _ h => StepRes.no _ _ h,
      fun A c A1 c1 A2 c2 W hg hC h1 h2 => (StepMachine_no A n c F at' A1 n1 c1 A2 n2 c2 f1 f2 W hg hn hC h1 h2 hs).mono fun _ _ h => StepRes.no _ _ h⟩
  · exact ⟨true, stAt F at' f1, 4, 8, stRegs F at' f1 f2, stMem F at' f1 f2, ⟨by omega, by omega⟩, fun A c A1 c1 A2 c2 W hC h1 h2 => (SpecStepMachine_yes A n c F at' A1 n1 c1 A2 n2 c2 f1 f2 W hn hC h1 h2 hn1 hn2 hs).mono fun _ _ h => StepRes.yes h,
      fun A c A1 c1 A2 c2 W hg hC h1 h2 => (StepMachine_yes A n c F at' A1 n1 c1 A2 n2 c2 f1 f2 W hg hn hC h1 h2 hs).mono fun _ _ h => StepRes.yes h⟩
set_option maxHeartbeats 2000000 in
theorem markMachine_none (at' : Int) (d1 d2 : Nat) (m : Int) (w : World) (_hm0 : 0 ≤ m) (_hm : m ≤ 100000000) :
    Calls Tryd.prog 40 #[MV at' none 0 d1 none 0 d2, .int .i64 m] w fun e w' => e = .returned (.int .i64 m) ∧ w.grownBy w' none := by
  go_enter Tryd.func40, Tryd.ntmps40
  go_wp2_with fail
  refine (markIntS_zero none d1 m _).mono ?_
  rintro e w1 ⟨rfl, rfl⟩
  go_wp2_with fail
  refine (markIntS_zero none d2 m _).mono ?_
  rintro e w1 ⟨rfl, rfl⟩
  go_wp2_with fail
  go_ret
  exact ⟨rfl, World.grownBy_alloc _ _ _⟩
theorem markMachine_res (at' : Int) (B : Nat) (B1 : Option Addr) (k1 d1 : Nat) (B2 : Option Addr) (k2 d2 : Nat) (g1 g2 : Nat → Int) (m : Int) (w : World) (hm0 : 0 ≤ m) (hm : m ≤ 100000000) (hk1 : k1 ≤ 8388608) (hk2 : k2 ≤ 8388608) (h : RM w B B1 k1 d1 B2 k2 d2 g1 g2) :
    Calls Tryd.prog 40 #[MV at' B1 k1 d1 B2 k2 d2, .int .i64 m] w fun e w' => e = .returned (.int .i64 (m + k1 + k2)) ∧ RM w' B B1 k1 d1 B2 k2 d2 (fun j => m + (j : Int)) (fun j => m + k1 + (j : Int)) ∧ ButO w w' B1 B2 := by
  rcases h with ⟨rfl, rfl, rfl, rfl⟩ | ⟨r1, r2, rfl, rfl, hne, o1, o2⟩
  · refine (markMachine_none at' d1 d2 m w hm0 hm).mono ?_
    rintro e w' ⟨rfl, hg⟩
    exact ⟨by simp, .inl ⟨rfl, rfl, rfl, rfl⟩, ⟨hg.os, hg.tape, hg.output, hg.size, fun i hi _ _ => hg.block i hi (by simp)⟩⟩
  · refine (markMachine_at at' B r1 r2 k1 k2 d1 d2 g1 g2 m w hm0 (by omega) hne o1 o2).mono ?_
    rintro e w' ⟨rfl, m1, m2, hb⟩
    exact ⟨rfl, .inr ⟨r1, r2, rfl, rfl, hne, m1, m2⟩, ⟨hb.os, hb.tape, hb.output, hb.size, fun i hi h1 h2 => hb.block i hi (fun e => h1 (by rw [e]; rfl)) (fun e => h2 (by rw [e]; rfl))⟩⟩

end Go.Proofs.YtbcncifadklkgaaDoor
