/- A step at the program's end and at hlt, and the model's 'halted'. StepMachine: what it answers, for every program and machine whose cells can be read. StepMachine, put together: it answers as stepB, stAt, stRegs and stMem say. -/
import Derived.Test.YtlmjbflnfpccdaaDoorG70
namespace Go.Proofs.YtlmjbflnfpccdaaDoor
open Go.RowKit
set_option linter.unusedSimpArgs false
set_option maxHeartbeats 2000000 in
theorem halted_end (A : Option Addr) (len cap m : Nat) (w : World) (hm : len ≤ m) :
    Calls Tryd.prog 81 #[.slice A len cap, .int .i64 m] w fun e w' => e = .returned (.bool true) ∧ w = w' := by
  go_enter Tryd.func81, Tryd.ntmps81
  go_wp2
  go_ret
  exact ⟨rfl, rfl⟩
set_option maxHeartbeats 2000000 in
theorem halted_in (b off len cap m : Nat) (F : Nat → Ins) (w : World) (hC : Code w (some ⟨b, off, none⟩) len F) (hm : m < len) (_hl : len ≤ 40) :
    Calls Tryd.prog 81 #[.slice (some ⟨b, off, none⟩) len cap, .int .i64 m] w fun e w' => e = .returned (.bool ((F m).op.toList == [104, 108, 116])) ∧ w = w' := by
  obtain ⟨q0, _, _, _, _⟩ := hC.five hm
  clear hC
  generalize (F m).op = op at *
  have hm3 : ¬ len ≤ m := by omega
  go_enter Tryd.func81, Tryd.ntmps81
  go_wp2
  go_ret
  exact ⟨rfl, rfl⟩


end Go.Proofs.YtlmjbflnfpccdaaDoor

namespace Go.Proofs.YtlmjbflnfpccdaaDoor
open Go.RowKit
set_option linter.unusedSimpArgs false
theorem okL_bounds {n : Nat} {f : Nat → Int} (h : okL n f = true) : ∀ j, j < n → 0 ≤ f j ∧ f j ≤ 255 := by
  intro j hj
  have := okL_iff.1 h j hj
  simpa [inRB] using this
theorem SV_self (at' : Int) (f1 f2 : Nat → Int) (h1 : okL 4 f1 = true) (h2 : okL 8 f2 = true) : SV at' (fun j => f1 j % 256) (fun j => f2 j % 256) = SV at' f1 f2 := by
  have e1 : ∀ j, j < 4 → f1 j % 256 = f1 j := fun j hj => by
    have := okL_bounds h1 j hj
    omega
  have e2 : ∀ j, j < 8 → f2 j % 256 = f2 j := fun j hj => by
    have := okL_bounds h2 j hj
    omega
  exact congrArg Value.agg (stC_congr at' (fun j => f1 j % 256) (fun j => f2 j % 256) f1 f2 e1 e2)
/-- Does the program halt there? -/
def haltB (len : Nat) (F : Nat → Ins) (m : Nat) : Bool := decide (len ≤ m) || ((F m).op.toList == [104, 108, 116])
/-- What a step that is not there leaves. -/
def NoStep (w : World) (e : Ending) (w' : World) : Prop := e = .returned (.tuple #[MV 0 none 0 0 none 0 0, .bool false]) ∧ w.grownBy w' none
/-- What a step leaves. -/
def YesStep (w : World) (at2 : Int) (g1 g2 : Nat → Int) (e : Ending) (w' : World) : Prop :=
  ∃ r1 c1 r2 c2, e = .returned (.tuple #[MV at2 (some ⟨r1, 0, none⟩) 4 c1 (some ⟨r2, 0, none⟩) 8 c2, .bool true]) ∧ r1 ≠ r2 ∧ Own w' w.heap.size (some ⟨r1, 0, none⟩) 4 c1 g1 ∧ Own w' w.heap.size (some ⟨r2, 0, none⟩) 8 c2 g2 ∧ w.grownBy w' none


theorem Nums.on {w w' : World} {A : Option Addr} {n : Nat} {f : Nat → Int} (h : Nums w A n f) (hg : w.grownBy w' none) : Nums w' A n f := h.grown hg (by intro _ _ _ e; cases e)
end Go.Proofs.YtlmjbflnfpccdaaDoor

namespace Go.Proofs.YtlmjbflnfpccdaaDoor
open Go.RowKit
def nOf (F : Nat → Ins) (at' : Int) : Nat := (wordN (F at'.toNat).op.toList).toNat
def rdOf (F : Nat → Ins) (at' : Int) : Nat := (F at'.toNat).d.toNat
def raOf (F : Nat → Ins) (at' : Int) : Nat := (F at'.toNat).a.toNat
def rbOf (F : Nat → Ins) (at' : Int) : Nat := (F at'.toNat).b.toNat
def kOf (F : Nat → Ins) (at' : Int) : Int := (F at'.toNat).k
/-- Is there a step? -/
def stepB (len : Nat) (F : Nat → Ins) (at' : Int) (n1 n2 : Nat) (f1 f2 : Nat → Int) : Bool := vcB len F && vmB at' n1 n2 f1 f2 && !haltB len F at'.toNat
def stAt (F : Nat → Ins) (at' : Int) (f1 : Nat → Int) : Int := stepAt (nOf F at') at'.toNat (raOf F at') (kOf F at') f1
def stRegs (F : Nat → Ins) (at' : Int) (f1 f2 : Nat → Int) : Nat → Int := stepRegs (nOf F at') (rdOf F at') (raOf F at') (rbOf F at') (kOf F at') f1 f2
def stMem (F : Nat → Ins) (at' : Int) (f1 f2 : Nat → Int) : Nat → Int := stepMem (nOf F at') (rdOf F at') (raOf F at') (kOf F at') f1 f2
theorem vmB_parts {at' : Int} {n1 n2 : Nat} {f1 f2 : Nat → Int} (h : vmB at' n1 n2 f1 f2 = true) : (0 ≤ at' ∧ at' ≤ 40) ∧ n1 = 4 ∧ n2 = 8 ∧ okL n1 f1 = true ∧ okL n2 f2 = true := by
  simp only [vmB, inRB, Bool.and_eq_true, decide_eq_true_eq] at h
  exact ⟨h.1.1, h.1.2.2, h.2.2, h.1.2.1, h.2.1⟩
/-- What is known of the instruction where a valid program is. -/
theorem ins_parts {len : Nat} {F : Nat → Ins} {at' : Int} (hv : vcB len F = true) (hm : at'.toNat < len) :
    len ≤ 40 ∧ (rdOf F at' < 4 ∧ raOf F at' < 4 ∧ rbOf F at' < 4) ∧ (0 ≤ kOf F at' ∧ kOf F at' ≤ 255) ∧ wordN (F at'.toNat).op.toList = nOf F at' ∧ nOf F at' ≤ 9 ∧ F at'.toNat = ⟨(F at'.toNat).op, rdOf F at', raOf F at', rbOf F at', kOf F at'⟩ := by
  have h40 : len ≤ 40 := by
    simp only [vcB, Bool.and_eq_true, decide_eq_true_eq] at hv
    exact hv.2
  obtain ⟨⟨n0, n1⟩, ⟨d0, d1⟩, ⟨a0, a1⟩, ⟨b0, b1⟩, ⟨k0, k1⟩⟩ := VI_bounds (vB_true.1 (okI_vB (vcB_ok hv at'.toNat hm)))
  refine ⟨h40, ⟨by unfold rdOf; omega, by unfold raOf; omega, by unfold rbOf; omega⟩, ⟨k0, k1⟩, by unfold nOf; omega, by unfold nOf; omega, ?_⟩
  unfold rdOf raOf rbOf kOf
  rw [Int.toNat_of_nonneg d0, Int.toNat_of_nonneg a0, Int.toNat_of_nonneg b0]
theorem hlt_word (l : List UInt8) : (l == [104, 108, 116]) = true ↔ wordN l = 9 := by
  rw [beq_iff_eq]
  constructor
  · intro h
    rw [h]
    exact wordN_at9
  · intro h
    rcases word_is l 9 (by omega) h with h | h | h | h | h | h | h | h | h | h
    all_goals first
      | exact absurd h.1 (by omega)
      | exact (beq_iff_eq.1 h.2).symm
end Go.Proofs.YtlmjbflnfpccdaaDoor
