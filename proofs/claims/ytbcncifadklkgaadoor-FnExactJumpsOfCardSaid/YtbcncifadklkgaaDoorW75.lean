/- StepMachine, put together: it answers as stepB, stAt, stRegs and stMem say. -/
import Derived.Test.YtbcncifadklkgaaDoorW74
namespace Go.Proofs.YtbcncifadklkgaaDoor
open Go.RowKit
def nOf (F : Nat → Ins) (at' : Int) : Nat := (wordN (F at'.toNat).op.toList).toNat
def rdOf (F : Nat → Ins) (at' : Int) : Nat := (F at'.toNat).d.toNat
def raOf (F : Nat → Ins) (at' : Int) : Nat := (F at'.toNat).a.toNat
def rbOf (F : Nat → Ins) (at' : Int) : Nat := (F at'.toNat).b.toNat
def kOf (F : Nat → Ins) (at' : Int) : Int := (F at'.toNat).k
/-- Is there a step? -/
def stepB (len : Nat) (F : Nat → Ins) (at' : Int) (n1 n2 : Nat) (f1 f2 : Nat → Int) : Bool := vcB len F && vmB at' n1 n2 f1 f2 && !haltB len F at'.toNat
def stAt (F : Nat → Ins) (at' : Int) (f1 : Nat → Int) : Int := stepAt (nOf F at') at'.toNat (raOf F at') (kOf F at') f1
def stRegs (F : Nat → Ins) (at' : Int) (f1 f2 : Nat → Int) : Nat → Int := stepRegs (nOf F at') (rdOf F at') (raOf F at') (rbOf F at') (kOf F at') f1 f2
def stMem (F : Nat → Ins) (at' : Int) (f1 f2 : Nat → Int) : Nat → Int := stepMem (nOf F at') (rdOf F at') (raOf F at') (kOf F at') f1 f2
theorem vmB_parts {at' : Int} {n1 n2 : Nat} {f1 f2 : Nat → Int} (h : vmB at' n1 n2 f1 f2 = true) : (0 ≤ at' ∧ at' ≤ 40) ∧ n1 = 4 ∧ n2 = 8 ∧ okL n1 f1 = true ∧ okL n2 f2 = true := by
  simp only [vmB, inRB, Bool.and_eq_true, decide_eq_true_eq] at h
  exact ⟨h.1.1, h.1.2.2, h.2.2, h.1.2.1, h.2.1⟩
/-- What is known of the instruction where a valid program is. -/
theorem ins_parts {len : Nat} {F : Nat → Ins} {at' : Int} (hv : vcB len F = true) (hm : at'.toNat < len) :
    len ≤ 40 ∧ (rdOf F at' < 4 ∧ raOf F at' < 4 ∧ rbOf F at' < 4) ∧ (0 ≤ kOf F at' ∧ kOf F at' ≤ 255) ∧ wordN (F at'.toNat).op.toList = nOf F at' ∧ nOf F at' ≤ 9 ∧ F at'.toNat = ⟨(F at'.toNat).op, rdOf F at', raOf F at', rbOf F at', kOf F at'⟩ := by
  have h40 : len ≤ 40 := by
    simp only [vcB, Bool.and_eq_true, decide_eq_true_eq] at hv
    exact hv.2
  obtain ⟨⟨n0, n1⟩, ⟨d0, d1⟩, ⟨a0, a1⟩, ⟨b0, b1⟩, ⟨k0, k1⟩⟩ := VI_bounds (vB_true.1 (okI_vB (vcB_ok hv at'.toNat hm)))
  refine ⟨h40, ⟨by unfold rdOf; omega, by unfold raOf; omega, by unfold rbOf; omega⟩, ⟨k0, k1⟩, by unfold nOf; omega, by unfold nOf; omega, ?_⟩
  unfold rdOf raOf rbOf kOf
  rw [Int.toNat_of_nonneg d0, Int.toNat_of_nonneg a0, Int.toNat_of_nonneg b0]
theorem hlt_word (l : List UInt8) : (l == [104, 108, 116]) = true ↔ wordN l = 9 := by
  rw [beq_iff_eq]
  constructor
  · intro h
    rw [h]
    exact wordN_at9
  · intro h
    rcases word_is l 9 (by omega) h with h | h | h | h | h | h | h | h | h | h
    all_goals first
      | exact absurd h.1 (by omega)
      | exact (beq_iff_eq.1 h.2).symm
theorem StepMachine_no (A : Option Addr) (len cap : Nat) (F : Nat → Ins) (at' : Int) (A1 : Option Addr) (n1 c1 : Nat) (A2 : Option Addr) (n2 c2 : Nat) (f1 f2 : Nat → Int) (w : World) (hg : WT w) (hl : len ≤ 9223372036854775807) (hC : Code w A len F) (h1 : Nums w A1 n1 f1) (h2 : Nums w A2 n2 f2) (hs : stepB len F at' n1 n2 f1 f2 = false) :
    Calls Tryd.prog 18 #[.slice A len cap, MV at' A1 n1 c1 A2 n2 c2] w (NoStep w) := by
  rcases hv : vcB len F with _ | _
  · exact StepMachine_code A len cap F at' A1 n1 c1 A2 n2 c2 w hg hl hC hv
  rcases hm : vmB at' n1 n2 f1 f2 with _ | _
  · exact StepMachine_mach A len cap F at' A1 n1 c1 A2 n2 c2 f1 f2 w hg hl hC hv h1 h2 hm
  · have hh : haltB len F at'.toNat = true := by
      simp only [stepB, hv, hm, Bool.true_and, Bool.not_eq_false'] at hs
      exact hs
    obtain ⟨⟨t0, t1⟩, rfl, rfl, k1, k2⟩ := vmB_parts hm
    obtain ⟨b1, o1, rfl, _⟩ := h1.resolve_left (by omega)
    obtain ⟨b2, o2, rfl, _⟩ := h2.resolve_left (by omega)
    have he : ((at'.toNat : Nat) : Int) = at' := Int.toNat_of_nonneg t0
    have key : Calls Tryd.prog 18 #[.slice A len cap, MV (at'.toNat : Int) (some ⟨b1, o1, none⟩) 4 c1 (some ⟨b2, o2, none⟩) 8 c2] w (NoStep w) := by
      refine StepMachine_halt A len cap F at'.toNat b1 o1 c1 b2 o2 c2 f1 f2 w hg hl hC hv h1 h2 (by omega) k1 k2 (fun W hW => ?_)
      by_cases hle : len ≤ at'.toNat
      · exact step_end A len cap at'.toNat f1 f2 W hle (by omega)
      · have hlt : at'.toNat < len := by omega
        obtain ⟨h40, ⟨r1, r2, r3⟩, ⟨q0, q1⟩, hw, _, hF⟩ := ins_parts hv hlt
        have h9 : wordN (F at'.toNat).op.toList = 9 := by
          simp only [haltB, Bool.or_eq_true, decide_eq_true_eq] at hh
          exact (hlt_word _).1 (hh.resolve_left hle)
        obtain ⟨b, off, rfl, _⟩ := hC.resolve_left (by omega)
        exact step_9 b off len cap at'.toNat (rdOf F at') (raOf F at') (rbOf F at') (kOf F at') _ F f1 f2 W (hg.below (below_of_grown hW) (wt_lt hg)) (hC.on hW) hlt h40 hF h9 r1 r2 r3 q0 q1 (okL_bounds k1)
    rw [he] at key
    exact key
theorem StepMachine_yes (A : Option Addr) (len cap : Nat) (F : Nat → Ins) (at' : Int) (A1 : Option Addr) (n1 c1 : Nat) (A2 : Option Addr) (n2 c2 : Nat) (f1 f2 : Nat → Int) (w : World) (hg : WT w) (hl : len ≤ 9223372036854775807) (hC : Code w A len F) (h1 : Nums w A1 n1 f1) (h2 : Nums w A2 n2 f2) (hs : stepB len F at' n1 n2 f1 f2 = true) :
    Calls Tryd.prog 18 #[.slice A len cap, MV at' A1 n1 c1 A2 n2 c2] w (YesStep w (stAt F at' f1) (stRegs F at' f1 f2) (stMem F at' f1 f2)) := by
  simp only [stepB, Bool.and_eq_true, Bool.not_eq_true'] at hs
  obtain ⟨⟨hv, hm⟩, hh⟩ := hs
  obtain ⟨⟨t0, t1⟩, rfl, rfl, k1, k2⟩ := vmB_parts hm
  obtain ⟨b1, o1, rfl, _⟩ := h1.resolve_left (by omega)
  obtain ⟨b2, o2, rfl, _⟩ := h2.resolve_left (by omega)
  have he : ((at'.toNat : Nat) : Int) = at' := Int.toNat_of_nonneg t0
  simp only [haltB, Bool.or_eq_false_iff, decide_eq_false_iff_not] at hh
  have hlt : at'.toNat < len := by omega
  obtain ⟨h40, ⟨r1, r2, r3⟩, ⟨q0, q1⟩, hw, h9, hF⟩ := ins_parts hv hlt
  have h8 : nOf F at' ≤ 8 := by
    have : wordN (F at'.toNat).op.toList ≠ 9 := fun e => by
      rw [(hlt_word _).2 e] at hh
      cases hh.2
    omega
  obtain ⟨b, off, rfl, _⟩ := hC.resolve_left (by omega)
  have key : Calls Tryd.prog 18 #[.slice (some ⟨b, off, none⟩) len cap, MV (at'.toNat : Int) (some ⟨b1, o1, none⟩) 4 c1 (some ⟨b2, o2, none⟩) 8 c2] w (YesStep w (stAt F at' f1) (stRegs F at' f1 f2) (stMem F at' f1 f2)) := by
    refine StepMachine_go (some ⟨b, off, none⟩) len cap F at'.toNat b1 o1 c1 b2 o2 c2 f1 f2 _ _ _ w hg hl hC hv h1 h2 (by omega) k1 k2 (fun W hW => ?_)
    exact step_any (nOf F at') h8 b off len cap at'.toNat (rdOf F at') (raOf F at') (rbOf F at') (kOf F at') _ F f1 f2 W (hg.below (below_of_grown hW) (wt_lt hg)) (hC.on hW) hlt h40 hF hw r1 r2 r3 q0 q1 (okL_bounds k1)
  rw [he] at key
  exact key

end Go.Proofs.YtbcncifadklkgaaDoor
