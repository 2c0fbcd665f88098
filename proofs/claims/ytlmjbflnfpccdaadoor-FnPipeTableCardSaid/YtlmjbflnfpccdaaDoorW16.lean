/- UsesOf and the model's UsesOf return the same two sets of registers, as defined here, at every instruction (UsesOf: provided that wordTexts holds its words). -/
import Derived.Test.YtlmjbflnfpccdaaDoorW13
namespace Go.Proofs.YtlmjbflnfpccdaaDoor
open Go.RowKit
/-- One register as a set. -/
def sh (n : Int) : Int := wrap64 (2 ^ n.toNat)
/-- The sets of registers that a valid instruction reads and writes, by its word. -/
def usesR (n : Nat) (d a b : Int) : Int := if n = 0 then 0 else if n ≤ 4 then bits .or .i64 (sh a) (sh b) else if n = 5 then sh a else if n = 6 then bits .or .i64 (sh d) (sh a) else if n = 7 then sh a else 0
/-- Those that it writes. -/
def usesW (n : Nat) (d : Int) : Int := if n ≤ 5 then sh d else 0


set_option maxHeartbeats 1000000 in
theorem UsesOf_0 (op : ByteArray) (d a b k : Int) (w : World) (hg : WT w) (hv : vB op.toList d a b k = true) (hw : wordN op.toList = 0) :
    Calls Tryd.prog 66 #[IV op d a b k] w fun e w' => e = .returned (.tuple #[.int .i64 (0), .int .i64 (sh d)]) ∧ Below w.heap.size w w' := by
  have HG := shade hg
  have hglt := (Array.getElem?_eq_some_iff.1 hg.choose_spec.choose_spec).1
  obtain ⟨b0, ⟨b1, b1'⟩, ⟨b2, b2'⟩, ⟨b3, b3'⟩, ⟨b4, b4'⟩⟩ := VI_bounds (vB_true.1 hv)
  clear b0
  have HV := shade hv
  have HX := shade hw
  clear hg hv hw
  go_enter Tryd.func66, Tryd.ntmps66
  go_wp2_with fail
  refine (ValidInstr_any _ _ _ _ _ _ (HG.out.alloc _)).mono ?_
  rw [HV.out]
  rintro e w1 ⟨rfl, hb1⟩
  have H1 := (Holds5.fresh w 53 #[.string op, .int .i64 d, .int .i64 a, .int .i64 b, .int .i64 k]).below hb1 (by simp)
  have q0 := H1.look 0; have q1 := H1.look 1; have q2 := H1.look 2; have q3 := H1.look 3; have q4 := H1.look 4
  simp at q0 q1 q2 q3 q4
  have hB1 : Below w.heap.size w w1 := ((Below.refl w.heap.size w).alloc (Nat.le_refl _) _).trans (hb1.mono (by simp))
  clear H1 hb1
  go_wp2_with fail
  refine (wordOf_any _ _ (HG.out.below hB1 hglt)).mono ?_
  rw [HX.out]
  rintro e w2 ⟨rfl, rfl⟩
  go_wp2_with fail
  go_quiet (fail)
  go_wp2_with fail
  go_ret2
  exact ⟨rfl, below_drewN hB1 _⟩

set_option maxHeartbeats 1000000 in
theorem UsesOf_1 (op : ByteArray) (d a b k : Int) (w : World) (hg : WT w) (hv : vB op.toList d a b k = true) (hw : wordN op.toList = 1) :
    Calls Tryd.prog 66 #[IV op d a b k] w fun e w' => e = .returned (.tuple #[.int .i64 (bits .or .i64 (sh a) (sh b)), .int .i64 (sh d)]) ∧ Below w.heap.size w w' := by
  have HG := shade hg
  have hglt := (Array.getElem?_eq_some_iff.1 hg.choose_spec.choose_spec).1
  obtain ⟨b0, ⟨b1, b1'⟩, ⟨b2, b2'⟩, ⟨b3, b3'⟩, ⟨b4, b4'⟩⟩ := VI_bounds (vB_true.1 hv)
  clear b0
  have HV := shade hv
  have HX := shade hw
  clear hg hv hw
  go_enter Tryd.func66, Tryd.ntmps66
  go_wp2_with fail
  refine (ValidInstr_any _ _ _ _ _ _ (HG.out.alloc _)).mono ?_
  rw [HV.out]
  rintro e w1 ⟨rfl, hb1⟩
  have H1 := (Holds5.fresh w 53 #[.string op, .int .i64 d, .int .i64 a, .int .i64 b, .int .i64 k]).below hb1 (by simp)
  have q0 := H1.look 0; have q1 := H1.look 1; have q2 := H1.look 2; have q3 := H1.look 3; have q4 := H1.look 4
  simp at q0 q1 q2 q3 q4
  have hB1 : Below w.heap.size w w1 := ((Below.refl w.heap.size w).alloc (Nat.le_refl _) _).trans (hb1.mono (by simp))
  clear H1 hb1
  go_wp2_with fail
  refine (wordOf_any _ _ (HG.out.below hB1 hglt)).mono ?_
  rw [HX.out]
  rintro e w2 ⟨rfl, rfl⟩
  go_wp2_with fail
  go_quiet (fail)
  go_wp2_with fail
  go_ret2
  exact ⟨rfl, below_drewN hB1 _⟩

set_option maxHeartbeats 1000000 in
theorem UsesOf_2 (op : ByteArray) (d a b k : Int) (w : World) (hg : WT w) (hv : vB op.toList d a b k = true) (hw : wordN op.toList = 2) :
    Calls Tryd.prog 66 #[IV op d a b k] w fun e w' => e = .returned (.tuple #[.int .i64 (bits .or .i64 (sh a) (sh b)), .int .i64 (sh d)]) ∧ Below w.heap.size w w' := by
  have HG := shade hg
  have hglt := (Array.getElem?_eq_some_iff.1 hg.choose_spec.choose_spec).1
  obtain ⟨b0, ⟨b1, b1'⟩, ⟨b2, b2'⟩, ⟨b3, b3'⟩, ⟨b4, b4'⟩⟩ := VI_bounds (vB_true.1 hv)
  clear b0
  have HV := shade hv
  have HX := shade hw
  clear hg hv hw
  go_enter Tryd.func66, Tryd.ntmps66
  go_wp2_with fail
  refine (ValidInstr_any _ _ _ _ _ _ (HG.out.alloc _)).mono ?_
  rw [HV.out]
  rintro e w1 ⟨rfl, hb1⟩
  have H1 := (Holds5.fresh w 53 #[.string op, .int .i64 d, .int .i64 a, .int .i64 b, .int .i64 k]).below hb1 (by simp)
  have q0 := H1.look 0; have q1 := H1.look 1; have q2 := H1.look 2; have q3 := H1.look 3; have q4 := H1.look 4
  simp at q0 q1 q2 q3 q4
  have hB1 : Below w.heap.size w w1 := ((Below.refl w.heap.size w).alloc (Nat.le_refl _) _).trans (hb1.mono (by simp))
  clear H1 hb1
  go_wp2_with fail
  refine (wordOf_any _ _ (HG.out.below hB1 hglt)).mono ?_
  rw [HX.out]
  rintro e w2 ⟨rfl, rfl⟩
  go_wp2_with fail
  go_quiet (fail)
  go_wp2_with fail
  go_ret2
  exact ⟨rfl, below_drewN hB1 _⟩

set_option maxHeartbeats 1000000 in
theorem UsesOf_3 (op : ByteArray) (d a b k : Int) (w : World) (hg : WT w) (hv : vB op.toList d a b k = true) (hw : wordN op.toList = 3) :
    Calls Tryd.prog 66 #[IV op d a b k] w fun e w' => e = .returned (.tuple #[.int .i64 (bits .or .i64 (sh a) (sh b)), .int .i64 (sh d)]) ∧ Below w.heap.size w w' := by
  have HG := shade hg
  have hglt := (Array.getElem?_eq_some_iff.1 hg.choose_spec.choose_spec).1
  obtain ⟨b0, ⟨b1, b1'⟩, ⟨b2, b2'⟩, ⟨b3, b3'⟩, ⟨b4, b4'⟩⟩ := VI_bounds (vB_true.1 hv)
  clear b0
  have HV := shade hv
  have HX := shade hw
  clear hg hv hw
  go_enter Tryd.func66, Tryd.ntmps66
  go_wp2_with fail
  refine (ValidInstr_any _ _ _ _ _ _ (HG.out.alloc _)).mono ?_
  rw [HV.out]
  rintro e w1 ⟨rfl, hb1⟩
  have H1 := (Holds5.fresh w 53 #[.string op, .int .i64 d, .int .i64 a, .int .i64 b, .int .i64 k]).below hb1 (by simp)
  have q0 := H1.look 0; have q1 := H1.look 1; have q2 := H1.look 2; have q3 := H1.look 3; have q4 := H1.look 4
  simp at q0 q1 q2 q3 q4
  have hB1 : Below w.heap.size w w1 := ((Below.refl w.heap.size w).alloc (Nat.le_refl _) _).trans (hb1.mono (by simp))
  clear H1 hb1
  go_wp2_with fail
  refine (wordOf_any _ _ (HG.out.below hB1 hglt)).mono ?_
  rw [HX.out]
  rintro e w2 ⟨rfl, rfl⟩
  go_wp2_with fail
  go_quiet (fail)
  go_wp2_with fail
  go_ret2
  exact ⟨rfl, below_drewN hB1 _⟩

set_option maxHeartbeats 1000000 in
theorem UsesOf_4 (op : ByteArray) (d a b k : Int) (w : World) (hg : WT w) (hv : vB op.toList d a b k = true) (hw : wordN op.toList = 4) :
    Calls Tryd.prog 66 #[IV op d a b k] w fun e w' => e = .returned (.tuple #[.int .i64 (bits .or .i64 (sh a) (sh b)), .int .i64 (sh d)]) ∧ Below w.heap.size w w' := by
  have HG := shade hg
  have hglt := (Array.getElem?_eq_some_iff.1 hg.choose_spec.choose_spec).1
  obtain ⟨b0, ⟨b1, b1'⟩, ⟨b2, b2'⟩, ⟨b3, b3'⟩, ⟨b4, b4'⟩⟩ := VI_bounds (vB_true.1 hv)
  clear b0
  have HV := shade hv
  have HX := shade hw
  clear hg hv hw
  go_enter Tryd.func66, Tryd.ntmps66
  go_wp2_with fail
  refine (ValidInstr_any _ _ _ _ _ _ (HG.out.alloc _)).mono ?_
  rw [HV.out]
  rintro e w1 ⟨rfl, hb1⟩
  have H1 := (Holds5.fresh w 53 #[.string op, .int .i64 d, .int .i64 a, .int .i64 b, .int .i64 k]).below hb1 (by simp)
  have q0 := H1.look 0; have q1 := H1.look 1; have q2 := H1.look 2; have q3 := H1.look 3; have q4 := H1.look 4
  simp at q0 q1 q2 q3 q4
  have hB1 : Below w.heap.size w w1 := ((Below.refl w.heap.size w).alloc (Nat.le_refl _) _).trans (hb1.mono (by simp))
  clear H1 hb1
  go_wp2_with fail
  refine (wordOf_any _ _ (HG.out.below hB1 hglt)).mono ?_
  rw [HX.out]
  rintro e w2 ⟨rfl, rfl⟩
  go_wp2_with fail
  go_quiet (fail)
  go_wp2_with fail
  go_ret2
  exact ⟨rfl, below_drewN hB1 _⟩

set_option maxHeartbeats 1000000 in
theorem UsesOf_5 (op : ByteArray) (d a b k : Int) (w : World) (hg : WT w) (hv : vB op.toList d a b k = true) (hw : wordN op.toList = 5) :
    Calls Tryd.prog 66 #[IV op d a b k] w fun e w' => e = .returned (.tuple #[.int .i64 (sh a), .int .i64 (sh d)]) ∧ Below w.heap.size w w' := by
  have HG := shade hg
  have hglt := (Array.getElem?_eq_some_iff.1 hg.choose_spec.choose_spec).1
  obtain ⟨b0, ⟨b1, b1'⟩, ⟨b2, b2'⟩, ⟨b3, b3'⟩, ⟨b4, b4'⟩⟩ := VI_bounds (vB_true.1 hv)
  clear b0
  have HV := shade hv
  have HX := shade hw
  clear hg hv hw
  go_enter Tryd.func66, Tryd.ntmps66
  go_wp2_with fail
  refine (ValidInstr_any _ _ _ _ _ _ (HG.out.alloc _)).mono ?_
  rw [HV.out]
  rintro e w1 ⟨rfl, hb1⟩
  have H1 := (Holds5.fresh w 53 #[.string op, .int .i64 d, .int .i64 a, .int .i64 b, .int .i64 k]).below hb1 (by simp)
  have q0 := H1.look 0; have q1 := H1.look 1; have q2 := H1.look 2; have q3 := H1.look 3; have q4 := H1.look 4
  simp at q0 q1 q2 q3 q4
  have hB1 : Below w.heap.size w w1 := ((Below.refl w.heap.size w).alloc (Nat.le_refl _) _).trans (hb1.mono (by simp))
  clear H1 hb1
  go_wp2_with fail
  refine (wordOf_any _ _ (HG.out.below hB1 hglt)).mono ?_
  rw [HX.out]
  rintro e w2 ⟨rfl, rfl⟩
  go_wp2_with fail
  go_quiet (fail)
  go_wp2_with fail
  go_ret2
  exact ⟨rfl, below_drewN hB1 _⟩

set_option maxHeartbeats 1000000 in
theorem UsesOf_6 (op : ByteArray) (d a b k : Int) (w : World) (hg : WT w) (hv : vB op.toList d a b k = true) (hw : wordN op.toList = 6) :
    Calls Tryd.prog 66 #[IV op d a b k] w fun e w' => e = .returned (.tuple #[.int .i64 (bits .or .i64 (sh d) (sh a)), .int .i64 (0)]) ∧ Below w.heap.size w w' := by
  have HG := shade hg
  have hglt := (Array.getElem?_eq_some_iff.1 hg.choose_spec.choose_spec).1
  obtain ⟨b0, ⟨b1, b1'⟩, ⟨b2, b2'⟩, ⟨b3, b3'⟩, ⟨b4, b4'⟩⟩ := VI_bounds (vB_true.1 hv)
  clear b0
  have HV := shade hv
  have HX := shade hw
  clear hg hv hw
  go_enter Tryd.func66, Tryd.ntmps66
  go_wp2_with fail
  refine (ValidInstr_any _ _ _ _ _ _ (HG.out.alloc _)).mono ?_
  rw [HV.out]
  rintro e w1 ⟨rfl, hb1⟩
  have H1 := (Holds5.fresh w 53 #[.string op, .int .i64 d, .int .i64 a, .int .i64 b, .int .i64 k]).below hb1 (by simp)
  have q0 := H1.look 0; have q1 := H1.look 1; have q2 := H1.look 2; have q3 := H1.look 3; have q4 := H1.look 4
  simp at q0 q1 q2 q3 q4
  have hB1 : Below w.heap.size w w1 := ((Below.refl w.heap.size w).alloc (Nat.le_refl _) _).trans (hb1.mono (by simp))
  clear H1 hb1
  go_wp2_with fail
  refine (wordOf_any _ _ (HG.out.below hB1 hglt)).mono ?_
  rw [HX.out]
  rintro e w2 ⟨rfl, rfl⟩
  go_wp2_with fail
  go_quiet (fail)
  go_wp2_with fail
  go_ret2
  exact ⟨rfl, below_drewN hB1 _⟩

set_option maxHeartbeats 1000000 in
theorem UsesOf_7 (op : ByteArray) (d a b k : Int) (w : World) (hg : WT w) (hv : vB op.toList d a b k = true) (hw : wordN op.toList = 7) :
    Calls Tryd.prog 66 #[IV op d a b k] w fun e w' => e = .returned (.tuple #[.int .i64 (sh a), .int .i64 (0)]) ∧ Below w.heap.size w w' := by
  have HG := shade hg
  have hglt := (Array.getElem?_eq_some_iff.1 hg.choose_spec.choose_spec).1
  obtain ⟨b0, ⟨b1, b1'⟩, ⟨b2, b2'⟩, ⟨b3, b3'⟩, ⟨b4, b4'⟩⟩ := VI_bounds (vB_true.1 hv)
  clear b0
  have HV := shade hv
  have HX := shade hw
  clear hg hv hw
  go_enter Tryd.func66, Tryd.ntmps66
  go_wp2_with fail
  refine (ValidInstr_any _ _ _ _ _ _ (HG.out.alloc _)).mono ?_
  rw [HV.out]
  rintro e w1 ⟨rfl, hb1⟩
  have H1 := (Holds5.fresh w 53 #[.string op, .int .i64 d, .int .i64 a, .int .i64 b, .int .i64 k]).below hb1 (by simp)
  have q0 := H1.look 0; have q1 := H1.look 1; have q2 := H1.look 2; have q3 := H1.look 3; have q4 := H1.look 4
  simp at q0 q1 q2 q3 q4
  have hB1 : Below w.heap.size w w1 := ((Below.refl w.heap.size w).alloc (Nat.le_refl _) _).trans (hb1.mono (by simp))
  clear H1 hb1
  go_wp2_with fail
  refine (wordOf_any _ _ (HG.out.below hB1 hglt)).mono ?_
  rw [HX.out]
  rintro e w2 ⟨rfl, rfl⟩
  go_wp2_with fail
  go_ret2
  exact ⟨rfl, hB1⟩

set_option maxHeartbeats 1000000 in
theorem UsesOf_8 (op : ByteArray) (d a b k : Int) (w : World) (hg : WT w) (hv : vB op.toList d a b k = true) (hw : wordN op.toList = 8) :
    Calls Tryd.prog 66 #[IV op d a b k] w fun e w' => e = .returned (.tuple #[.int .i64 (0), .int .i64 (0)]) ∧ Below w.heap.size w w' := by
  have HG := shade hg
  have hglt := (Array.getElem?_eq_some_iff.1 hg.choose_spec.choose_spec).1
  obtain ⟨b0, ⟨b1, b1'⟩, ⟨b2, b2'⟩, ⟨b3, b3'⟩, ⟨b4, b4'⟩⟩ := VI_bounds (vB_true.1 hv)
  clear b0
  have HV := shade hv
  have HX := shade hw
  clear hg hv hw
  go_enter Tryd.func66, Tryd.ntmps66
  go_wp2_with fail
  refine (ValidInstr_any _ _ _ _ _ _ (HG.out.alloc _)).mono ?_
  rw [HV.out]
  rintro e w1 ⟨rfl, hb1⟩
  have H1 := (Holds5.fresh w 53 #[.string op, .int .i64 d, .int .i64 a, .int .i64 b, .int .i64 k]).below hb1 (by simp)
  have q0 := H1.look 0; have q1 := H1.look 1; have q2 := H1.look 2; have q3 := H1.look 3; have q4 := H1.look 4
  simp at q0 q1 q2 q3 q4
  have hB1 : Below w.heap.size w w1 := ((Below.refl w.heap.size w).alloc (Nat.le_refl _) _).trans (hb1.mono (by simp))
  clear H1 hb1
  go_wp2_with fail
  refine (wordOf_any _ _ (HG.out.below hB1 hglt)).mono ?_
  rw [HX.out]
  rintro e w2 ⟨rfl, rfl⟩
  go_wp2_with fail
  go_ret2
  exact ⟨rfl, hB1⟩

set_option maxHeartbeats 1000000 in
theorem UsesOf_9 (op : ByteArray) (d a b k : Int) (w : World) (hg : WT w) (hv : vB op.toList d a b k = true) (hw : wordN op.toList = 9) :
    Calls Tryd.prog 66 #[IV op d a b k] w fun e w' => e = .returned (.tuple #[.int .i64 (0), .int .i64 (0)]) ∧ Below w.heap.size w w' := by
  have HG := shade hg
  have hglt := (Array.getElem?_eq_some_iff.1 hg.choose_spec.choose_spec).1
  obtain ⟨b0, ⟨b1, b1'⟩, ⟨b2, b2'⟩, ⟨b3, b3'⟩, ⟨b4, b4'⟩⟩ := VI_bounds (vB_true.1 hv)
  clear b0
  have HV := shade hv
  have HX := shade hw
  clear hg hv hw
  go_enter Tryd.func66, Tryd.ntmps66
  go_wp2_with fail
  refine (ValidInstr_any _ _ _ _ _ _ (HG.out.alloc _)).mono ?_
  rw [HV.out]
  rintro e w1 ⟨rfl, hb1⟩
  have H1 := (Holds5.fresh w 53 #[.string op, .int .i64 d, .int .i64 a, .int .i64 b, .int .i64 k]).below hb1 (by simp)
  have q0 := H1.look 0; have q1 := H1.look 1; have q2 := H1.look 2; have q3 := H1.look 3; have q4 := H1.look 4
  simp at q0 q1 q2 q3 q4
  have hB1 : Below w.heap.size w w1 := ((Below.refl w.heap.size w).alloc (Nat.le_refl _) _).trans (hb1.mono (by simp))
  clear H1 hb1
  go_wp2_with fail
  refine (wordOf_any _ _ (HG.out.below hB1 hglt)).mono ?_
  rw [HX.out]
  rintro e w2 ⟨rfl, rfl⟩
  go_wp2_with fail
  go_ret2
  exact ⟨rfl, hB1⟩
theorem usesR_0 (d a b : Int) : usesR 0 d a b = 0 := by unfold usesR; repeat (first | rw [if_pos (by omega)] | rw [if_neg (by omega)])
theorem usesW_0 (d : Int) : usesW 0 d = sh d := by unfold usesW; first | exact if_pos (by omega) | exact if_neg (by omega)
theorem usesE_0 (d a b : Int) : Ending.returned (.tuple #[.int .i64 (0), .int .i64 (sh d)]) = .returned (.tuple #[.int .i64 (usesR 0 d a b), .int .i64 (usesW 0 d)]) := by rw [usesR_0, usesW_0]
theorem usesR_1 (d a b : Int) : usesR 1 d a b = bits .or .i64 (sh a) (sh b) := by unfold usesR; repeat (first | rw [if_pos (by omega)] | rw [if_neg (by omega)])
theorem usesW_1 (d : Int) : usesW 1 d = sh d := by unfold usesW; first | exact if_pos (by omega) | exact if_neg (by omega)
theorem usesE_1 (d a b : Int) : Ending.returned (.tuple #[.int .i64 (bits .or .i64 (sh a) (sh b)), .int .i64 (sh d)]) = .returned (.tuple #[.int .i64 (usesR 1 d a b), .int .i64 (usesW 1 d)]) := by rw [usesR_1, usesW_1]
theorem usesR_2 (d a b : Int) : usesR 2 d a b = bits .or .i64 (sh a) (sh b) := by unfold usesR; repeat (first | rw [if_pos (by omega)] | rw [if_neg (by omega)])
theorem usesW_2 (d : Int) : usesW 2 d = sh d := by unfold usesW; first | exact if_pos (by omega) | exact if_neg (by omega)
theorem usesE_2 (d a b : Int) : Ending.returned (.tuple #[.int .i64 (bits .or .i64 (sh a) (sh b)), .int .i64 (sh d)]) = .returned (.tuple #[.int .i64 (usesR 2 d a b), .int .i64 (usesW 2 d)]) := by rw [usesR_2, usesW_2]
theorem usesR_3 (d a b : Int) : usesR 3 d a b = bits .or .i64 (sh a) (sh b) := by unfold usesR; repeat (first | rw [if_pos (by omega)] | rw [if_neg (by omega)])
theorem usesW_3 (d : Int) : usesW 3 d = sh d := by unfold usesW; first | exact if_pos (by omega) | exact if_neg (by omega)
theorem usesE_3 (d a b : Int) : Ending.returned (.tuple #[.int .i64 (bits .or .i64 (sh a) (sh b)), .int .i64 (sh d)]) = .returned (.tuple #[.int .i64 (usesR 3 d a b), .int .i64 (usesW 3 d)]) := by rw [usesR_3, usesW_3]
theorem usesR_4 (d a b : Int) : usesR 4 d a b = bits .or .i64 (sh a) (sh b) := by unfold usesR; repeat (first | rw [if_pos (by omega)] | rw [if_neg (by omega)])
theorem usesW_4 (d : Int) : usesW 4 d = sh d := by unfold usesW; first | exact if_pos (by omega) | exact if_neg (by omega)
theorem usesE_4 (d a b : Int) : Ending.returned (.tuple #[.int .i64 (bits .or .i64 (sh a) (sh b)), .int .i64 (sh d)]) = .returned (.tuple #[.int .i64 (usesR 4 d a b), .int .i64 (usesW 4 d)]) := by rw [usesR_4, usesW_4]
theorem usesR_5 (d a b : Int) : usesR 5 d a b = sh a := by unfold usesR; repeat (first | rw [if_pos (by omega)] | rw [if_neg (by omega)])
theorem usesW_5 (d : Int) : usesW 5 d = sh d := by unfold usesW; first | exact if_pos (by omega) | exact if_neg (by omega)
theorem usesE_5 (d a b : Int) : Ending.returned (.tuple #[.int .i64 (sh a), .int .i64 (sh d)]) = .returned (.tuple #[.int .i64 (usesR 5 d a b), .int .i64 (usesW 5 d)]) := by rw [usesR_5, usesW_5]
theorem usesR_6 (d a b : Int) : usesR 6 d a b = bits .or .i64 (sh d) (sh a) := by unfold usesR; repeat (first | rw [if_pos (by omega)] | rw [if_neg (by omega)])
theorem usesW_6 (d : Int) : usesW 6 d = 0 := by unfold usesW; first | exact if_pos (by omega) | exact if_neg (by omega)
theorem usesE_6 (d a b : Int) : Ending.returned (.tuple #[.int .i64 (bits .or .i64 (sh d) (sh a)), .int .i64 (0)]) = .returned (.tuple #[.int .i64 (usesR 6 d a b), .int .i64 (usesW 6 d)]) := by rw [usesR_6, usesW_6]
theorem usesR_7 (d a b : Int) : usesR 7 d a b = sh a := by unfold usesR; repeat (first | rw [if_pos (by omega)] | rw [if_neg (by omega)])
theorem usesW_7 (d : Int) : usesW 7 d = 0 := by unfold usesW; first | exact if_pos (by omega) | exact if_neg (by omega)
theorem usesE_7 (d a b : Int) : Ending.returned (.tuple #[.int .i64 (sh a), .int .i64 (0)]) = .returned (.tuple #[.int .i64 (usesR 7 d a b), .int .i64 (usesW 7 d)]) := by rw [usesR_7, usesW_7]
theorem usesR_8 (d a b : Int) : usesR 8 d a b = 0 := by unfold usesR; repeat (first | rw [if_pos (by omega)] | rw [if_neg (by omega)])
theorem usesW_8 (d : Int) : usesW 8 d = 0 := by unfold usesW; first | exact if_pos (by omega) | exact if_neg (by omega)
theorem usesE_8 (d a b : Int) : Ending.returned (.tuple #[.int .i64 (0), .int .i64 (0)]) = .returned (.tuple #[.int .i64 (usesR 8 d a b), .int .i64 (usesW 8 d)]) := by rw [usesR_8, usesW_8]
theorem usesR_9 (d a b : Int) : usesR 9 d a b = 0 := by unfold usesR; repeat (first | rw [if_pos (by omega)] | rw [if_neg (by omega)])
theorem usesW_9 (d : Int) : usesW 9 d = 0 := by unfold usesW; first | exact if_pos (by omega) | exact if_neg (by omega)
theorem usesE_9 (d a b : Int) : Ending.returned (.tuple #[.int .i64 (0), .int .i64 (0)]) = .returned (.tuple #[.int .i64 (usesR 9 d a b), .int .i64 (usesW 9 d)]) := by rw [usesR_9, usesW_9]

theorem UsesOf_yes (op : ByteArray) (d a b k : Int) (w : World) (hg : WT w) (hv : vB op.toList d a b k = true) (n : Nat) (hn : n < 10) (hw : wordN op.toList = n) :
    Calls Tryd.prog 66 #[IV op d a b k] w fun e w' => e = .returned (.tuple #[.int .i64 (usesR n d a b), .int .i64 (usesW n d)]) ∧ Below w.heap.size w w' := by
  match n, hn, hw with
  | 0, _, hw => exact (UsesOf_0 op d a b k w hg hv hw).mono fun _ _ h => ⟨h.1.trans (usesE_0 d a b), h.2⟩
  | 1, _, hw => exact (UsesOf_1 op d a b k w hg hv hw).mono fun _ _ h => ⟨h.1.trans (usesE_1 d a b), h.2⟩
  | 2, _, hw => exact (UsesOf_2 op d a b k w hg hv hw).mono fun _ _ h => ⟨h.1.trans (usesE_2 d a b), h.2⟩
  | 3, _, hw => exact (UsesOf_3 op d a b k w hg hv hw).mono fun _ _ h => ⟨h.1.trans (usesE_3 d a b), h.2⟩
  | 4, _, hw => exact (UsesOf_4 op d a b k w hg hv hw).mono fun _ _ h => ⟨h.1.trans (usesE_4 d a b), h.2⟩
  | 5, _, hw => exact (UsesOf_5 op d a b k w hg hv hw).mono fun _ _ h => ⟨h.1.trans (usesE_5 d a b), h.2⟩
  | 6, _, hw => exact (UsesOf_6 op d a b k w hg hv hw).mono fun _ _ h => ⟨h.1.trans (usesE_6 d a b), h.2⟩
  | 7, _, hw => exact (UsesOf_7 op d a b k w hg hv hw).mono fun _ _ h => ⟨h.1.trans (usesE_7 d a b), h.2⟩
  | 8, _, hw => exact (UsesOf_8 op d a b k w hg hv hw).mono fun _ _ h => ⟨h.1.trans (usesE_8 d a b), h.2⟩
  | 9, _, hw => exact (UsesOf_9 op d a b k w hg hv hw).mono fun _ _ h => ⟨h.1.trans (usesE_9 d a b), h.2⟩

set_option maxHeartbeats 1000000 in
theorem UsesOf_no (op : ByteArray) (d a b k : Int) (w : World) (hg : WT w) (hv : vB op.toList d a b k = false) :
    Calls Tryd.prog 66 #[IV op d a b k] w fun e w' => e = .returned (.tuple #[.int .i64 (-1), .int .i64 (-1)]) ∧ Below w.heap.size w w' := by
  have HG := shade hg
  have HV := shade hv
  clear hg hv
  go_enter Tryd.func66, Tryd.ntmps66
  go_wp2_with fail
  refine (ValidInstr_any _ _ _ _ _ _ (HG.out.alloc _)).mono ?_
  rw [HV.out]
  rintro e w1 ⟨rfl, hb1⟩
  have hB1 : Below w.heap.size w w1 := ((Below.refl w.heap.size w).alloc (Nat.le_refl _) _).trans (hb1.mono (by simp))
  clear hb1
  go_wp2_with fail
  go_ret2
  exact ⟨rfl, hB1⟩

set_option maxHeartbeats 400000 in
theorem power_0 (w : World) : Calls Tryd.prog 74 #[.int .i64 0] w fun e w' => e = .returned (.int .i64 1) ∧ w' = w := by
  go_enter Tryd.func74, Tryd.ntmps74
  go_wp2
  refine wp_loop_rounds 5 ?_
  iterate 5 (try any_goals (rw [rounds_succ]; go_wp2))
  go_ret
  exact ⟨rfl, rfl⟩

set_option maxHeartbeats 400000 in
theorem power_1 (w : World) : Calls Tryd.prog 74 #[.int .i64 1] w fun e w' => e = .returned (.int .i64 2) ∧ w' = w := by
  go_enter Tryd.func74, Tryd.ntmps74
  go_wp2
  refine wp_loop_rounds 5 ?_
  iterate 5 (try any_goals (rw [rounds_succ]; go_wp2))
  go_ret
  exact ⟨rfl, rfl⟩

set_option maxHeartbeats 400000 in
theorem power_2 (w : World) : Calls Tryd.prog 74 #[.int .i64 2] w fun e w' => e = .returned (.int .i64 4) ∧ w' = w := by
  go_enter Tryd.func74, Tryd.ntmps74
  go_wp2
  refine wp_loop_rounds 5 ?_
  iterate 5 (try any_goals (rw [rounds_succ]; go_wp2))
  go_ret
  exact ⟨rfl, rfl⟩

set_option maxHeartbeats 400000 in
theorem power_3 (w : World) : Calls Tryd.prog 74 #[.int .i64 3] w fun e w' => e = .returned (.int .i64 8) ∧ w' = w := by
  go_enter Tryd.func74, Tryd.ntmps74
  go_wp2
  refine wp_loop_rounds 5 ?_
  iterate 5 (try any_goals (rw [rounds_succ]; go_wp2))
  go_ret
  exact ⟨rfl, rfl⟩

theorem power_any (n : Int) (h0 : 0 ≤ n) (h1 : n ≤ 3) (w : World) : Calls Tryd.prog 74 #[.int .i64 n] w fun e w' => e = .returned (.int .i64 (sh n)) ∧ w' = w := by
  rcases (show n = 0 ∨ n = 1 ∨ n = 2 ∨ n = 3 by omega) with rfl | rfl | rfl | rfl
  · rw [show sh 0 = 1 by decide +kernel]; exact power_0 w
  · rw [show sh 1 = 2 by decide +kernel]; exact power_1 w
  · rw [show sh 2 = 4 by decide +kernel]; exact power_2 w
  · rw [show sh 3 = 8 by decide +kernel]; exact power_3 w
theorem or_comm_i (x y : Int) : bits .or .i64 x y = bits .or .i64 y x := by
  show IntKind.i64.wrap ((BitVec.ofInt 64 x ||| BitVec.ofInt 64 y).toNat : Int) = IntKind.i64.wrap ((BitVec.ofInt 64 y ||| BitVec.ofInt 64 x).toNat : Int)
  rw [BitVec.or_comm]


set_option maxHeartbeats 1000000 in
theorem specUsesOf_0 (d a b k : Int) (_b1 : 0 ≤ d) (_b1' : d ≤ 3) (_b2 : 0 ≤ a) (_b2' : a ≤ 3) (_b3 : 0 ≤ b) (_b3' : b ≤ 3) (w : World) :
    Calls Tryd.prog 63 #[IV ⟨#[115, 101, 116]⟩ d a b k] w fun e w' => e = .returned (.tuple #[.int .i64 (0), .int .i64 (sh d)]) ∧ Below w.heap.size w w' := by
  go_enter Tryd.func63, Tryd.ntmps63
  go_wp2_with (first | (go_at_call 74; refine (power_any _ (by omega) (by omega) _).mono ?_; rintro e w1 ⟨rfl, rfl⟩))
  go_ret2
  exact ⟨rfl, by go_grown⟩

set_option maxHeartbeats 1000000 in
theorem specUsesOf_1 (d a b k : Int) (_b1 : 0 ≤ d) (_b1' : d ≤ 3) (_b2 : 0 ≤ a) (_b2' : a ≤ 3) (_b3 : 0 ≤ b) (_b3' : b ≤ 3) (w : World) :
    Calls Tryd.prog 63 #[IV ⟨#[97, 100, 100]⟩ d a b k] w fun e w' => e = .returned (.tuple #[.int .i64 (bits .or .i64 (sh a) (sh b)), .int .i64 (sh d)]) ∧ Below w.heap.size w w' := by
  go_enter Tryd.func63, Tryd.ntmps63
  go_wp2_with fail
  go_quiet ((go_at_call 74; exact Calls.quiet_of_same (power_any _ (by omega) (by omega) _)))
  go_wp2_with fail
  go_ret2
  exact ⟨rfl, below_drewN (by go_grown) _⟩

set_option maxHeartbeats 1000000 in
theorem specUsesOf_2 (d a b k : Int) (_b1 : 0 ≤ d) (_b1' : d ≤ 3) (_b2 : 0 ≤ a) (_b2' : a ≤ 3) (_b3 : 0 ≤ b) (_b3' : b ≤ 3) (w : World) :
    Calls Tryd.prog 63 #[IV ⟨#[115, 117, 98]⟩ d a b k] w fun e w' => e = .returned (.tuple #[.int .i64 (bits .or .i64 (sh a) (sh b)), .int .i64 (sh d)]) ∧ Below w.heap.size w w' := by
  go_enter Tryd.func63, Tryd.ntmps63
  go_wp2_with fail
  go_quiet ((go_at_call 74; exact Calls.quiet_of_same (power_any _ (by omega) (by omega) _)))
  go_wp2_with fail
  go_ret2
  exact ⟨rfl, below_drewN (by go_grown) _⟩

set_option maxHeartbeats 1000000 in
theorem specUsesOf_3 (d a b k : Int) (_b1 : 0 ≤ d) (_b1' : d ≤ 3) (_b2 : 0 ≤ a) (_b2' : a ≤ 3) (_b3 : 0 ≤ b) (_b3' : b ≤ 3) (w : World) :
    Calls Tryd.prog 63 #[IV ⟨#[109, 117, 108]⟩ d a b k] w fun e w' => e = .returned (.tuple #[.int .i64 (bits .or .i64 (sh a) (sh b)), .int .i64 (sh d)]) ∧ Below w.heap.size w w' := by
  go_enter Tryd.func63, Tryd.ntmps63
  go_wp2_with fail
  go_quiet ((go_at_call 74; exact Calls.quiet_of_same (power_any _ (by omega) (by omega) _)))
  go_wp2_with fail
  go_ret2
  exact ⟨rfl, below_drewN (by go_grown) _⟩

set_option maxHeartbeats 1000000 in
theorem specUsesOf_4 (d a b k : Int) (_b1 : 0 ≤ d) (_b1' : d ≤ 3) (_b2 : 0 ≤ a) (_b2' : a ≤ 3) (_b3 : 0 ≤ b) (_b3' : b ≤ 3) (w : World) :
    Calls Tryd.prog 63 #[IV ⟨#[108, 116]⟩ d a b k] w fun e w' => e = .returned (.tuple #[.int .i64 (bits .or .i64 (sh a) (sh b)), .int .i64 (sh d)]) ∧ Below w.heap.size w w' := by
  go_enter Tryd.func63, Tryd.ntmps63
  go_wp2_with fail
  go_quiet ((go_at_call 74; exact Calls.quiet_of_same (power_any _ (by omega) (by omega) _)))
  go_wp2_with fail
  go_ret2
  exact ⟨rfl, below_drewN (by go_grown) _⟩

set_option maxHeartbeats 1000000 in
theorem specUsesOf_5 (d a b k : Int) (_b1 : 0 ≤ d) (_b1' : d ≤ 3) (_b2 : 0 ≤ a) (_b2' : a ≤ 3) (_b3 : 0 ≤ b) (_b3' : b ≤ 3) (w : World) :
    Calls Tryd.prog 63 #[IV ⟨#[108, 100]⟩ d a b k] w fun e w' => e = .returned (.tuple #[.int .i64 (sh a), .int .i64 (sh d)]) ∧ Below w.heap.size w w' := by
  go_enter Tryd.func63, Tryd.ntmps63
  go_wp2_with fail
  go_quiet ((go_at_call 74; exact Calls.quiet_of_same (power_any _ (by omega) (by omega) _)))
  go_wp2_with fail
  go_ret2
  exact ⟨rfl, below_drewN (by go_grown) _⟩

set_option maxHeartbeats 1000000 in
theorem specUsesOf_6 (d a b k : Int) (_b1 : 0 ≤ d) (_b1' : d ≤ 3) (_b2 : 0 ≤ a) (_b2' : a ≤ 3) (_b3 : 0 ≤ b) (_b3' : b ≤ 3) (w : World) :
    Calls Tryd.prog 63 #[IV ⟨#[115, 116]⟩ d a b k] w fun e w' => e = .returned (.tuple #[.int .i64 (bits .or .i64 (sh a) (sh d)), .int .i64 (0)]) ∧ Below w.heap.size w w' := by
  go_enter Tryd.func63, Tryd.ntmps63
  go_wp2_with fail
  go_quiet ((go_at_call 74; exact Calls.quiet_of_same (power_any _ (by omega) (by omega) _)))
  go_wp2_with fail
  go_ret2
  exact ⟨rfl, below_drewN (by go_grown) _⟩

set_option maxHeartbeats 1000000 in
theorem specUsesOf_7 (d a b k : Int) (_b1 : 0 ≤ d) (_b1' : d ≤ 3) (_b2 : 0 ≤ a) (_b2' : a ≤ 3) (_b3 : 0 ≤ b) (_b3' : b ≤ 3) (w : World) :
    Calls Tryd.prog 63 #[IV ⟨#[98, 122]⟩ d a b k] w fun e w' => e = .returned (.tuple #[.int .i64 (sh a), .int .i64 (0)]) ∧ Below w.heap.size w w' := by
  go_enter Tryd.func63, Tryd.ntmps63
  go_wp2_with (first | (go_at_call 74; refine (power_any _ (by omega) (by omega) _).mono ?_; rintro e w1 ⟨rfl, rfl⟩))
  go_ret2
  exact ⟨rfl, by go_grown⟩

set_option maxHeartbeats 1000000 in
theorem specUsesOf_8 (d a b k : Int) (_b1 : 0 ≤ d) (_b1' : d ≤ 3) (_b2 : 0 ≤ a) (_b2' : a ≤ 3) (_b3 : 0 ≤ b) (_b3' : b ≤ 3) (w : World) :
    Calls Tryd.prog 63 #[IV ⟨#[106, 109, 112]⟩ d a b k] w fun e w' => e = .returned (.tuple #[.int .i64 (0), .int .i64 (0)]) ∧ Below w.heap.size w w' := by
  go_enter Tryd.func63, Tryd.ntmps63
  go_wp2_with fail
  go_ret2
  exact ⟨rfl, by go_grown⟩

set_option maxHeartbeats 1000000 in
theorem specUsesOf_9 (d a b k : Int) (_b1 : 0 ≤ d) (_b1' : d ≤ 3) (_b2 : 0 ≤ a) (_b2' : a ≤ 3) (_b3 : 0 ≤ b) (_b3' : b ≤ 3) (w : World) :
    Calls Tryd.prog 63 #[IV ⟨#[104, 108, 116]⟩ d a b k] w fun e w' => e = .returned (.tuple #[.int .i64 (0), .int .i64 (0)]) ∧ Below w.heap.size w w' := by
  go_enter Tryd.func63, Tryd.ntmps63
  go_wp2_with fail
  go_ret2
  exact ⟨rfl, by go_grown⟩
end Go.Proofs.YtlmjbflnfpccdaaDoor