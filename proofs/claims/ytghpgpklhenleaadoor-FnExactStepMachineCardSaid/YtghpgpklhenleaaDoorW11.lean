/- Walks of kindOf, EncodeInstr and their like. -/
import Derived.Test.YtghpgpklhenleaaDoorW8
namespace Go.Proofs.YtghpgpklhenleaaDoor
open Go.RowKit


set_option maxHeartbeats 4000000 in
theorem kindOf_any (op : ByteArray) (w : World) :
    Calls Tryd.prog 54 #[.string op] w fun e w' => e = .returned (.int .i64 (wordN op.toList)) ∧ ∃ o, w.alloc o = w' := by
  go_enter Tryd.func54, Tryd.ntmps54
  go_wp2
  refine wp_loop_rounds 11 ?_
  iterate 11 any_goals (rw [rounds_succ]; go_wp2)
  all_goals
    go_ret
    refine ⟨?_, _, rfl⟩
    simp [wordN, *]

theorem ret_i {k : IntKind} {x y : Int} (h : x = y) : Ending.returned (.int k x) = .returned (.int k y) := by rw [h]
/-- The number of an instruction. -/
def encV (l : List UInt8) (d a b k : Int) : Int := if vB l d a b k = true then (((wordN l * 4 + d) * 4 + a) * 4 + b) * 256 + k else -1
theorem enc_no {l : List UInt8} {d a b k : Int} (h : vB l d a b k = false) : encV l d a b k = -1 := by simp [encV, h]
theorem enc_yes {l : List UInt8} {d a b k : Int} (h : vB l d a b k = true) : encV l d a b k = (((wordN l * 4 + d) * 4 + a) * 4 + b) * 256 + k := by simp [encV, h]
theorem VI_bounds {l : List UInt8} {d a b k : Int} (h : VI l d a b k) : (0 ≤ wordN l ∧ wordN l ≤ 9) ∧ (0 ≤ d ∧ d ≤ 3) ∧ (0 ≤ a ∧ a ≤ 3) ∧ (0 ≤ b ∧ b ≤ 3) ∧ (0 ≤ k ∧ k ≤ 255) := by
  unfold VI at h
  omega
set_option maxHeartbeats 1000000 in
theorem EncodeInstr_any (op : ByteArray) (d a b k : Int) (w : World) (hg : WT w) :
    Calls Tryd.prog 15 #[IV op d a b k] w fun e w' => e = .returned (.int .i64 (encV op.toList d a b k)) ∧ Below w.heap.size w w' := by
  have HG := shade hg
  have hglt := (Array.getElem?_eq_some_iff.1 hg.choose_spec.choose_spec).1
  clear hg
  rcases Bool.eq_false_or_eq_true (vB op.toList d a b k) with hv | hv
  · have he := enc_yes hv
    obtain ⟨b0, b1, b2, b3, b4⟩ := VI_bounds (vB_true.1 hv)
    have HE := shade he
    have HV := shade hv
    clear he hv
    generalize hx : wordN op.toList = x at *
    have HX := shade hx
    clear hx
    obtain ⟨b0, b0'⟩ := b0; obtain ⟨b1, b1'⟩ := b1; obtain ⟨b2, b2'⟩ := b2; obtain ⟨b3, b3'⟩ := b3; obtain ⟨b4, b4'⟩ := b4
    go_enter Tryd.func15, Tryd.ntmps15
    go_wp2_with fail
    refine (ValidInstr_any _ _ _ _ _ _ (HG.out.alloc _)).mono ?_
    rw [HV.out]
    rintro e w1 ⟨rfl, hb1⟩
    have H1 := (Holds5.fresh w 24 #[.string op, .int .i64 d, .int .i64 a, .int .i64 b, .int .i64 k]).below hb1 (by simp)
    have q0 := H1.look 0; have q1 := H1.look 1; have q2 := H1.look 2; have q3 := H1.look 3; have q4 := H1.look 4
    simp at q0 q1 q2 q3 q4
    have hB1 : Below w.heap.size w w1 := ((Below.refl w.heap.size w).alloc (Nat.le_refl _) _).trans (hb1.mono (by simp))
    clear H1 hb1
    go_wp2_with fail
    refine (wordOf_any _ _ (HG.out.below hB1 hglt)).mono ?_
    rw [HX.out]
    rintro e w2 ⟨rfl, rfl⟩
    go_wp2_with fail
    go_ret
    exact ⟨ret_i (by rw [HE.out]; try omega), hB1⟩
  · have he := enc_no hv
    have HE := shade he
    have HV := shade hv
    clear he hv
    go_enter Tryd.func15, Tryd.ntmps15
    go_wp2_with fail
    refine (ValidInstr_any _ _ _ _ _ _ (HG.out.alloc _)).mono ?_
    rw [HV.out]
    rintro e w1 ⟨rfl, hb1⟩
    have hB1 : Below w.heap.size w w1 := ((Below.refl w.heap.size w).alloc (Nat.le_refl _) _).trans (hb1.mono (by simp))
    clear hb1
    go_wp2_with fail
    go_ret
    exact ⟨ret_i (by rw [HE.out]), hB1⟩
set_option maxHeartbeats 2000000 in
theorem SpecEncodeInstr_any (op : ByteArray) (d a b k : Int) (w : World) :
    Calls Tryd.prog 19 #[IV op d a b k] w fun e w' => e = .returned (.int .i64 (encV op.toList d a b k)) ∧ Below w.heap.size w w' := by
  rcases Bool.eq_false_or_eq_true (vB op.toList d a b k) with hv | hv
  · have he := enc_yes hv
    obtain ⟨b0, b1, b2, b3, b4⟩ := VI_bounds (vB_true.1 hv)
    have HE := shade he
    have HV := shade hv
    clear he hv
    generalize hx : wordN op.toList = x at *
    have HX := shade hx
    clear hx
    obtain ⟨b0, b0'⟩ := b0; obtain ⟨b1, b1'⟩ := b1; obtain ⟨b2, b2'⟩ := b2; obtain ⟨b3, b3'⟩ := b3; obtain ⟨b4, b4'⟩ := b4
    go_enter Tryd.func19, Tryd.ntmps19
    go_wp2_with fail
    refine (validInstr_any _ _ _ _ _ _).mono ?_
    rw [HV.out]
    rintro e w1 ⟨rfl, o1, rfl⟩
    go_wp2_with fail
    go_region_held3 (fun w' => w'.cell? ⟨w.heap.size, 0, none⟩ = some (.string op) ∧ w'.cell? ⟨w.heap.size, 1, none⟩ = some (.int .i64 d) ∧ w'.cell? ⟨w.heap.size, 2, none⟩ = some (.int .i64 a) ∧ w'.cell? ⟨w.heap.size, 3, none⟩ = some (.int .i64 b) ∧ w'.cell? ⟨w.heap.size, 4, none⟩ = some (.int .i64 k)) (refine ⟨?_, ?_, ?_, ?_, ?_⟩ <;> go_cell)
      ((go_at_call 54; refine (kindOf_any _ _).mono ?_; rw [HX.out]; rintro e w1 ⟨rfl, o2, rfl⟩))
    rename_i hHeld
    go_wp2_with fail
    go_ret
    exact ⟨ret_i (by rw [HE.out]; clear hHeld; go_arith), by go_grown⟩
  · have he := enc_no hv
    have HE := shade he
    have HV := shade hv
    clear he hv
    go_enter Tryd.func19, Tryd.ntmps19
    go_wp2_with fail
    refine (validInstr_any _ _ _ _ _ _).mono ?_
    rw [HV.out]
    rintro e w1 ⟨rfl, o1, rfl⟩
    go_wp2_with fail
    go_ret
    exact ⟨ret_i (by rw [HE.out]), by go_grown⟩
end Go.Proofs.YtghpgpklhenleaaDoor