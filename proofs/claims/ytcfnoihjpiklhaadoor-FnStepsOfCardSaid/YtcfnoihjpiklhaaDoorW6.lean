/- The model’s ValidInstr, and the law’s szInstr and toInstr, return what the definitions here say (szInstr: where the text is no longer than a Go string can be). -/
import Derived.Test.YtcfnoihjpiklhaaDoorW3
import Derived.Test.YtcfnoihjpiklhaaDoorW4
import Derived.BigQuiet
import Derived.Deep.QuietTactic
namespace Go.Proofs.YtcfnoihjpiklhaaDoor
open Go.RowKit
theorem eq_of_toList {x y : ByteArray} (h : x.toList = y.toList) : x = y := by
  rw [ByteArray.toList_eq, ByteArray.toList_eq] at h
  exact ByteArray.ext (Array.toList_inj.1 h)

theorem op_eq_0 (op : ByteArray) (h : (op.toList == [115, 101, 116]) = true) : op = ⟨#[115, 101, 116]⟩ := eq_of_toList ((beq_iff_eq.1 h).trans toList_0.symm)
theorem op_eq_1 (op : ByteArray) (h : (op.toList == [97, 100, 100]) = true) : op = ⟨#[97, 100, 100]⟩ := eq_of_toList ((beq_iff_eq.1 h).trans toList_1.symm)
theorem op_eq_2 (op : ByteArray) (h : (op.toList == [115, 117, 98]) = true) : op = ⟨#[115, 117, 98]⟩ := eq_of_toList ((beq_iff_eq.1 h).trans toList_2.symm)
theorem op_eq_3 (op : ByteArray) (h : (op.toList == [109, 117, 108]) = true) : op = ⟨#[109, 117, 108]⟩ := eq_of_toList ((beq_iff_eq.1 h).trans toList_3.symm)
theorem op_eq_4 (op : ByteArray) (h : (op.toList == [108, 116]) = true) : op = ⟨#[108, 116]⟩ := eq_of_toList ((beq_iff_eq.1 h).trans toList_4.symm)
theorem op_eq_5 (op : ByteArray) (h : (op.toList == [108, 100]) = true) : op = ⟨#[108, 100]⟩ := eq_of_toList ((beq_iff_eq.1 h).trans toList_5.symm)
theorem op_eq_6 (op : ByteArray) (h : (op.toList == [115, 116]) = true) : op = ⟨#[115, 116]⟩ := eq_of_toList ((beq_iff_eq.1 h).trans toList_6.symm)
theorem op_eq_7 (op : ByteArray) (h : (op.toList == [98, 122]) = true) : op = ⟨#[98, 122]⟩ := eq_of_toList ((beq_iff_eq.1 h).trans toList_7.symm)
theorem op_eq_8 (op : ByteArray) (h : (op.toList == [106, 109, 112]) = true) : op = ⟨#[106, 109, 112]⟩ := eq_of_toList ((beq_iff_eq.1 h).trans toList_8.symm)
theorem op_eq_9 (op : ByteArray) (h : (op.toList == [104, 108, 116]) = true) : op = ⟨#[104, 108, 116]⟩ := eq_of_toList ((beq_iff_eq.1 h).trans toList_9.symm)
theorem validInstr_any (op : ByteArray) (d a b k : Int) (w : World) :
    Calls Tryd.prog 60 #[IV op d a b k] w fun e w' => e = .returned (.bool (vB op.toList d a b k)) ∧ ∃ o, w.alloc o = w' := by
  by_cases h0 : (op.toList == [115, 101, 116]) = true
  · obtain rfl := op_eq_0 op h0
    exact validInstr_w0 d a b k w
  by_cases h1 : (op.toList == [97, 100, 100]) = true
  · obtain rfl := op_eq_1 op h1
    exact validInstr_w1 d a b k w
  by_cases h2 : (op.toList == [115, 117, 98]) = true
  · obtain rfl := op_eq_2 op h2
    exact validInstr_w2 d a b k w
  by_cases h3 : (op.toList == [109, 117, 108]) = true
  · obtain rfl := op_eq_3 op h3
    exact validInstr_w3 d a b k w
  by_cases h4 : (op.toList == [108, 116]) = true
  · obtain rfl := op_eq_4 op h4
    exact validInstr_w4 d a b k w
  by_cases h5 : (op.toList == [108, 100]) = true
  · obtain rfl := op_eq_5 op h5
    exact validInstr_w5 d a b k w
  by_cases h6 : (op.toList == [115, 116]) = true
  · obtain rfl := op_eq_6 op h6
    exact validInstr_w6 d a b k w
  by_cases h7 : (op.toList == [98, 122]) = true
  · obtain rfl := op_eq_7 op h7
    exact validInstr_w7 d a b k w
  by_cases h8 : (op.toList == [106, 109, 112]) = true
  · obtain rfl := op_eq_8 op h8
    exact validInstr_w8 d a b k w
  by_cases h9 : (op.toList == [104, 108, 116]) = true
  · obtain rfl := op_eq_9 op h9
    exact validInstr_w9 d a b k w
  exact validInstr_none op (Bool.eq_false_iff.2 h0) (Bool.eq_false_iff.2 h1) (Bool.eq_false_iff.2 h2) (Bool.eq_false_iff.2 h3) (Bool.eq_false_iff.2 h4) (Bool.eq_false_iff.2 h5) (Bool.eq_false_iff.2 h6) (Bool.eq_false_iff.2 h7) (Bool.eq_false_iff.2 h8) (Bool.eq_false_iff.2 h9) d a b k w

set_option maxHeartbeats 400000 in
theorem szInstr_any (op : ByteArray) (d a b k left : Int) (h0 : 0 ≤ left) (h1 : left ≤ 1048576) (hs : op.size ≤ 9223372036854775807) (w : World) :
    Calls Tryd.prog 32 #[IV op d a b k, .int .i64 left] w fun e w' => e = .returned (.int .i64 (if left - op.size < 0 then -1 else left - op.size)) ∧ ∃ o, w.alloc o = w' := by
  by_cases hl : left - op.size < 0
  · have hl' : (left : Int) < op.size := by omega
    rw [if_pos hl]
    clear hl
    go_enter Tryd.func32, Tryd.ntmps32
    go_wp2
    go_ret
    exact ⟨rfl, _, rfl⟩
  · have hl' : (op.size : Int) ≤ left := by omega
    rw [if_neg hl]
    clear hl
    go_enter Tryd.func32, Tryd.ntmps32
    go_wp2
    go_ret
    exact ⟨rfl, _, rfl⟩
set_option maxHeartbeats 400000 in
theorem toInstr_any (op : ByteArray) (d a b k : Int) (w : World) :
    Calls Tryd.prog 34 #[IV op d a b k] w fun e w' => e = .returned (IV op d a b k) ∧ Below w.heap.size w w' := by
  go_enter Tryd.func34, Tryd.ntmps34
  go_wp2
  go_returns
  exact ⟨rfl, by go_grown⟩

end Go.Proofs.YtcfnoihjpiklhaaDoor