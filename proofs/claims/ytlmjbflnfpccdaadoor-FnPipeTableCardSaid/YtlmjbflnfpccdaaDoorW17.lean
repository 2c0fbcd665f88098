/- The walk of the model of UsesOf. -/
import Derived.Test.YtlmjbflnfpccdaaDoorW16
import Derived.Test.YtlmjbflnfpccdaaDoorW10
namespace Go.Proofs.YtlmjbflnfpccdaaDoor
open Go.ChangeShapes Go.WideShapes Go.ChangeAt Go.WideMaps Go.WideElems Go.RowKit

theorem specUsesOf_at0 (op : ByteArray) (h : (op.toList == [115, 101, 116]) = true) (d a b k : Int) (b1 : 0 ≤ d) (b1' : d ≤ 3) (b2 : 0 ≤ a) (b2' : a ≤ 3) (b3 : 0 ≤ b) (b3' : b ≤ 3) (w : World) :
    Calls Tryd.prog 63 #[IV op d a b k] w fun e w' => e = .returned (.tuple #[.int .i64 (usesR 0 d a b), .int .i64 (usesW 0 d)]) ∧ Below w.heap.size w w' := by
  obtain rfl := op_eq_0 op h
  exact (specUsesOf_0 d a b k b1 b1' b2 b2' b3 b3' w).mono fun _ _ h => ⟨h.1.trans (usesE_0 d a b), h.2⟩
theorem specUsesOf_at1 (op : ByteArray) (h : (op.toList == [97, 100, 100]) = true) (d a b k : Int) (b1 : 0 ≤ d) (b1' : d ≤ 3) (b2 : 0 ≤ a) (b2' : a ≤ 3) (b3 : 0 ≤ b) (b3' : b ≤ 3) (w : World) :
    Calls Tryd.prog 63 #[IV op d a b k] w fun e w' => e = .returned (.tuple #[.int .i64 (usesR 1 d a b), .int .i64 (usesW 1 d)]) ∧ Below w.heap.size w w' := by
  obtain rfl := op_eq_1 op h
  exact (specUsesOf_1 d a b k b1 b1' b2 b2' b3 b3' w).mono fun _ _ h => ⟨h.1.trans (usesE_1 d a b), h.2⟩
theorem specUsesOf_at2 (op : ByteArray) (h : (op.toList == [115, 117, 98]) = true) (d a b k : Int) (b1 : 0 ≤ d) (b1' : d ≤ 3) (b2 : 0 ≤ a) (b2' : a ≤ 3) (b3 : 0 ≤ b) (b3' : b ≤ 3) (w : World) :
    Calls Tryd.prog 63 #[IV op d a b k] w fun e w' => e = .returned (.tuple #[.int .i64 (usesR 2 d a b), .int .i64 (usesW 2 d)]) ∧ Below w.heap.size w w' := by
  obtain rfl := op_eq_2 op h
  exact (specUsesOf_2 d a b k b1 b1' b2 b2' b3 b3' w).mono fun _ _ h => ⟨h.1.trans (usesE_2 d a b), h.2⟩
theorem specUsesOf_at3 (op : ByteArray) (h : (op.toList == [109, 117, 108]) = true) (d a b k : Int) (b1 : 0 ≤ d) (b1' : d ≤ 3) (b2 : 0 ≤ a) (b2' : a ≤ 3) (b3 : 0 ≤ b) (b3' : b ≤ 3) (w : World) :
    Calls Tryd.prog 63 #[IV op d a b k] w fun e w' => e = .returned (.tuple #[.int .i64 (usesR 3 d a b), .int .i64 (usesW 3 d)]) ∧ Below w.heap.size w w' := by
  obtain rfl := op_eq_3 op h
  exact (specUsesOf_3 d a b k b1 b1' b2 b2' b3 b3' w).mono fun _ _ h => ⟨h.1.trans (usesE_3 d a b), h.2⟩
theorem specUsesOf_at4 (op : ByteArray) (h : (op.toList == [108, 116]) = true) (d a b k : Int) (b1 : 0 ≤ d) (b1' : d ≤ 3) (b2 : 0 ≤ a) (b2' : a ≤ 3) (b3 : 0 ≤ b) (b3' : b ≤ 3) (w : World) :
    Calls Tryd.prog 63 #[IV op d a b k] w fun e w' => e = .returned (.tuple #[.int .i64 (usesR 4 d a b), .int .i64 (usesW 4 d)]) ∧ Below w.heap.size w w' := by
  obtain rfl := op_eq_4 op h
  exact (specUsesOf_4 d a b k b1 b1' b2 b2' b3 b3' w).mono fun _ _ h => ⟨h.1.trans (usesE_4 d a b), h.2⟩
theorem specUsesOf_at5 (op : ByteArray) (h : (op.toList == [108, 100]) = true) (d a b k : Int) (b1 : 0 ≤ d) (b1' : d ≤ 3) (b2 : 0 ≤ a) (b2' : a ≤ 3) (b3 : 0 ≤ b) (b3' : b ≤ 3) (w : World) :
    Calls Tryd.prog 63 #[IV op d a b k] w fun e w' => e = .returned (.tuple #[.int .i64 (usesR 5 d a b), .int .i64 (usesW 5 d)]) ∧ Below w.heap.size w w' := by
  obtain rfl := op_eq_5 op h
  exact (specUsesOf_5 d a b k b1 b1' b2 b2' b3 b3' w).mono fun _ _ h => ⟨h.1.trans (usesE_5 d a b), h.2⟩
theorem specUsesOf_at6 (op : ByteArray) (h : (op.toList == [115, 116]) = true) (d a b k : Int) (b1 : 0 ≤ d) (b1' : d ≤ 3) (b2 : 0 ≤ a) (b2' : a ≤ 3) (b3 : 0 ≤ b) (b3' : b ≤ 3) (w : World) :
    Calls Tryd.prog 63 #[IV op d a b k] w fun e w' => e = .returned (.tuple #[.int .i64 (usesR 6 d a b), .int .i64 (usesW 6 d)]) ∧ Below w.heap.size w w' := by
  obtain rfl := op_eq_6 op h
  exact (specUsesOf_6 d a b k b1 b1' b2 b2' b3 b3' w).mono fun _ _ h => ⟨h.1.trans (show Ending.returned (.tuple #[.int .i64 (bits .or .i64 (sh a) (sh d)), .int .i64 0]) = .returned (.tuple #[.int .i64 (usesR 6 d a b), .int .i64 (usesW 6 d)]) by rw [usesR_6, usesW_6, or_comm_i]), h.2⟩
theorem specUsesOf_at7 (op : ByteArray) (h : (op.toList == [98, 122]) = true) (d a b k : Int) (b1 : 0 ≤ d) (b1' : d ≤ 3) (b2 : 0 ≤ a) (b2' : a ≤ 3) (b3 : 0 ≤ b) (b3' : b ≤ 3) (w : World) :
    Calls Tryd.prog 63 #[IV op d a b k] w fun e w' => e = .returned (.tuple #[.int .i64 (usesR 7 d a b), .int .i64 (usesW 7 d)]) ∧ Below w.heap.size w w' := by
  obtain rfl := op_eq_7 op h
  exact (specUsesOf_7 d a b k b1 b1' b2 b2' b3 b3' w).mono fun _ _ h => ⟨h.1.trans (usesE_7 d a b), h.2⟩
theorem specUsesOf_at8 (op : ByteArray) (h : (op.toList == [106, 109, 112]) = true) (d a b k : Int) (b1 : 0 ≤ d) (b1' : d ≤ 3) (b2 : 0 ≤ a) (b2' : a ≤ 3) (b3 : 0 ≤ b) (b3' : b ≤ 3) (w : World) :
    Calls Tryd.prog 63 #[IV op d a b k] w fun e w' => e = .returned (.tuple #[.int .i64 (usesR 8 d a b), .int .i64 (usesW 8 d)]) ∧ Below w.heap.size w w' := by
  obtain rfl := op_eq_8 op h
  exact (specUsesOf_8 d a b k b1 b1' b2 b2' b3 b3' w).mono fun _ _ h => ⟨h.1.trans (usesE_8 d a b), h.2⟩
theorem specUsesOf_at9 (op : ByteArray) (h : (op.toList == [104, 108, 116]) = true) (d a b k : Int) (b1 : 0 ≤ d) (b1' : d ≤ 3) (b2 : 0 ≤ a) (b2' : a ≤ 3) (b3 : 0 ≤ b) (b3' : b ≤ 3) (w : World) :
    Calls Tryd.prog 63 #[IV op d a b k] w fun e w' => e = .returned (.tuple #[.int .i64 (usesR 9 d a b), .int .i64 (usesW 9 d)]) ∧ Below w.heap.size w w' := by
  obtain rfl := op_eq_9 op h
  exact (specUsesOf_9 d a b k b1 b1' b2 b2' b3 b3' w).mono fun _ _ h => ⟨h.1.trans (usesE_9 d a b), h.2⟩
theorem word_is (l : List UInt8) (n : Nat) (hn : n < 10) (hw : wordN l = n) : (n = 0 ∧ ([115, 101, 116] == l) = true) ∨ (n = 1 ∧ ([97, 100, 100] == l) = true) ∨ (n = 2 ∧ ([115, 117, 98] == l) = true) ∨ (n = 3 ∧ ([109, 117, 108] == l) = true) ∨ (n = 4 ∧ ([108, 116] == l) = true) ∨ (n = 5 ∧ ([108, 100] == l) = true) ∨ (n = 6 ∧ ([115, 116] == l) = true) ∨ (n = 7 ∧ ([98, 122] == l) = true) ∨ (n = 8 ∧ ([106, 109, 112] == l) = true) ∨ (n = 9 ∧ ([104, 108, 116] == l) = true) := by
  unfold wordN at hw
  repeat' split at hw
  all_goals first | (exfalso; omega) | skip
  · exact .inl ⟨by omega, by assumption⟩
  · exact .inr (.inl ⟨by omega, by assumption⟩)
  · exact .inr (.inr (.inl ⟨by omega, by assumption⟩))
  · exact .inr (.inr (.inr (.inl ⟨by omega, by assumption⟩)))
  · exact .inr (.inr (.inr (.inr (.inl ⟨by omega, by assumption⟩))))
  · exact .inr (.inr (.inr (.inr (.inr (.inl ⟨by omega, by assumption⟩)))))
  · exact .inr (.inr (.inr (.inr (.inr (.inr (.inl ⟨by omega, by assumption⟩))))))
  · exact .inr (.inr (.inr (.inr (.inr (.inr (.inr (.inl ⟨by omega, by assumption⟩)))))))
  · exact .inr (.inr (.inr (.inr (.inr (.inr (.inr (.inr (.inl ⟨by omega, by assumption⟩))))))))
  · exact .inr (.inr (.inr (.inr (.inr (.inr (.inr (.inr (.inr (⟨by omega, by assumption⟩)))))))))


theorem specUsesOf_any (op : ByteArray) (d a b k : Int) (hv : vB op.toList d a b k = true) (n : Nat) (hn : n < 10) (hw : wordN op.toList = n) (w : World) :
    Calls Tryd.prog 63 #[IV op d a b k] w fun e w' => e = .returned (.tuple #[.int .i64 (usesR n d a b), .int .i64 (usesW n d)]) ∧ Below w.heap.size w w' := by
  obtain ⟨_, ⟨b1, b1'⟩, ⟨b2, b2'⟩, ⟨b3, b3'⟩, _⟩ := VI_bounds (vB_true.1 hv)
  rcases word_is op.toList n hn hw with ⟨rfl, h⟩ | ⟨rfl, h⟩ | ⟨rfl, h⟩ | ⟨rfl, h⟩ | ⟨rfl, h⟩ | ⟨rfl, h⟩ | ⟨rfl, h⟩ | ⟨rfl, h⟩ | ⟨rfl, h⟩ | ⟨rfl, h⟩
  · exact specUsesOf_at0 op (beq_iff_eq.2 (beq_iff_eq.1 h).symm) d a b k b1 b1' b2 b2' b3 b3' w
  · exact specUsesOf_at1 op (beq_iff_eq.2 (beq_iff_eq.1 h).symm) d a b k b1 b1' b2 b2' b3 b3' w
  · exact specUsesOf_at2 op (beq_iff_eq.2 (beq_iff_eq.1 h).symm) d a b k b1 b1' b2 b2' b3 b3' w
  · exact specUsesOf_at3 op (beq_iff_eq.2 (beq_iff_eq.1 h).symm) d a b k b1 b1' b2 b2' b3 b3' w
  · exact specUsesOf_at4 op (beq_iff_eq.2 (beq_iff_eq.1 h).symm) d a b k b1 b1' b2 b2' b3 b3' w
  · exact specUsesOf_at5 op (beq_iff_eq.2 (beq_iff_eq.1 h).symm) d a b k b1 b1' b2 b2' b3 b3' w
  · exact specUsesOf_at6 op (beq_iff_eq.2 (beq_iff_eq.1 h).symm) d a b k b1 b1' b2 b2' b3 b3' w
  · exact specUsesOf_at7 op (beq_iff_eq.2 (beq_iff_eq.1 h).symm) d a b k b1 b1' b2 b2' b3 b3' w
  · exact specUsesOf_at8 op (beq_iff_eq.2 (beq_iff_eq.1 h).symm) d a b k b1 b1' b2 b2' b3 b3' w
  · exact specUsesOf_at9 op (beq_iff_eq.2 (beq_iff_eq.1 h).symm) d a b k b1 b1' b2 b2' b3 b3' w
end Go.Proofs.YtlmjbflnfpccdaaDoor
