/- Walks of the model's DecodeInstr and of its law. -/
import Derived.Test.YtjbbmnmbcdohiaaDoorW10
namespace Go.Proofs.YtjbbmnmbcdohiaaDoor
open Go.ChangeShapes Go.WideShapes Go.ChangeAt Go.WideMaps Go.WideElems Go.RowKit
set_option linter.unusedSimpArgs false

def wT : Nat → ByteArray
  | 0 => ⟨#[115, 101, 116]⟩
  | 1 => ⟨#[97, 100, 100]⟩
  | 2 => ⟨#[115, 117, 98]⟩
  | 3 => ⟨#[109, 117, 108]⟩
  | 4 => ⟨#[108, 116]⟩
  | 5 => ⟨#[108, 100]⟩
  | 6 => ⟨#[115, 116]⟩
  | 7 => ⟨#[98, 122]⟩
  | 8 => ⟨#[106, 109, 112]⟩
  | _ => ⟨#[104, 108, 116]⟩
theorem word_is (l : List UInt8) (n : Nat) (hn : n < 10) (hw : wordN l = n) : (n = 0 ∧ ([115, 101, 116] == l) = true) ∨ (n = 1 ∧ ([97, 100, 100] == l) = true) ∨ (n = 2 ∧ ([115, 117, 98] == l) = true) ∨ (n = 3 ∧ ([109, 117, 108] == l) = true) ∨ (n = 4 ∧ ([108, 116] == l) = true) ∨ (n = 5 ∧ ([108, 100] == l) = true) ∨ (n = 6 ∧ ([115, 116] == l) = true) ∨ (n = 7 ∧ ([98, 122] == l) = true) ∨ (n = 8 ∧ ([106, 109, 112] == l) = true) ∨ (n = 9 ∧ ([104, 108, 116] == l) = true) := by
  unfold wordN at hw
  repeat' split at hw
  all_goals first | (exfalso; omega) | skip
  · exact .inl ⟨by omega, by assumption⟩
  · exact .inr (.inl ⟨by omega, by assumption⟩)
  · exact .inr (.inr (.inl ⟨by omega, by assumption⟩))
  · exact .inr (.inr (.inr (.inl ⟨by omega, by assumption⟩)))
  · exact .inr (.inr (.inr (.inr (.inl ⟨by omega, by assumption⟩))))
  · exact .inr (.inr (.inr (.inr (.inr (.inl ⟨by omega, by assumption⟩)))))
  · exact .inr (.inr (.inr (.inr (.inr (.inr (.inl ⟨by omega, by assumption⟩))))))
  · exact .inr (.inr (.inr (.inr (.inr (.inr (.inr (.inl ⟨by omega, by assumption⟩)))))))
  · exact .inr (.inr (.inr (.inr (.inr (.inr (.inr (.inr (.inl ⟨by omega, by assumption⟩))))))))
  · exact .inr (.inr (.inr (.inr (.inr (.inr (.inr (.inr (.inr (⟨by omega, by assumption⟩)))))))))


theorem op_is (op : ByteArray) (n : Nat) (hn : n < 10) (hw : wordN op.toList = n) : op = wT n := by
  rcases word_is op.toList n hn hw with ⟨rfl, h⟩ | ⟨rfl, h⟩ | ⟨rfl, h⟩ | ⟨rfl, h⟩ | ⟨rfl, h⟩ | ⟨rfl, h⟩ | ⟨rfl, h⟩ | ⟨rfl, h⟩ | ⟨rfl, h⟩ | ⟨rfl, h⟩
  · exact op_eq_0 op (beq_iff_eq.2 (beq_iff_eq.1 h).symm)
  · exact op_eq_1 op (beq_iff_eq.2 (beq_iff_eq.1 h).symm)
  · exact op_eq_2 op (beq_iff_eq.2 (beq_iff_eq.1 h).symm)
  · exact op_eq_3 op (beq_iff_eq.2 (beq_iff_eq.1 h).symm)
  · exact op_eq_4 op (beq_iff_eq.2 (beq_iff_eq.1 h).symm)
  · exact op_eq_5 op (beq_iff_eq.2 (beq_iff_eq.1 h).symm)
  · exact op_eq_6 op (beq_iff_eq.2 (beq_iff_eq.1 h).symm)
  · exact op_eq_7 op (beq_iff_eq.2 (beq_iff_eq.1 h).symm)
  · exact op_eq_8 op (beq_iff_eq.2 (beq_iff_eq.1 h).symm)
  · exact op_eq_9 op (beq_iff_eq.2 (beq_iff_eq.1 h).symm)
set_option maxHeartbeats 1000000 in
theorem eqInstr_same (op : ByteArray) (d a b k : Int) (w : World) :
    Calls Tryd.prog 25 #[IV op d a b k, IV op d a b k] w fun e w' => e = .returned (.bool true) ∧ ∃ o1 o2, (w.alloc o1).alloc o2 = w' := by
  go_enter Tryd.func25, Tryd.ntmps25
  go_wp2
  go_ret
  exact ⟨rfl, _, _, rfl⟩

end Go.Proofs.YtjbbmnmbcdohiaaDoor
