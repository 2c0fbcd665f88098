/- The walk of the model of UsesOf. -/
import Derived.Test.YtcfnoihjpiklhaaDoorW16
import Derived.Test.YtcfnoihjpiklhaaDoorW10
namespace Go.Proofs.YtcfnoihjpiklhaaDoor
open Go.ChangeShapes Go.WideShapes Go.ChangeAt Go.WideMaps Go.WideElems Go.RowKit

theorem word_is (l : List UInt8) (n : Nat) (hn : n < 10) (hw : wordN l = n) : (n = 0 ∧ ([115, 101, 116] == l) = true) ∨ (n = 1 ∧ ([97, 100, 100] == l) = true) ∨ (n = 2 ∧ ([115, 117, 98] == l) = true) ∨ (n = 3 ∧ ([109, 117, 108] == l) = true) ∨ (n = 4 ∧ ([108, 116] == l) = true) ∨ (n = 5 ∧ ([108, 100] == l) = true) ∨ (n = 6 ∧ ([115, 116] == l) = true) ∨ (n = 7 ∧ ([98, 122] == l) = true) ∨ (n = 8 ∧ ([106, 109, 112] == l) = true) ∨ (n = 9 ∧ ([104, 108, 116] == l) = true) := by
  unfold wordN at hw
  repeat' split at hw
  all_goals first | (exfalso; omega) | skip
  · exact .inl ⟨by omega, by assumption⟩
  · exact .inr (.inl ⟨by omega, by assumption⟩)
  · exact .inr (.inr (.inl ⟨by omega, by assumption⟩))
  · exact .inr (.inr (.inr (.inl ⟨by omega, by assumption⟩)))
  · exact .inr (.inr (.inr (.inr (.inl ⟨by omega, by assumption⟩))))
  · exact .inr (.inr (.inr (.inr (.inr (.inl ⟨by omega, by assumption⟩)))))
  · exact .inr (.inr (.inr (.inr (.inr (.inr (.inl ⟨by omega, by assumption⟩))))))
  · exact .inr (.inr (.inr (.inr (.inr (.inr (.inr (.inl ⟨by omega, by assumption⟩)))))))
  · exact .inr (.inr (.inr (.inr (.inr (.inr (.inr (.inr (.inl ⟨by omega, by assumption⟩))))))))
  · exact .inr (.inr (.inr (.inr (.inr (.inr (.inr (.inr (.inr (⟨by omega, by assumption⟩)))))))))


end Go.Proofs.YtcfnoihjpiklhaaDoor
