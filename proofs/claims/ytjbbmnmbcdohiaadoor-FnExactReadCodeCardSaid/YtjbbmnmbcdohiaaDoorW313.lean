/- The model's splitAt cuts a text at a byte. -/
import Derived.Test.YtjbbmnmbcdohiaaDoorW312
namespace Go.Proofs.YtjbbmnmbcdohiaaDoor
open Go.RowKit
theorem cut_here (l : List UInt8) (c : UInt8) (f j : Nat) (hf : f ≤ j) (hj : j < l.length) (h : l[j] = c) : l.drop f = (l.drop f).take (j - f) ++ c :: l.drop (j + 1) := by
  have e1 : (l.drop f).drop (j - f) = c :: l.drop (j + 1) := by
    rw [List.drop_drop, show f + (j - f) = j by omega, List.drop_eq_getElem_cons hj, h]
  rw [← e1, List.take_append_drop]
theorem cut_next (l : List UInt8) (f j : Nat) (hf : f ≤ j) (hj : j < l.length) : (l.drop f).take (j + 1 - f) = (l.drop f).take (j - f) ++ [l[j]] := by
  have h : j - f < (l.drop f).length := by simp; omega
  rw [show j + 1 - f = (j - f) + 1 by omega, List.take_succ_eq_append_getElem h]
  congr 2
  simp [show f + (j - f) = j by omega]
set_option maxRecDepth 100000 in
set_option maxHeartbeats 16000000 in
theorem splitAt_res (c : UInt8) (l : List UInt8) (w : World) (hl : l.length ≤ 1048576) :
    Calls Tryd.prog 50 #[.string (tx l), .int .u8 c.toNat] w (StrRes (splitC c l) w) := by
  have HL := shade (splitC_le c l)
  have hz := tx_size l
  have HO1 := shade (show (w.alloc (.cells #[] 9)).ownsRow w.heap.size 9 1 (.slice (some ⟨w.heap.size, 0, none⟩) 0 0) 0 (strL []) from World.ownsRow_lit w #[] 0 (Nat.le_refl _) (by decide) rfl)
  go_enter Tryd.func50, Tryd.ntmps50
  go_wp2_with fail
  go_loopw [5, 6, 7] (fun v fr i wr => ∃ (j f : Nat) (xs : List (List UInt8)), f ≤ j ∧ j ≤ l.length ∧ i = .int .i64 j ∧ fr = .int .i64 f ∧ c ∉ (l.drop f).take (j - f) ∧ xs ++ splitC c (l.drop f) = splitC c l ∧ wr.ownsRow w.heap.size 9 1 v xs.length (strL xs) ∧ w.grownBy wr none) (fun _ _ i _ => l.length - (intOf i).toNat)
  case atStart => exact ⟨0, 0, [], Nat.le_refl _, Nat.zero_le _, rfl, rfl, by simp, rfl, HO1.out, World.grownBy_alloc _ _ _⟩
  case round =>
    clear HO1
    obtain ⟨j, f, xs, hf, hj, rfl, rfl, hno, hx, ho, hg⟩ := hrel
    have HX := shade hx
    have HO := shade ho
    have HG := shade hg
    have HNO := shade hno
    clear hx ho hg hno
    obtain ⟨A4, c4, rfl, -⟩ := ownsRow_slice HO.out
    by_cases hjn : j < l.length
    · have hgt := tx_get l j (by rw [hz]; exact hjn) hjn
      have HCUT := shade (fun (h : l[j] = c) => cut_here l c f j hf hjn h)
      have hnx := cut_next l f j hf hjn
      obtain ⟨x, hx⟩ : ∃ x, l[j] = x := ⟨_, rfl⟩
      rw [hx] at HCUT hnx hgt
      have HNX := shade hnx
      clear hx hnx
      by_cases hc : x = c
      · subst hc
        have hb : ((x.toNat : Int) == (x.toNat : Int)) = true := by simp
        have hext := tx_extract l f j
        have hsp := splitC_hit x _ (l.drop (j + 1)) HNO.out
        rw [← HCUT.out rfl] at hsp
        obtain ⟨p, hp⟩ : ∃ p, (l.drop f).take (j - f) = p := ⟨_, rfl⟩
        rw [hp] at hext hsp
        have HX2 := shade (show (xs ++ [p]) ++ splitC x (l.drop (j + 1)) = splitC x l from by
          rw [← HX.out, hsp]
          simp)
        have hxl : xs.length + 1 ≤ l.length + 1 := by
          have h1 := congrArg List.length HX2.out
          simp only [List.length_append, List.length_cons, List.length_nil] at h1
          have := HL.out
          omega
        clear hsp hp HCUT HNX HNO HX
        obtain ⟨i0, hi0, hz0, hz1, hz2⟩ := info_parts info9
        go_wp2_with (first
              | (at_builtin; go_loud (refine wpList_append_own _ rfl _ _ 48 rfl w.heap.size 9 i0 (.string ⟨#[]⟩) 1 16 Tryd.underlying48 hi0 hz0 hz1 hz2 rfl (by decide) _ _ _ rfl (HO.out.alloc _) ⟨wr.heap.size, 0, none⟩ 1 1 [.string _] rfl rfl (str_new _ _ _) (str_one _) (by unfold maxLen; omega) (by omega) (by have := HG.out.size; simp; omega) ?_))
              | go_in)
        intro v' w8 hown8 hgr8 hnil8
        rw [strL_snoc] at hown8
        have HO8 := shade (show w8.ownsRow w.heap.size 9 1 v' (xs ++ [p]).length (strL (xs ++ [p])) from by
          rw [List.length_append]
          exact hown8)
        have HG8 := shade (grown_rowS (grown_same HG.out (World.grownBy_alloc wr (.cells #[.string (tx p)] 9) none)) hgr8 (fun j e => (World.ownsRow.lt HO.out j e).1))
        clear hown8 hgr8 hnil8 hi0 hz0 hz1 hz2 HO HG
        go_wp2_with fail
        go_roundw
        case rel => exact ⟨j + 1, j + 1, xs ++ [p], Nat.le_refl _, by omega, by go_num, by go_num, by simp, HX2.out, HO8.out, HG8.out⟩
        case measure => simp [intOf]; omega
      · have hb : ((x.toNat : Int) == (c.toNat : Int)) = false := by
          simp only [beq_eq_false_iff_ne, ne_eq]
          intro e
          exact hc (UInt8.toNat_inj.1 (by omega))
        have HC := shade hc
        clear hc HCUT
        go_wp2_with fail
        go_roundw
        case rel => exact ⟨j + 1, f, xs, by omega, by omega, by go_num, rfl, by
          rw [HNX.out]
          intro e
          rcases List.mem_append.1 e with e | e
          · exact HNO.out e
          · exact HC.out (List.mem_singleton.1 e).symm, HX.out, HO.out, HG.out⟩
        case measure => simp [intOf]; omega
    · obtain rfl : j = l.length := by omega
      have hdr := tx_drop l f
      rw [hz] at hdr
      have hno := HNO.out
      rw [List.take_of_length_le (by simp)] at hno
      have hsp := splitC_miss c _ hno
      obtain ⟨p, hp⟩ : ∃ p, l.drop f = p := ⟨_, rfl⟩
      rw [hp] at hdr hsp
      have HX2 := shade (show xs ++ [p] = splitC c l from by rw [← HX.out, hp, hsp])
      have hxl : xs.length + 1 ≤ l.length + 1 := by
        have h1 := congrArg List.length HX2.out
        simp only [List.length_append, List.length_cons, List.length_nil] at h1
        have := HL.out
        omega
      clear hno hsp hp HNO HX
      obtain ⟨i0, hi0, hz0, hz1, hz2⟩ := info_parts info9
      go_wp2_with (first
            | (at_builtin; go_loud (refine wpList_append_own _ rfl _ _ 48 rfl w.heap.size 9 i0 (.string ⟨#[]⟩) 1 16 Tryd.underlying48 hi0 hz0 hz1 hz2 rfl (by decide) _ _ _ rfl (HO.out.alloc _) ⟨wr.heap.size, 0, none⟩ 1 1 [.string _] rfl rfl (str_new _ _ _) (str_one _) (by unfold maxLen; omega) (by omega) (by have := HG.out.size; simp; omega) ?_))
            | go_in)
      intro v' w8 hown8 hgr8 hnil8
      rw [strL_snoc] at hown8
      have HO8 := shade (show w8.ownsRow w.heap.size 9 1 v' (splitC c l).length (strL (splitC c l)) from by
        rw [← HX2.out, List.length_append]
        exact hown8)
      have HG8 := shade (grown_rowS (grown_same HG.out (World.grownBy_alloc wr (.cells #[.string (tx p)] 9) none)) hgr8 (fun j e => (World.ownsRow.lt HO.out j e).1))
      clear hown8 hgr8 hnil8 hi0 hz0 hz1 hz2 HO HG
      go_wp2_with fail
      go_ret
      exact ⟨_, rfl, HO8.out, HG8.out⟩
end Go.Proofs.YtjbbmnmbcdohiaaDoor
