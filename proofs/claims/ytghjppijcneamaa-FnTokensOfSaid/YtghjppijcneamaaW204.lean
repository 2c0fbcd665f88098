/- TokensOf of the program; the model's tokens. -/
import Derived.Test.YtghjppijcneamaaW203
namespace Go.Proofs.Ytghjppijcneamaa
open Go.RowKit
/-- The words of a text that is not too long. -/
def wordsL (l : List UInt8) : List (List UInt8) := if l.length ≤ 200 then tkw [] l else []
theorem wordsL_len (l : List UInt8) : (wordsL l).length ≤ 200 := by
  unfold wordsL
  split
  · have := tkw_len l []
    simp at this
    omega
  · simp
theorem StrRes.nil (w : World) : StrRes [] w (.returned (.slice none 0 0)) w := ⟨_, rfl, World.ownsRow_nil _ _ _ _, grown_refl _ _⟩
theorem TokensOf_res (l : List UInt8) (w : World) (hl : l.length ≤ 1048576) :
    Calls Try.prog 6 #[.string (tx l)] w (StrRes (wordsL l) w) := by
  have hz := tx_size l
  unfold wordsL
  by_cases h : l.length ≤ 200
  · rw [if_pos h]
    have HW := shade (wordsOf_res l w hl)
    go_enter Try.func6, Try.ntmps6
    go_wp2_with fail
    refine HW.out.mono ?_
    rintro e w1 ⟨v, rfl, ho, hg⟩
    have HO := shade ho
    have HG := shade hg
    clear ho hg HW
    go_wp2_with fail
    go_ret
    exact ⟨_, rfl, HO.out, HG.out⟩
  · rw [if_neg h]
    go_enter Try.func6, Try.ntmps6
    go_wp2_with fail
    go_ret
    exact StrRes.nil _
theorem tx_sub (l : List UInt8) (j : Nat) (h : j < l.length) : (tx l).extract j (j + 1) = tx [l[j]] := by
  rw [tx_extract, show j + 1 - j = 1 by omega, List.drop_eq_getElem_cons h]
  rfl


set_option maxRecDepth 100000 in
set_option maxHeartbeats 16000000 in
theorem tokens_res (l : List UInt8) (w : World) (hl : l.length ≤ 1048576) :
    Calls Try.prog 15 #[.string (tx l)] w (StrRes (tkw [] l) w) := by
  have hlen := tkw_len l []
  simp only [List.length_nil, Nat.zero_add] at hlen
  have HL := shade hlen
  clear hlen
  have hz := tx_size l
  have HO1 := shade (show (w.alloc (.cells #[] 9)).ownsRow w.heap.size 9 1 (.slice (some ⟨w.heap.size, 0, none⟩) 0 0) 0 (strL []) from World.ownsRow_lit w #[] 0 (Nat.le_refl _) (by decide) rfl)
  go_enter Try.func15, Try.ntmps15
  go_wp2_with fail
  go_loopw [3, 4, 5] (fun v q i wr => ∃ (j : Nat) (now : List UInt8) (xs : List (List UInt8)), j ≤ l.length ∧ now.length ≤ j ∧ i = .int .i64 j ∧ q = .string (tx now) ∧ xs ++ tkw now (l.drop j) = tkw [] l ∧ wr.ownsRow w.heap.size 9 1 v xs.length (strL xs) ∧ w.grownBy wr none) (fun _ _ i _ => l.length - (intOf i).toNat)
  case atStart => exact ⟨0, [], [], Nat.zero_le _, Nat.zero_le _, rfl, rfl, rfl, HO1.out, World.grownBy_alloc _ _ _⟩
  case round =>
    clear HO1
    obtain ⟨j, now, xs, hj, hnj, rfl, rfl, hx, ho, hg⟩ := hrel
    have HX := shade hx
    have HO := shade ho
    have HG := shade hg
    clear hx ho hg
    obtain ⟨A4, c4, rfl, -⟩ := ownsRow_slice HO.out
    by_cases hjn : j < l.length
    · have hgt := tx_get l j (by rw [hz]; exact hjn) hjn
      have hsub := tx_sub l j hjn
      rw [List.drop_eq_getElem_cons hjn] at HX
      obtain ⟨c, hc⟩ : ∃ c, l[j] = c := ⟨_, rfl⟩
      rw [hc] at HX hgt hsub
      clear hc
      have HADD := shade (fun (x : List UInt8) (W : World) => (show x.length ≤ 1048576 → (Op.stringOp .add (tx x) (tx [c])).run Try.prog W = .ok (.string (tx (x ++ [c]))) W from fun h => by
        rw [run_string_add_sum _ _ _ (by rw [tx_size, tx_size]; simp; omega), tx_append]))
      have HADD0 := shade (fun (W : World) => (show (Op.stringOp .add ⟨#[]⟩ (tx [c])).run Try.prog W = .ok (.string (tx [c])) W from HADD.out [] W (by simp)))
      by_cases s32 : c.toNat = 32
      · have hk0 : kd c = 0 := (kd_zero c).2 (.inl s32)
        have b0 : ((c.toNat : Int) == 32) = true := by simp; omega
        clear s32 HADD HADD0
        by_cases hnow : now = []
        · subst hnow
          have hx2 := HX.out
          rw [tkw_space _ _ _ hk0] at hx2
          have HX2 := shade (show xs ++ tkw [] (l.drop (j + 1)) = tkw [] l from by
            rw [← hx2]
            simp [one?])
          have hn := tx_toList ([] : List UInt8)
          clear hx2 hk0
          go_wp2_with fail
          go_roundw
          case rel => exact ⟨j + 1, [], xs, by omega, by simp <;> omega, by go_num, rfl, HX2.out, HO.out, HG.out⟩
          case measure => simp [intOf]; omega
        · have hx2 := HX.out
          rw [tkw_space _ _ _ hk0] at hx2
          have HX2 := shade (show (xs ++ [now]) ++ tkw [] (l.drop (j + 1)) = tkw [] l from by
            rw [← hx2]
            simp [one?, hnow])
          have hxl : xs.length + 1 ≤ l.length := by
            have h1 := congrArg List.length HX2.out
            simp only [List.length_append, List.length_cons, List.length_nil] at h1
            have := HL.out
            omega
          have hn : ((tx now).toList == ([] : List UInt8)) = false := by
            rw [tx_toList]
            rcases now with _ | ⟨_, _⟩
            · exact absurd rfl hnow
            · rfl
          clear hx2 hk0 hnow
          obtain ⟨i0, hi0, hz0, hz1, hz2⟩ := info_parts info9
          go_wp2_with (first
                | (at_builtin; go_loud (refine wpList_append_own _ rfl _ _ 24 rfl w.heap.size 9 i0 (.string ⟨#[]⟩) 1 16 Try.underlying24 hi0 hz0 hz1 hz2 rfl (by decide) _ _ _ rfl (HO.out.alloc _) ⟨wr.heap.size, 0, none⟩ 1 1 [.string _] rfl rfl (str_new _ _ _) (str_one _) (by unfold maxLen; omega) (by omega) (by have := HG.out.size; simp; omega) ?_))
                | go_in)
          intro v' w8 hown8 hgr8 hnil8
          rw [strL_snoc] at hown8
          have HO8 := shade (show w8.ownsRow w.heap.size 9 1 v' (xs ++ [now]).length (strL (xs ++ [now])) from by
            rw [List.length_append]
            exact hown8)
          have HG8 := shade (grown_row (grown_same HG.out (World.grownBy_alloc wr (.cells #[.string (tx now)] 9) none)) hgr8 (fun j e => (World.ownsRow.lt HO.out j e).1))
          clear hown8 hgr8 hnil8 hi0 hz0 hz1 hz2 HO HG
          go_wp2_with fail
          go_roundw
          case rel => exact ⟨j + 1, [], xs ++ [now], by omega, by simp <;> omega, by go_num, rfl, HX2.out, HO8.out, HG8.out⟩
          case measure => simp [intOf]; omega
      by_cases s10 : c.toNat = 10
      · have hk0 : kd c = 0 := (kd_zero c).2 (.inr s10)
        have b0 : ((c.toNat : Int) == 32) = false := by simp; omega
        have b1 : ((c.toNat : Int) == 10) = true := by simp; omega
        clear s32 s10 HADD HADD0
        by_cases hnow : now = []
        · subst hnow
          have hx2 := HX.out
          rw [tkw_space _ _ _ hk0] at hx2
          have HX2 := shade (show xs ++ tkw [] (l.drop (j + 1)) = tkw [] l from by
            rw [← hx2]
            simp [one?])
          have hn := tx_toList ([] : List UInt8)
          clear hx2 hk0
          go_wp2_with fail
          go_roundw
          case rel => exact ⟨j + 1, [], xs, by omega, by simp <;> omega, by go_num, rfl, HX2.out, HO.out, HG.out⟩
          case measure => simp [intOf]; omega
        · have hx2 := HX.out
          rw [tkw_space _ _ _ hk0] at hx2
          have HX2 := shade (show (xs ++ [now]) ++ tkw [] (l.drop (j + 1)) = tkw [] l from by
            rw [← hx2]
            simp [one?, hnow])
          have hxl : xs.length + 1 ≤ l.length := by
            have h1 := congrArg List.length HX2.out
            simp only [List.length_append, List.length_cons, List.length_nil] at h1
            have := HL.out
            omega
          have hn : ((tx now).toList == ([] : List UInt8)) = false := by
            rw [tx_toList]
            rcases now with _ | ⟨_, _⟩
            · exact absurd rfl hnow
            · rfl
          clear hx2 hk0 hnow
          obtain ⟨i0, hi0, hz0, hz1, hz2⟩ := info_parts info9
          go_wp2_with (first
                | (at_builtin; go_loud (refine wpList_append_own _ rfl _ _ 24 rfl w.heap.size 9 i0 (.string ⟨#[]⟩) 1 16 Try.underlying24 hi0 hz0 hz1 hz2 rfl (by decide) _ _ _ rfl (HO.out.alloc _) ⟨wr.heap.size, 0, none⟩ 1 1 [.string _] rfl rfl (str_new _ _ _) (str_one _) (by unfold maxLen; omega) (by omega) (by have := HG.out.size; simp; omega) ?_))
                | go_in)
          intro v' w8 hown8 hgr8 hnil8
          rw [strL_snoc] at hown8
          have HO8 := shade (show w8.ownsRow w.heap.size 9 1 v' (xs ++ [now]).length (strL (xs ++ [now])) from by
            rw [List.length_append]
            exact hown8)
          have HG8 := shade (grown_row (grown_same HG.out (World.grownBy_alloc wr (.cells #[.string (tx now)] 9) none)) hgr8 (fun j e => (World.ownsRow.lt HO.out j e).1))
          clear hown8 hgr8 hnil8 hi0 hz0 hz1 hz2 HO HG
          go_wp2_with fail
          go_roundw
          case rel => exact ⟨j + 1, [], xs ++ [now], by omega, by simp <;> omega, by go_num, rfl, HX2.out, HO8.out, HG8.out⟩
          case measure => simp [intOf]; omega
      by_cases d1 : 48 ≤ c.toNat ∧ c.toNat ≤ 57
      · have b0 : ((c.toNat : Int) == 32) = false := by simp; omega
        have b1 : ((c.toNat : Int) == 10) = false := by simp; omega
        have hkc : kd c = 1 := (kd_one c).2 (by omega)
        have b2 : (48 : Int) ≤ c.toNat := by omega
        have b3 : (c.toNat : Int) ≤ 57 := by omega
        have b4 : ¬ (97 : Int) ≤ c.toNat := by omega
        by_cases hnow : now = []
        · subst hnow
          have hx2 := HX.out
          rw [tkw_on _ _ _ (by omega) (.inl rfl), List.nil_append] at hx2
          have HX2 := shade hx2
          have hn := tx_toList ([] : List UInt8)
          have hadd := fun W => HADD.out [] W (by simp)
          simp only [List.nil_append] at hadd
          clear hx2
          go_wp2_with fail
          go_roundw
          case rel => exact ⟨j + 1, [c], xs, by omega, by simp <;> omega, by go_num, rfl, HX2.out, HO.out, HG.out⟩
          case measure => simp [intOf]; omega
        · rcases ha : allK 1 now with _ | _
          · have HX2 := shade (show (xs ++ [now]) ++ tkw [c] (l.drop (j + 1)) = tkw [] l from by
              rw [← HX.out, tkw_new _ _ _ (by omega) hnow (fun h => by rw [ha] at h; exact absurd h.2 (by simp)) (fun h => by omega)]
              simp)
            have hxl : xs.length + 1 ≤ l.length := by
              have h1 := congrArg List.length HX2.out
              simp only [List.length_append, List.length_cons, List.length_nil] at h1
              have := HL.out
              omega
            have hn : ((tx now).toList == ([] : List UInt8)) = false := by
              rw [tx_toList]
              rcases now with _ | ⟨_, _⟩
              · exact absurd rfl hnow
              · rfl
            have hadd := HADD0.out
            go_wp2_with fail
            refine (isDigits_is now _ (by omega)).mono ?_
            rintro e w2 ⟨rfl, rfl⟩
            rw [ha]
            obtain ⟨i0, hi0, hz0, hz1, hz2⟩ := info_parts info9
            go_wp2_with (first
                  | (at_builtin; go_loud (refine wpList_append_own _ rfl _ _ 24 rfl w.heap.size 9 i0 (.string ⟨#[]⟩) 1 16 Try.underlying24 hi0 hz0 hz1 hz2 rfl (by decide) _ _ _ rfl (HO.out.alloc _) ⟨wr.heap.size, 0, none⟩ 1 1 [.string _] rfl rfl (str_new _ _ _) (str_one _) (by unfold maxLen; omega) (by omega) (by have := HG.out.size; simp; omega) ?_))
                  | go_in)
            intro v' w8 hown8 hgr8 hnil8
            rw [strL_snoc] at hown8
            have HO8 := shade (show w8.ownsRow w.heap.size 9 1 v' (xs ++ [now]).length (strL (xs ++ [now])) from by
              rw [List.length_append]
              exact hown8)
            have HG8 := shade (grown_row (grown_same HG.out (World.grownBy_alloc wr (.cells #[.string (tx now)] 9) none)) hgr8 (fun j e => (World.ownsRow.lt HO.out j e).1))
            clear hown8 hgr8 hnil8 hi0 hz0 hz1 hz2 HO HG
            go_wp2_with fail
            go_roundw
            case rel => exact ⟨j + 1, [c], xs ++ [now], by omega, by simp <;> omega, by go_num, rfl, HX2.out, HO8.out, HG8.out⟩
            case measure => simp [intOf]; omega
          · have HX2 := shade (show xs ++ tkw (now ++ [c]) (l.drop (j + 1)) = tkw [] l from by
              rw [← HX.out, tkw_on _ _ _ (by omega) (.inr (.inl ⟨hkc, ha⟩))])
            have hn : ((tx now).toList == ([] : List UInt8)) = false := by
              rw [tx_toList]
              rcases now with _ | ⟨_, _⟩
              · exact absurd rfl hnow
              · rfl
            have hadd := fun W => HADD.out now W (by omega)
            go_wp2_with fail
            refine (isDigits_is now _ (by omega)).mono ?_
            rintro e w2 ⟨rfl, rfl⟩
            rw [ha]
            go_wp2_with fail
            go_roundw
            case rel => exact ⟨j + 1, now ++ [c], xs, by omega, by simp <;> omega, by go_num, rfl, HX2.out, HO.out, HG.out⟩
            case measure => simp [intOf]; omega
      by_cases d2 : 97 ≤ c.toNat ∧ c.toNat ≤ 122
      · have b0 : ((c.toNat : Int) == 32) = false := by simp; omega
        have b1 : ((c.toNat : Int) == 10) = false := by simp; omega
        have hkc : kd c = 2 := (kd_two c).2 (by omega)
        have b2 : (48 : Int) ≤ c.toNat := by omega
        have b3 : ¬ (c.toNat : Int) ≤ 57 := by omega
        have b4 : (97 : Int) ≤ c.toNat := by omega
        have b5 : (c.toNat : Int) ≤ 122 := by omega
        by_cases hnow : now = []
        · subst hnow
          have hx2 := HX.out
          rw [tkw_on _ _ _ (by omega) (.inl rfl), List.nil_append] at hx2
          have HX2 := shade hx2
          have hn := tx_toList ([] : List UInt8)
          have hadd := fun W => HADD.out [] W (by simp)
          simp only [List.nil_append] at hadd
          clear hx2
          go_wp2_with fail
          go_roundw
          case rel => exact ⟨j + 1, [c], xs, by omega, by simp <;> omega, by go_num, rfl, HX2.out, HO.out, HG.out⟩
          case measure => simp [intOf]; omega
        · rcases ha : allK 2 now with _ | _
          · have HX2 := shade (show (xs ++ [now]) ++ tkw [c] (l.drop (j + 1)) = tkw [] l from by
              rw [← HX.out, tkw_new _ _ _ (by omega) hnow (fun h => by omega) (fun h => by rw [ha] at h; exact absurd h.2 (by simp))]
              simp)
            have hxl : xs.length + 1 ≤ l.length := by
              have h1 := congrArg List.length HX2.out
              simp only [List.length_append, List.length_cons, List.length_nil] at h1
              have := HL.out
              omega
            have hn : ((tx now).toList == ([] : List UInt8)) = false := by
              rw [tx_toList]
              rcases now with _ | ⟨_, _⟩
              · exact absurd rfl hnow
              · rfl
            have hadd := HADD0.out
            go_wp2_with fail
            refine (isLetters_is now _ (by omega)).mono ?_
            rintro e w2 ⟨rfl, rfl⟩
            rw [ha]
            obtain ⟨i0, hi0, hz0, hz1, hz2⟩ := info_parts info9
            go_wp2_with (first
                  | (at_builtin; go_loud (refine wpList_append_own _ rfl _ _ 24 rfl w.heap.size 9 i0 (.string ⟨#[]⟩) 1 16 Try.underlying24 hi0 hz0 hz1 hz2 rfl (by decide) _ _ _ rfl (HO.out.alloc _) ⟨wr.heap.size, 0, none⟩ 1 1 [.string _] rfl rfl (str_new _ _ _) (str_one _) (by unfold maxLen; omega) (by omega) (by have := HG.out.size; simp; omega) ?_))
                  | go_in)
            intro v' w8 hown8 hgr8 hnil8
            rw [strL_snoc] at hown8
            have HO8 := shade (show w8.ownsRow w.heap.size 9 1 v' (xs ++ [now]).length (strL (xs ++ [now])) from by
              rw [List.length_append]
              exact hown8)
            have HG8 := shade (grown_row (grown_same HG.out (World.grownBy_alloc wr (.cells #[.string (tx now)] 9) none)) hgr8 (fun j e => (World.ownsRow.lt HO.out j e).1))
            clear hown8 hgr8 hnil8 hi0 hz0 hz1 hz2 HO HG
            go_wp2_with fail
            go_roundw
            case rel => exact ⟨j + 1, [c], xs ++ [now], by omega, by simp <;> omega, by go_num, rfl, HX2.out, HO8.out, HG8.out⟩
            case measure => simp [intOf]; omega
          · have HX2 := shade (show xs ++ tkw (now ++ [c]) (l.drop (j + 1)) = tkw [] l from by
              rw [← HX.out, tkw_on _ _ _ (by omega) (.inr (.inr ⟨hkc, ha⟩))])
            have hn : ((tx now).toList == ([] : List UInt8)) = false := by
              rw [tx_toList]
              rcases now with _ | ⟨_, _⟩
              · exact absurd rfl hnow
              · rfl
            have hadd := fun W => HADD.out now W (by omega)
            go_wp2_with fail
            refine (isLetters_is now _ (by omega)).mono ?_
            rintro e w2 ⟨rfl, rfl⟩
            rw [ha]
            go_wp2_with fail
            go_roundw
            case rel => exact ⟨j + 1, now ++ [c], xs, by omega, by simp <;> omega, by go_num, rfl, HX2.out, HO.out, HG.out⟩
            case measure => simp [intOf]; omega
      by_cases d3 : c.toNat < 48
      · have b0 : ((c.toNat : Int) == 32) = false := by simp; omega
        have b1 : ((c.toNat : Int) == 10) = false := by simp; omega
        have hkc : kd c = 3 := by
          have h0 := kd_zero c
          have h1 := kd_one c
          have h2 := kd_two c
          have h3 := kd_le c
          omega
        have b2 : ¬ (48 : Int) ≤ c.toNat := by omega
        have b4 : ¬ (97 : Int) ≤ c.toNat := by omega
        by_cases hnow : now = []
        · subst hnow
          have hx2 := HX.out
          rw [tkw_on _ _ _ (by omega) (.inl rfl), List.nil_append] at hx2
          have HX2 := shade hx2
          have hn := tx_toList ([] : List UInt8)
          have hadd := fun W => HADD.out [] W (by simp)
          simp only [List.nil_append] at hadd
          clear hx2
          go_wp2_with fail
          go_roundw
          case rel => exact ⟨j + 1, [c], xs, by omega, by simp <;> omega, by go_num, rfl, HX2.out, HO.out, HG.out⟩
          case measure => simp [intOf]; omega
        · have HX2 := shade (show (xs ++ [now]) ++ tkw [c] (l.drop (j + 1)) = tkw [] l from by
            rw [← HX.out, tkw_new _ _ _ (by omega) hnow (fun h => by omega) (fun h => by omega)]
            simp)
          have hxl : xs.length + 1 ≤ l.length := by
            have h1 := congrArg List.length HX2.out
            simp only [List.length_append, List.length_cons, List.length_nil] at h1
            have := HL.out
            omega
          have hn : ((tx now).toList == ([] : List UInt8)) = false := by
            rw [tx_toList]
            rcases now with _ | ⟨_, _⟩
            · exact absurd rfl hnow
            · rfl
          have hadd := HADD0.out
          clear hnow
          obtain ⟨i0, hi0, hz0, hz1, hz2⟩ := info_parts info9
          go_wp2_with (first
                | (at_builtin; go_loud (refine wpList_append_own _ rfl _ _ 24 rfl w.heap.size 9 i0 (.string ⟨#[]⟩) 1 16 Try.underlying24 hi0 hz0 hz1 hz2 rfl (by decide) _ _ _ rfl (HO.out.alloc _) ⟨wr.heap.size, 0, none⟩ 1 1 [.string _] rfl rfl (str_new _ _ _) (str_one _) (by unfold maxLen; omega) (by omega) (by have := HG.out.size; simp; omega) ?_))
                | go_in)
          intro v' w8 hown8 hgr8 hnil8
          rw [strL_snoc] at hown8
          have HO8 := shade (show w8.ownsRow w.heap.size 9 1 v' (xs ++ [now]).length (strL (xs ++ [now])) from by
            rw [List.length_append]
            exact hown8)
          have HG8 := shade (grown_row (grown_same HG.out (World.grownBy_alloc wr (.cells #[.string (tx now)] 9) none)) hgr8 (fun j e => (World.ownsRow.lt HO.out j e).1))
          clear hown8 hgr8 hnil8 hi0 hz0 hz1 hz2 HO HG
          go_wp2_with fail
          go_roundw
          case rel => exact ⟨j + 1, [c], xs ++ [now], by omega, by simp <;> omega, by go_num, rfl, HX2.out, HO8.out, HG8.out⟩
          case measure => simp [intOf]; omega
      by_cases d4 : c.toNat < 97
      · have b0 : ((c.toNat : Int) == 32) = false := by simp; omega
        have b1 : ((c.toNat : Int) == 10) = false := by simp; omega
        have hkc : kd c = 3 := by
          have h0 := kd_zero c
          have h1 := kd_one c
          have h2 := kd_two c
          have h3 := kd_le c
          omega
        have b2 : (48 : Int) ≤ c.toNat := by omega
        have b3 : ¬ (c.toNat : Int) ≤ 57 := by omega
        have b4 : ¬ (97 : Int) ≤ c.toNat := by omega
        by_cases hnow : now = []
        · subst hnow
          have hx2 := HX.out
          rw [tkw_on _ _ _ (by omega) (.inl rfl), List.nil_append] at hx2
          have HX2 := shade hx2
          have hn := tx_toList ([] : List UInt8)
          have hadd := fun W => HADD.out [] W (by simp)
          simp only [List.nil_append] at hadd
          clear hx2
          go_wp2_with fail
          go_roundw
          case rel => exact ⟨j + 1, [c], xs, by omega, by simp <;> omega, by go_num, rfl, HX2.out, HO.out, HG.out⟩
          case measure => simp [intOf]; omega
        · have HX2 := shade (show (xs ++ [now]) ++ tkw [c] (l.drop (j + 1)) = tkw [] l from by
            rw [← HX.out, tkw_new _ _ _ (by omega) hnow (fun h => by omega) (fun h => by omega)]
            simp)
          have hxl : xs.length + 1 ≤ l.length := by
            have h1 := congrArg List.length HX2.out
            simp only [List.length_append, List.length_cons, List.length_nil] at h1
            have := HL.out
            omega
          have hn : ((tx now).toList == ([] : List UInt8)) = false := by
            rw [tx_toList]
            rcases now with _ | ⟨_, _⟩
            · exact absurd rfl hnow
            · rfl
          have hadd := HADD0.out
          clear hnow
          obtain ⟨i0, hi0, hz0, hz1, hz2⟩ := info_parts info9
          go_wp2_with (first
                | (at_builtin; go_loud (refine wpList_append_own _ rfl _ _ 24 rfl w.heap.size 9 i0 (.string ⟨#[]⟩) 1 16 Try.underlying24 hi0 hz0 hz1 hz2 rfl (by decide) _ _ _ rfl (HO.out.alloc _) ⟨wr.heap.size, 0, none⟩ 1 1 [.string _] rfl rfl (str_new _ _ _) (str_one _) (by unfold maxLen; omega) (by omega) (by have := HG.out.size; simp; omega) ?_))
                | go_in)
          intro v' w8 hown8 hgr8 hnil8
          rw [strL_snoc] at hown8
          have HO8 := shade (show w8.ownsRow w.heap.size 9 1 v' (xs ++ [now]).length (strL (xs ++ [now])) from by
            rw [List.length_append]
            exact hown8)
          have HG8 := shade (grown_row (grown_same HG.out (World.grownBy_alloc wr (.cells #[.string (tx now)] 9) none)) hgr8 (fun j e => (World.ownsRow.lt HO.out j e).1))
          clear hown8 hgr8 hnil8 hi0 hz0 hz1 hz2 HO HG
          go_wp2_with fail
          go_roundw
          case rel => exact ⟨j + 1, [c], xs ++ [now], by omega, by simp <;> omega, by go_num, rfl, HX2.out, HO8.out, HG8.out⟩
          case measure => simp [intOf]; omega
      · have b0 : ((c.toNat : Int) == 32) = false := by simp; omega
        have b1 : ((c.toNat : Int) == 10) = false := by simp; omega
        have hkc : kd c = 3 := by
          have h0 := kd_zero c
          have h1 := kd_one c
          have h2 := kd_two c
          have h3 := kd_le c
          omega
        have b2 : (48 : Int) ≤ c.toNat := by omega
        have b3 : ¬ (c.toNat : Int) ≤ 57 := by omega
        have b4 : (97 : Int) ≤ c.toNat := by omega
        have b5 : ¬ (c.toNat : Int) ≤ 122 := by omega
        by_cases hnow : now = []
        · subst hnow
          have hx2 := HX.out
          rw [tkw_on _ _ _ (by omega) (.inl rfl), List.nil_append] at hx2
          have HX2 := shade hx2
          have hn := tx_toList ([] : List UInt8)
          have hadd := fun W => HADD.out [] W (by simp)
          simp only [List.nil_append] at hadd
          clear hx2
          go_wp2_with fail
          go_roundw
          case rel => exact ⟨j + 1, [c], xs, by omega, by simp <;> omega, by go_num, rfl, HX2.out, HO.out, HG.out⟩
          case measure => simp [intOf]; omega
        · have HX2 := shade (show (xs ++ [now]) ++ tkw [c] (l.drop (j + 1)) = tkw [] l from by
            rw [← HX.out, tkw_new _ _ _ (by omega) hnow (fun h => by omega) (fun h => by omega)]
            simp)
          have hxl : xs.length + 1 ≤ l.length := by
            have h1 := congrArg List.length HX2.out
            simp only [List.length_append, List.length_cons, List.length_nil] at h1
            have := HL.out
            omega
          have hn : ((tx now).toList == ([] : List UInt8)) = false := by
            rw [tx_toList]
            rcases now with _ | ⟨_, _⟩
            · exact absurd rfl hnow
            · rfl
          have hadd := HADD0.out
          clear hnow
          obtain ⟨i0, hi0, hz0, hz1, hz2⟩ := info_parts info9
          go_wp2_with (first
                | (at_builtin; go_loud (refine wpList_append_own _ rfl _ _ 24 rfl w.heap.size 9 i0 (.string ⟨#[]⟩) 1 16 Try.underlying24 hi0 hz0 hz1 hz2 rfl (by decide) _ _ _ rfl (HO.out.alloc _) ⟨wr.heap.size, 0, none⟩ 1 1 [.string _] rfl rfl (str_new _ _ _) (str_one _) (by unfold maxLen; omega) (by omega) (by have := HG.out.size; simp; omega) ?_))
                | go_in)
          intro v' w8 hown8 hgr8 hnil8
          rw [strL_snoc] at hown8
          have HO8 := shade (show w8.ownsRow w.heap.size 9 1 v' (xs ++ [now]).length (strL (xs ++ [now])) from by
            rw [List.length_append]
            exact hown8)
          have HG8 := shade (grown_row (grown_same HG.out (World.grownBy_alloc wr (.cells #[.string (tx now)] 9) none)) hgr8 (fun j e => (World.ownsRow.lt HO.out j e).1))
          clear hown8 hgr8 hnil8 hi0 hz0 hz1 hz2 HO HG
          go_wp2_with fail
          go_roundw
          case rel => exact ⟨j + 1, [c], xs ++ [now], by omega, by simp <;> omega, by go_num, rfl, HX2.out, HO8.out, HG8.out⟩
          case measure => simp [intOf]; omega
    · have hx2 := HX.out
      rw [List.drop_eq_nil_of_le (by omega), tkw] at hx2
      by_cases hnow : now = []
      · subst hnow
        rw [show one? [] = [] from rfl, List.append_nil] at hx2
        subst hx2
        have hn := tx_toList ([] : List UInt8)
        go_wp2_with fail
        go_ret
        exact ⟨_, rfl, HO.out, HG.out⟩
      · rw [show one? now = [now] by simp [one?, hnow]] at hx2
        have HX2 := shade hx2
        have hxl : xs.length + 1 ≤ l.length := by
          have h1 := congrArg List.length hx2
          simp only [List.length_append, List.length_cons, List.length_nil] at h1
          have := HL.out
          omega
        have hn : ((tx now).toList == ([] : List UInt8)) = false := by
          rw [tx_toList]
          rcases now with _ | ⟨_, _⟩
          · exact absurd rfl hnow
          · rfl
        clear hx2 hnow
        obtain ⟨i0, hi0, hz0, hz1, hz2⟩ := info_parts info9
        go_wp2_with (first
              | (at_builtin; go_loud (refine wpList_append_own _ rfl _ _ 24 rfl w.heap.size 9 i0 (.string ⟨#[]⟩) 1 16 Try.underlying24 hi0 hz0 hz1 hz2 rfl (by decide) _ _ _ rfl (HO.out.alloc _) ⟨wr.heap.size, 0, none⟩ 1 1 [.string _] rfl rfl (str_new _ _ _) (str_one _) (by unfold maxLen; omega) (by omega) (by have := HG.out.size; simp; omega) ?_))
              | go_in)
        intro v' w8 hown8 hgr8 hnil8
        rw [strL_snoc] at hown8
        have HO8 := shade (show w8.ownsRow w.heap.size 9 1 v' (xs ++ [now]).length (strL (xs ++ [now])) from by
          rw [List.length_append]
          exact hown8)
        have HG8 := shade (grown_row (grown_same HG.out (World.grownBy_alloc wr (.cells #[.string (tx now)] 9) none)) hgr8 (fun j e => (World.ownsRow.lt HO.out j e).1))
        clear hown8 hgr8 hnil8 hi0 hz0 hz1 hz2 HO HG
        go_wp2_with fail
        go_ret
        refine ⟨_, rfl, ?_, HG8.out⟩
        rw [← HX2.out]
        exact HO8.out


theorem SpecTokensOf_res (l : List UInt8) (w : World) (hl : l.length ≤ 1048576) :
    Calls Try.prog 8 #[.string (tx l)] w (StrRes (wordsL l) w) := by
  have hz := tx_size l
  unfold wordsL
  by_cases h : l.length ≤ 200
  · rw [if_pos h]
    have HW := shade (tokens_res l w hl)
    go_enter Try.func8, Try.ntmps8
    go_wp2_with fail
    refine HW.out.mono ?_
    rintro e w1 ⟨v, rfl, ho, hg⟩
    have HO := shade ho
    have HG := shade hg
    clear ho hg HW
    go_wp2_with fail
    go_ret
    exact ⟨_, rfl, HO.out, HG.out⟩
  · rw [if_neg h]
    go_enter Try.func8, Try.ntmps8
    go_wp2_with fail
    go_ret
    exact StrRes.nil _

end Go.Proofs.Ytghjppijcneamaa
