/- The model's guesses by what went before, walked. -/
import Derived.Test.YtfmcmndhghfoeaaZ32
import Derived.Deep.DeepCutAuto
namespace Go.Proofs.Ytfmcmndhghfoeaa
open Go.RowKit
set_option linter.unusedSimpArgs false
theorem two_pow_le {s : Nat} (hs : s ≤ 4) : (2 ^ s : Nat) ≤ 16 := Nat.le_trans (Nat.pow_le_pow_right (by omega) hs) (by decide)
set_option maxRecDepth 100000 in
set_option maxHeartbeats 8000000 in
theorem pastGuesses_any (AJ : Option Addr) (m cj : Nat) (J : Nat → Bool) (s : Nat) (w : World) (hm : m ≤ 300) (hs : s ≤ 4) (hj : Bols w AJ m J) :
    Calls Try.prog 47 #[.slice AJ m cj, .int .i64 (s : Int)] w (BolRes m (pg s J) w) := by
  have HP := shade (power_any s hs w)
  have H := shade hj
  have hN := two_pow_le hs
  have hN0 := pow_pos2 s
  have HT := shade (fun j => tw_lt s J j)
  have HOL := shade (fun j (W : World) => old_any (tw s J j) s (J j) hs (Nat.lt_of_lt_of_le (tw_lt s J j) hN) W)
  have HCN := shade (fun j (W : World) => scount_any (tb s J j (tw s J j)) 3 (J j) (tb_rng s J j _).1 (tb_rng s J j _).2 (by omega) W)
  clear hj
  generalize hNN : (2 ^ s : Nat) = N at *
  have HNN := shade hNN
  clear hNN
  obtain ⟨i0, hi, hz0, hz1, hz2⟩ := info_parts info3
  obtain ⟨j0, hi4, hy0, hy1, hy2⟩ := info_parts info4b
  go_enter Try.func47, Try.ntmps47
  go_wp2_with fail
  refine HP.out.mono ?_
  rintro e w1 ⟨rfl, rfl⟩
  go_wp2_with (first
    | (at_make; refine wpList_make_full _ rfl _ _ 47 rfl w.heap.size 3 i0 (.int .i64 0) 1 Try.underlying47 hi hz0 hz1 .i64 .i64 N N N rfl rfl rfl rfl (by rw [hz2]; omega) (by unfold maxLen; omega) (Nat.le_refl _) ?_)
    | fail)
  intro w1 hown1 hgr1
  simp only [made_zero] at hown1
  have HO1 := shade (show Own w1 w.heap.size (some ⟨w.heap.size, 0, none⟩) N N (fun _ => 0) from hown1)
  have HG1 := shade hgr1
  clear hown1 hgr1 HP hi hz0 hz1 hz2
  obtain ⟨g, hg⟩ : ∃ g, w.heap.size = g := ⟨_, rfl⟩
  rw [hg] at HO1 ⊢
  go_wp2_with fail
  go_loopw [6] (fun i wr => ∃ k : Nat, k ≤ N ∧ i = .int .i64 (k : Int) ∧ Own wr g (some ⟨g, 0, none⟩) N N (fun j => if j < k then 1 else 0) ∧ w.grownBy wr none) (fun i _ => N - (intOf i).toNat)
  case atStart => exact ⟨0, Nat.zero_le _, rfl, HO1.out.congr (fun j _ => by rw [if_neg (by omega)]), HG1.out⟩
  case round =>
    obtain ⟨k, hk, rfl, hown, hgr⟩ := hrel
    by_cases hkn : k < N
    · have q1 := hown.nums.cell hkn
      have q2 := World.ownsRow.frozenAt hown k
      rw [Nat.zero_add] at q1
      have HO := shade hown
      have HR := shade hgr
      clear hown hgr
      have i1 : (k : Int) < (N : Int) := by omega
      go_wp2
      go_roundw
      case rel =>
        have hs := World.ownsRow.stored HO.out k (.int .i64 1)
        refine ⟨k + 1, by omega, by go_num, ?_, grown_then HR.out hs.2 (by omega)⟩
        have h1 := hs.1
        rw [numL_set N _ (fun j => if j < k + 1 then 1 else 0) k 1 (by simp) (fun j _ hne => by
          show (if j < k then _ else _) = (if j < k + 1 then _ else _)
          by_cases h : j < k
          · rw [if_pos h, if_pos (by omega)]
          · rw [if_neg h, if_neg (by omega)])] at h1
        exact h1
      case measure => simp [intOf]; omega
    · have hkn2 : k = N := by omega
      subst hkn2
      have hO := hown.congr (g := tb s J 0) (fun j hj => by rw [if_pos hj]; rfl)
      have hlt := World.ownsRow.lt hO g rfl
      have HO := shade hO
      have HR := shade hgr
      have HL := shade hlt.2
      clear hown hgr hlt hO HO1 HG1
      go_wp2_with fail
      have hM : PG w (wr.alloc (.cells #[] 4)) g k s J 0 (.slice (some ⟨wr.heap.size, 0, none⟩) 0 0) := by
        refine ⟨by rw [hg]; exact HO.out.keep (World.grownBy_alloc _ _ none) (by intro e; cases e), ⟨rfl, .inr ⟨wr.heap.size, 0, #[], rfl, HL.out, heap_alloc_new _ _, Nat.le_refl _, by unfold maxLen; omega, rfl, rfl⟩⟩, grown_same HR.out (World.grownBy_alloc _ _ none), by have := HL.out; rw [World.size_alloc]; omega, by omega⟩
      have HM := shade hM
      clear hM HO HR HL
      go_loopw [7, 8, 9] (fun y v i wx => ∃ j : Nat, j ≤ m ∧ i = .int .i64 (j : Int) ∧ y = .int .i64 (tw s J j : Int) ∧ PG w wx g k s J j v) (fun _ _ i _ => m - (intOf i).toNat)
      case atStart => exact ⟨0, Nat.zero_le _, rfl, rfl, HM.out⟩
      case round =>
        clear HM
        obtain ⟨j, hj, rfl, rfl, hP⟩ := hrel
        obtain ⟨A4, c4, rfl, -⟩ := ownsRow_slice hP.out
        have HPG := shade hP
        by_cases hlt : j < m
        · obtain ⟨b, o, rfl, -⟩ := H.out.resolve_left (by omega)
          have hc := (H.out.on hP.low).cell hlt
          have ht := HT.out j
          have ct := hP.tab.nums.cell ht
          rw [Nat.zero_add] at ct
          have f1 := World.ownsRow.frozenAt hP.tab (tw s J j)
          have HCO := shade (HCN.out j)
          have HOO := shade (HOL.out j)
          have hpg : pg s J j = decide (2 ≤ tb s J j (tw s J j)) := rfl
          have HPP := shade hpg
          have HTB := shade (show ∀ i, tb s J (j + 1) i = if i = tw s J j then stp (tb s J j (tw s J j)) (J j) 3 else tb s J j i from fun _ => rfl)
          have HTW := shade (show tw s J (j + 1) = (2 * tw s J j + (J j).toNat) % k by rw [← HNN.out]; rfl)
          clear hpg hP
          generalize tw s J j = y at *
          generalize tb s J j y = x at *
          have i1 : (j : Int) < (m : Int) := by omega
          have i2 : (0 : Int) ≤ (j : Int) := by omega
          have i3 : (y : Int) < (k : Int) := by omega
          have i4 : (0 : Int) ≤ (y : Int) := by omega
          go_wp2_with (first
            | (at_builtin; refine wpList_append_own _ rfl _ _ 23 rfl (g + 1) 4 j0 (.bool false) 1 1 Try.underlying23 hi4 hy0 hy1 hy2 rfl (by decide) _ _ _ rfl (World.ownsRow.alloc HPG.out.out _) ⟨wr.heap.size, 0, none⟩ 1 1 [.bool (decide (2 ≤ x))] rfl rfl (bool_new _ _ _) (bool_one _) (by unfold maxLen; omega) (by omega) (by have := HPG.out.big; simp; omega) ?_)
            | fail)
          intro v' w8 hown8 hgr8 hnil8
          have hle : j ≤ 300 := by omega
          have hpj : [Value.bool (decide (2 ≤ x))] = [.bool (pg s J j)] := by rw [HPP.out]
          rw [hpj, bolL_snoc] at hown8
          have ho7 := HPG.out.out
          have hga := World.grownBy_alloc wr (.cells #[.bool (decide (2 ≤ x))] 4) none
          have hA : ∀ r, (Value.slice A4 j c4).ownBlock = some r → g + 1 ≤ r := fun r e => (World.ownsRow.lt ho7 r e).1
          have hT8 : Own w8 w.heap.size (some ⟨g, 0, none⟩) k k (tb s J j) := (HPG.out.tab.keep hga (by intro e; cases e)).keep hgr8 (fun e => by have := hA g e.symm; omega)
          have hL8 : w.grownBy w8 none := grown_row (grown_same HPG.out.low hga) hgr8 (fun r e => by have := hA r e; have := HPG.out.glo; omega)
          have hB8 : g + 1 ≤ w8.heap.size := Nat.le_trans HPG.out.big (Nat.le_trans hga.size hgr8.size)
          have ct8 := hT8.nums.cell ht
          rw [Nat.zero_add] at ct8
          have hx8 : tb s J j y = x := by
            have h1 := HPG.out.tab.nums.cell ht
            rw [Nat.zero_add, ct] at h1
            injection h1 with h1
            injection h1 with _ h1
            exact h1.symm
          rw [hx8] at ct8
          have f8 := World.ownsRow.frozenAt hT8 y
          have hc8 := (H.out.on hL8).cell hlt
          have HT8 := shade hT8; have HL8 := shade hL8; have HB8 := shade hB8; have HO8 := shade hown8; have HGL := shade HPG.out.glo; have HX8 := shade hx8
          clear hgr8 hnil8 hown8 hpj ho7 hga hA hT8 hL8 hB8 HPG hc ct f1 hx8 hi4 hy0 hy1 hy2
          go_wp2_with fail
          go_region_with ((go_at_call 42; refine (HCO.out _).mono ?_; rintro e w' ⟨rfl, rfl⟩))
          all_goals
            have hP9 : PG w ((w8.setCell ⟨g, y, none⟩ (.int .i64 (stp x (J j) 3))).drew) g k s J (j + 1) v' := by
              refine ⟨?_, ?_, ?_, ?_, by omega⟩
              · have hs := (World.ownsRow.stored HT8.out y (.int .i64 (stp x (J j) 3))).1
                rw [numL_set k _ (tb s J (j + 1)) y (stp x (J j) 3) (by rw [HTB.out, if_pos rfl]) (fun i _ hne => by rw [HTB.out, if_neg hne])] at hs
                exact hs
              · refine World.ownsRow.kept HO8.out (grown_drewN (grown_set g y (.int .i64 (stp x (J j) 3))) 1) (.inr (fun e => ?_))
                have := (World.ownsRow.lt HO8.out g e).1
                omega
              · exact grown_drewN (grown_then HL8.out (grown_set g y (.int .i64 (stp x (J j) 3))) (by omega)) 1
              · have := HB8.out
                show _ ≤ (w8.setCell ⟨g, y, none⟩ (.int .i64 (stp x (J j) 3))).heap.size
                rw [World.size_setCell]
                exact this
            have hc9 : ((w8.setCell ⟨g, y, none⟩ (.int .i64 (stp x (J j) 3))).drew).cell? ⟨b, o + j, none⟩ = some (.bool (J j)) := (H.out.on hP9.low).cell hlt
            have HP9 := shade hP9
            clear hP9 HT8 HL8 HB8 HO8 f8 ct8 hc8
            generalize ((w8.setCell ⟨g, y, none⟩ (.int .i64 (stp x (J j) 3))).drew) = w9 at *
            go_wp2_with fail
            refine (HOO.out _).mono ?_
            rintro e w10 ⟨rfl, rfl⟩
            clear hc9
            go_wp2_with fail
            go_roundw
            case rel => exact ⟨j + 1, by omega, by go_num, by rw [HTW.out]; simp, HP9.out⟩
            case measure => simp [intOf]; omega
        · obtain rfl : j = m := by omega
          go_wp2_with fail
          go_ret
          refine ⟨_, rfl, ?_, HPG.out.low⟩
          have h1 := HPG.out.out
          have h2 := HPG.out.glo
          refine ⟨h1.1, ?_⟩
          rcases h1.2 with h' | ⟨g', cap', cur, e1, e2, e3⟩
          · exact .inl h'
          · exact .inr ⟨g', cap', cur, e1, by omega, e3⟩
end Go.Proofs.Ytfmcmndhghfoeaa
