/- BestTable of the program, walked. -/
import Derived.Test.YtfmcmndhghfoeaaZ22
import Derived.ChangeKeysEq
namespace Go.Proofs.Ytfmcmndhghfoeaa
open Go.RowKit Go.Shelf
theorem index_16 (f : Nat → Int) (k : Nat) (w : World) (h : k < 16) : (Instr.index T16 (.agg (a16 f)) (.int .i64 (k : Int))).run Try.prog w = .ok (.int .i64 (f k)) w := by
  have hu : Try.prog.underlying T16 = some (.array 16 3) := Try.underlying61
  have hk : 0 ≤ (k : Int) ∧ (k : Int) < ((16 : Nat) : Int) := by omega
  have hs : (Try.prog.info? 3).map (·.size) = some 1 := by kernel_rfl
  have ha := a16_at f k h
  simp [Instr.index, run_underlying hu, asIntOf, hk, go_sem]
  rw [if_pos h, ha]
  rfl
theorem sumN_grow (f : Nat → Nat) (k l : Nat) (h : k ≤ l) : sumN f k ≤ sumN f l := by
  obtain ⟨d, rfl⟩ := Nat.exists_eq_add_of_le h
  rw [sumN_split]
  omega
set_option maxRecDepth 100000 in
set_option maxHeartbeats 8000000 in
theorem IBest_in (AJ : Option Addr) (m cj : Nat) (J : Nat → Bool) (s : Nat) (w : World) (hj : Bols w AJ m J) (hm : m ≤ 300) (hs : s ≤ 4) :
    Calls Try.prog 23 #[.slice AJ m cj, .int .i64 (s : Int)] w fun e w' => e = .returned (.int .i64 (bt s J m : Int)) ∧ w.grownBy w' none := by
  have HM := shade (mayB_any AJ m cj (s : Int) w)
  rw [decide_eq_true (by omega)] at HM
  have H := shade hj
  clear hj
  go_enter Try.func23, Try.ntmps23
  go_wp2_with fail
  refine HM.out.mono ?_
  rintro e w0 ⟨rfl, rfl⟩
  go_upto_region 5 with (fail)
  change Code.wp _ _ _ _ (((w.alloc (.cells (a16 (fun _ => 0)) T16)).alloc (.cells (a16 (fun _ => 0)) T16)).alloc (.cells #[.int .i64 (s : Int), .int .i64 0] TPA))
  have h1 : Holds5 (((w.alloc (.cells (a16 (fun _ => 0)) T16)).alloc (.cells (a16 (fun _ => 0)) T16)).alloc (.cells #[.int .i64 (s : Int), .int .i64 0] TPA)) w.heap.size T16 (a16 (fun _ => 0)) := ((Holds5.fresh w T16 _).alloc _).alloc _
  have h2 : Holds5 (((w.alloc (.cells (a16 (fun _ => 0)) T16)).alloc (.cells (a16 (fun _ => 0)) T16)).alloc (.cells #[.int .i64 (s : Int), .int .i64 0] TPA)) (w.heap.size + 1) T16 (a16 (fun _ => 0)) := by
    have := (Holds5.fresh (w.alloc (.cells (a16 (fun _ => 0)) T16)) T16 (a16 (fun _ => 0))).alloc (.cells #[.int .i64 (s : Int), .int .i64 0] TPA)
    rwa [World.size_alloc] at this
  have h3 : Holds5 (((w.alloc (.cells (a16 (fun _ => 0)) T16)).alloc (.cells (a16 (fun _ => 0)) T16)).alloc (.cells #[.int .i64 (s : Int), .int .i64 0] TPA)) (w.heap.size + 1 + 1) TPA #[.int .i64 (s : Int), .int .i64 0] := by
    have := Holds5.fresh ((w.alloc (.cells (a16 (fun _ => 0)) T16)).alloc (.cells (a16 (fun _ => 0)) T16)) TPA #[.int .i64 (s : Int), .int .i64 0]
    rwa [World.size_alloc, World.size_alloc] at this
  have hB := shade (show BT w (((w.alloc (.cells (a16 (fun _ => 0)) T16)).alloc (.cells (a16 (fun _ => 0)) T16)).alloc (.cells #[.int .i64 (s : Int), .int .i64 0] TPA)) w.heap.size (w.heap.size + 1) (w.heap.size + 1 + 1) s J 0 from ⟨h1, h2, h3, below_of_grown (grown_same (grown_same (World.grownBy_alloc _ _ none) (World.grownBy_alloc _ _ none)) (World.grownBy_alloc _ _ none))⟩)
  obtain ⟨w1, hw1⟩ : ∃ w1, (((w.alloc (.cells (a16 (fun _ => 0)) T16)).alloc (.cells (a16 (fun _ => 0)) T16)).alloc (.cells #[.int .i64 (s : Int), .int .i64 0] TPA)) = w1 := ⟨_, rfl⟩
  rw [hw1] at hB ⊢
  clear hw1 h1 h2 h3
  obtain ⟨g1, hg1⟩ : ∃ g1, w.heap.size = g1 := ⟨_, rfl⟩
  obtain ⟨g2, hg2⟩ : ∃ g2, g1 + 1 = g2 := ⟨_, rfl⟩
  obtain ⟨g3, hg3⟩ : ∃ g3, g2 + 1 = g3 := ⟨_, rfl⟩
  rw [hg1, hg2, hg3] at hB ⊢
  have HL := shade (show w.heap.size ≤ g1 ∧ g1 < g2 ∧ g2 < g3 by omega)
  clear hg1 hg2 hg3
  go_wp2_with fail
  go_loopw [9, 21] (fun v i wr => ∃ j : Nat, j ≤ m ∧ i = .int .i64 (j : Int) ∧ BT w wr g1 g2 g3 s J j) (fun _ i _ => m - (intOf i).toNat)
  case atStart => exact ⟨0, Nat.zero_le _, rfl, hB.out⟩
  case round =>
    clear hB
    obtain ⟨j, hj, rfl, hB⟩ := hrel
    have HB := shade hB
    by_cases hlt : j < m
    · obtain ⟨b, o, rfl, -⟩ := (H.out.below hB.low).resolve_left (by omega)
      have hc := (H.out.below hB.low).cell hlt
      have ht := tw_16 J j hs
      have c0 : wr.cell? ⟨g3, 1, none⟩ = some (.int .i64 (tw s J j : Int)) := hB.way.look 1
      have c1 := (hB.yes.look (tw s J j)).trans (a16_at _ _ ht)
      have c2 := (hB.no.look (tw s J j)).trans (a16_at _ _ ht)
      have f1 := hB.yes.free (tw s J j)
      have f2 := hB.no.free (tw s J j)
      have n1 := yn_le s J true j (tw s J j)
      have n2 := yn_le s J false j (tw s J j)
      have i1 : (j : Int) < (m : Int) := by omega
      have i2 : (0 : Int) ≤ (j : Int) := by omega
      have i3 : (tw s J j : Int) < 16 := by omega
      have i4 : (0 : Int) ≤ (tw s J j : Int) := by omega
      have hN := fun g hg w' hb hg' => hB.next (w' := w') hs (by have := HL.out; omega) (by have := HL.out; omega) (by have := HL.out; omega) HL.out.1 (by have := HL.out; omega) (by have := HL.out; omega) g hg hb hg'
      have HL1 := shade (fun W (hW : Holds5 W g3 TPA #[.int .i64 (s : Int), .int .i64 (tw s J j : Int)]) => learn_any g3 0 (tw s J j) s (J j) hs ht TPA _ W hW rfl rfl)
      have HN := shade hN
      have HW := shade hB.way
      clear hN hB ht HB
      generalize tw s J j = y at *
      rcases hv : J j with _ | _
      · rw [hv] at hc HL1 HN
        generalize yn s J true j y = x1 at *
        generalize yn s J false j y = x2 at *
        clear hv
        have HW2 := shade (HW.out.other (p := ⟨g2, y, none⟩) (by have := HL.out; show g3 ≠ g2; omega) (.int .i64 ((x2 : Int) + 1)))
        go_wp2_with fail
        refine (HL1.out _ HW2.out).mono ?_
        rintro e w2 ⟨rfl, hb2, hg2⟩
        have HB2 := shade (HN.out g2 rfl w2 hb2 hg2)
        clear hb2 hg2
        go_wp2_with fail
        go_roundw
        case rel => exact ⟨j + 1, by omega, by go_num, HB2.out⟩
        case measure => simp [intOf]; omega
      · rw [hv] at hc HL1 HN
        generalize yn s J true j y = x1 at *
        generalize yn s J false j y = x2 at *
        clear hv
        have HW2 := shade (HW.out.other (p := ⟨g1, y, none⟩) (by have := HL.out; show g3 ≠ g1; omega) (.int .i64 ((x1 : Int) + 1)))
        go_wp2_with fail
        refine (HL1.out _ HW2.out).mono ?_
        rintro e w2 ⟨rfl, hb2, hg2⟩
        have HB2 := shade (HN.out g1 rfl w2 hb2 hg2)
        clear hb2 hg2
        go_wp2_with fail
        go_roundw
        case rel => exact ⟨j + 1, by omega, by go_num, HB2.out⟩
        case measure => simp [intOf]; omega
    · obtain rfl : j = m := by omega
      clear hB
      go_wp2_with (first
        | (refine wpList_load_row rfl _ _ rfl g1 rfl T16 _ (0, 0) _ HB.out.yes Try.underlying61 rfl info_16 ?_)
        | fail)
      go_loopw [10, 11, 12, 42] (fun v _ _ i wx => ∃ k : Nat, k ≤ 16 ∧ i = .int .i64 (k : Int) ∧ v = .int .i64 (sumN (fun i => min (yn s J true j i) (yn s J false j i)) k : Int) ∧ wx = wr) (fun _ _ _ i _ => 16 - (intOf i).toNat)
      case atStart => exact ⟨0, Nat.zero_le _, rfl, rfl, rfl⟩
      case round =>
        obtain ⟨k, hk, rfl, rfl, rfl⟩ := hrel
        by_cases hk2 : k < 16
        · have i1 : (k : Int) < 16 := by omega
          have i2 : (0 : Int) ≤ (k : Int) := by omega
          have hx : (Instr.index T16 (.agg (a16 (fun i => (yn s J true j i : Int)))) (.int .i64 (k : Int))).run Try.prog wr = .ok (.int .i64 (yn s J true j k : Int)) wr := index_16 _ k wr hk2
          have c2 : wr.cell? ⟨g2, k, none⟩ = some (.int .i64 (yn s J false j k : Int)) := (HB.out.no.look k).trans (a16_at _ k hk2)
          have f2 := HB.out.no.free k
          have hb1 := bt_16 s J j hs
          have hb2 := bt_le s J j
          have hb3 := sumN_grow (fun i => min (yn s J true j i) (yn s J false j i)) (k + 1) 16 (by omega)
          have hsum : sumN (fun i => min (yn s J true j i) (yn s J false j i)) (k + 1) = sumN (fun i => min (yn s J true j i) (yn s J false j i)) k + min (yn s J true j k) (yn s J false j k) := rfl
          have hb4 : sumN (fun i => min (yn s J true j i) (yn s J false j i)) k + min (yn s J true j k) (yn s J false j k) ≤ 300 := by omega
          have HS := shade hsum
          clear hb1 hb2 hb3 hsum
          generalize yn s J true j k = x1 at *
          generalize yn s J false j k = x2 at *
          generalize sumN (fun i => min (yn s J true j i) (yn s J false j i)) k = z at *
          rcases (show x1 < x2 ∨ x1 = x2 ∨ x2 < x1 by omega) with h | h | h
          · have e1 : min x1 x2 = x1 := by omega
            rw [e1] at hb4 HS
            have i3 : (x1 : Int) < (x2 : Int) := by omega
            have i4 : min (x1 : Int) (x2 : Int) = (x1 : Int) := by omega
            go_wp2_with fail
            all_goals (first | (exfalso; omega) | skip)
            all_goals
              go_roundw
              case rel => exact ⟨k + 1, by omega, by go_num, by rw [HS.out]; go_num, by trivial⟩
              case measure => simp [intOf]; omega
          · subst h
            have e1 : min x1 x1 = x1 := by omega
            rw [e1] at hb4 HS
            go_wp2_with fail
            all_goals (first | (exfalso; omega) | skip)
            all_goals
              go_roundw
              case rel => exact ⟨k + 1, by omega, by go_num, by rw [HS.out]; go_num, by trivial⟩
              case measure => simp [intOf]; omega
          · have e1 : min x1 x2 = x2 := by omega
            rw [e1] at hb4 HS
            have i3 : (x2 : Int) < (x1 : Int) := by omega
            have i4 : min (x1 : Int) (x2 : Int) = (x2 : Int) := by omega
            go_wp2_with fail
            all_goals (first | (exfalso; omega) | skip)
            all_goals
              go_roundw
              case rel => exact ⟨k + 1, by omega, by go_num, by rw [HS.out]; go_num, by trivial⟩
              case measure => simp [intOf]; omega
        · obtain rfl : k = 16 := by omega
          have hb1 := bt_16 s J j hs
          rw [hb1]
          go_wp2_with fail
          go_ret
          exact ⟨rfl, grown_of_below HB.out.low⟩
theorem IBestTable_any (AJ : Option Addr) (m cj : Nat) (J : Nat → Bool) (s : Int) (w : World) (hj : Bols w AJ m J) :
    Calls Try.prog 23 #[.slice AJ m cj, .int .i64 s] w fun e w' => e = .returned (.int .i64 (bestV J m s)) ∧ w.grownBy w' none := by
  by_cases h : m ≤ 300 ∧ 0 ≤ s ∧ s ≤ 4
  · have hv : bestV J m s = (bt s.toNat J m : Int) := if_pos h
    rw [hv]
    obtain ⟨k, rfl⟩ := Int.eq_ofNat_of_zero_le h.2.1
    exact IBest_in AJ m cj J k w hj h.1 (by omega)
  · have hv : bestV J m s = -1 := if_neg h
    rw [hv]
    have HM := shade (mayB_any AJ m cj s w)
    rw [decide_eq_false h] at HM
    clear hj hv h
    go_enter Try.func23, Try.ntmps23
    go_wp2_with fail
    refine HM.out.mono ?_
    rintro e w0 ⟨rfl, rfl⟩
    go_wp2_with fail
    go_ret
    exact ⟨rfl, grown_refl _ _⟩
end Go.Proofs.Ytfmcmndhghfoeaa
