/- ReadInstr of the program. -/
import Derived.Test.YtjbbmnmbcdohiaaDoorW318
import Derived.Deep.RegionHeld3
import Derived.Deep.CutBlock
import Derived.Deep.DeepCutAuto
import Derived.Outline
namespace Go.Proofs.YtjbbmnmbcdohiaaDoor
open Go.RowKit
set_option linter.unusedSimpArgs false
set_option maxRecDepth 100000 in
set_option maxHeartbeats 4000000 in
theorem ReadInstr_is (s : List UInt8) (w : World) (hl : s.length ≤ 1048576) (hy : LY w) : Calls Tryd.prog 12 #[.string (tx s)] w (RI s w) := by
  obtain ⟨p0, ps, hp⟩ : ∃ p0 ps, splitC 32 s = p0 :: ps := List.exists_cons_of_ne_nil (splitC_ne 32 s)
  have HY := shade hy
  have HS := shade (fun W hW => split_is s W hW hl)
  have HPL := shade (fun (p : List UInt8) (hpp : p ∈ p0 :: ps) => piece_le hp hpp hl)
  rw [hp] at HS
  have HH := shade hp
  obtain ⟨N, hN⟩ : ∃ N, ps.length = N := ⟨_, rfl⟩
  have hlen : (p0 :: ps).length = N + 1 := by rw [List.length_cons, hN]
  have HLEN := shade hN
  clear hp hy
  have HZ := World.grownBy_alloc w (.cells #[.string ⟨#[]⟩, .int .i64 0, .int .i64 0, .int .i64 0, .int .i64 0] 24) none
  have HY0 := shade (HY.out.on HZ)
  go_enter Tryd.func12, Tryd.ntmps12
  go_wp2_with fail
  refine (HS.out _ HY0.out.max).mono ?_
  rintro e w1 ⟨rfl, hw⟩
  rw [hlen]
  have q0 := pcs_look (w.alloc (.cells #[.string ⟨#[]⟩, .int .i64 0, .int .i64 0, .int .i64 0, .int .i64 0] 24)) (p0 :: ps) 0 (by simp)
  have qs := fun (j : Nat) (hj : j < ps.length) => pcs_look (w.alloc (.cells #[.string ⟨#[]⟩, .int .i64 0, .int .i64 0, .int .i64 0, .int .i64 0] 24)) (p0 :: ps) (j + 1) (by simp; omega)
  have hg1 := World.grownBy_alloc (w.alloc (.cells #[.string ⟨#[]⟩, .int .i64 0, .int .i64 0, .int .i64 0, .int .i64 0] 24)) (.cells (pcs (p0 :: ps)) 9) none
  rw [hw] at q0 qs hg1
  simp only [List.getElem_cons_zero, List.getElem_cons_succ, World.size_alloc] at q0 qs
  have HQ := shade qs
  have HY1 := shade (HY0.out.on hg1)
  have HT := shade (fun op d a b k => RT.start op d a b k hg1)
  have HR1 := shade (RS.start hg1)
  clear qs hw hg1 HZ HS
  go_wp2_with fail
  refine (wordOf_any (tx p0) _ HY1.out.wt).mono ?_
  rintro e w2 ⟨rfl, rfl⟩
  rw [tx_toList]
  by_cases hw0 : wordN p0 < 0
  · have HNO := shade (no_word HH.out hw0)
    obtain ⟨x, hx⟩ : ∃ x, wordN p0 = x := ⟨_, rfl⟩
    rw [hx] at hw0 ⊢
    obtain ⟨y0, y1, y2, y3, y4⟩ := HR1.out.res5
    have f0 := HR1.out.res.free 0; have f1 := HR1.out.res.free 1; have f2 := HR1.out.res.free 2; have f3 := HR1.out.res.free 3; have f4 := HR1.out.res.free 4
    clear hx
    go_wp2_with fail
    have hP := HR1.out.finBox0
    have z0 := hP.look 0; have z1 := hP.look 1; have z2 := hP.look 2; have z3 := hP.look 3; have z4 := hP.look 4
    simp at z0 z1 z2 z3 z4
    refine bodyPost_ret (v := .tuple #[IV ⟨#[]⟩ 0 0 0 0, .bool false]) (by simp [results, Tryd.results12, go_sem, z0, z1, z2, z3, z4]) rfl ?_
    exact ⟨_, _, _, _, _, _, rfl, RIv.none HNO.out, HR1.out.finLow0⟩
  obtain ⟨n, hn⟩ := Int.eq_ofNat_of_zero_le (show 0 ≤ wordN p0 by omega)
  have hn10 : n < 10 := by
    have := (wordN_range p0).2
    omega
  have hop : tx p0 = wT n := op_is (tx p0) n hn10 (by rw [tx_toList]; exact hn)
  have HOP := shade hop
  have HWN := shade hn
  have hnl := names_len n
  have hsN : namesN n = tx (namesN n).data.toList := rfl
  obtain ⟨L, hL⟩ : ∃ L, (namesN n).data.toList = L := ⟨_, rfl⟩
  rw [hL] at hnl hsN
  have HLL := shade hL
  have HSN := shade hsN
  have hlz := tx_size L
  rw [hn]
  have i0 : ¬ (n : Int) < 0 := by omega
  have i1 : (0 : Int) ≤ (n : Int) := by omega
  have i2 : (n : Int) < 10 := by omega
  have c0 := wtCell HY1.out.wt n hn10
  clear hw0 hn hop hL hsN
  go_wp2_with fail
  refine (partsOf_any n hn10 _).mono ?_
  rintro e w2 ⟨rfl, rfl⟩
  rw [HSN.out]
  by_cases hNL : N = L.length
  · subst hNL
    have e0 : ((L.length : Int) + 1 != (L.length : Int) + 1) = false := by simp
    go_wp2_with fail
    have hb1 : w.heap.size + 1 < w1.heap.size := World.block_lt_of_cell? w1 _ q0
    have HRL := shade (show RL s ps n w _ w1.heap.size 0 0 0 0 0 from ⟨HT.out (wT n) 0 0 0 0, HY.out, fun i hi => (World.cell?_alloc_lt w1 _ _ hb1).trans (HQ.out i hi), hb1, Agree.zero _ _⟩)
    clear hb1
    generalize hRR : w1.heap.size = R at *
    go_loopw [35] (fun i wr => ∃ (j : Nat) (d a b k : Int), j ≤ L.length ∧ i = .int .i64 j ∧ RL s ps n w wr R j d a b k) (fun i _ => L.length - (intOf i).toNat)
    case atStart => exact ⟨0, 0, 0, 0, 0, Nat.zero_le _, rfl, HRL.out⟩
    case round =>
      obtain ⟨j, d, a, b, k, hj, rfl, hL⟩ := hrel
      have HR := shade hL
      clear hL HRL HT HQ HR1 HY1 HY0 HY q0 c0
      have hns : (namesN n).data.toList.length = ps.length := by rw [HLL.out, HLEN.out]
      by_cases hjn : j < L.length
      · have i3 : (0 : Int) ≤ (j : Int) := by omega
        have i4 : (j : Int) < (L.length : Int) := by omega
        have i5 : (0 : Int) ≤ (j : Int) + 1 := by omega
        have i6 : (j : Int) + 1 < (L.length : Int) + 1 := by omega
        have hjp : j < ps.length := by omega
        have hjq : j < (namesN n).data.toList.length := by omega
        have q1 := HR.out.fld j hjp
        have hq1 := HPL.out ps[j] (List.mem_cons_of_mem _ (List.getElem_mem hjp))
        have hq2 := trim_le ps[j]
        have HNX := shade (fun (v : Int) (ch : UInt8) (hv : ∀ m, m < 256 → Lib.trimPrefix ps[j] [114] = nm m → v = m) (hch : (namesN n).data.toList[j] = ch) => Agree.next HR.out.ag HH.out HWN.out hjp hjq hv hch)
        have HNP := shade (fun (hv : ∀ m, m < 256 → Lib.trimPrefix ps[j] [114] ≠ nm m) => no_part HH.out HWN.out hjp hjq hv)
        have hch : (namesN n).data.toList[j] = L[j] := by simp only [HLL.out]
        have hgt := tx_get L j (by rw [hlz]; exact hjn) hjn
        obtain ⟨ch, hce⟩ : ∃ ch, L[j] = ch := ⟨_, rfl⟩
        rw [hce] at hch hgt
        have HCH := shade hch
        obtain ⟨q, hq⟩ : ∃ q, ps[j] = q := ⟨_, rfl⟩
        rw [hq] at q1 hq1 hq2 HNX HNP
        have HQ1 := shade (Nat.le_trans hq2 hq1)
        clear hce hq hch hq1 hq2
        go_wp2_with (first
          | (go_at_call 39; refine (trim_is q _).mono ?_; rintro e w2 ⟨rfl, rfl⟩))
        refine (atoi_is _ _ HR.out.laid.err HQ1.out).mono ?_
        rintro e w3 ⟨v, er, rfl, hg3, hres⟩
        have HA := shade (HR.out.on hg3)
        have HRS := shade hres
        have hZ := HA.out.rt.rs.res5
        obtain ⟨y0, y1, y2, y3, y4⟩ := HA.out.rt.rs.res5
        have f0 := HA.out.rt.res.free 0; have f1 := HA.out.rt.res.free 1; have f2 := HA.out.rt.res.free 2; have f3 := HA.out.rt.res.free 3; have f4 := HA.out.rt.res.free 4
        clear hres hg3 HR q1
        rcases HRS.out with ⟨rfl, hok⟩ | ⟨⟨M, rfl⟩, hno⟩
        · have HOK := shade hok
          clear hok y0 y1 y2 y3 y4 f0 f1 f2 f3 f4
          obtain ⟨b0, b1, b2, b3, b4⟩ := HA.out.rt.box5
          go_wp2_with fail
          go_region_with (first
            | (go_at_call 40; refine (withPart_any (wT n) d a b k ch.toNat v _).mono ?_; rintro e w4 ⟨rfl, o1, o2, hw4⟩; have HB := shade (HA.out.on (show w3.grownBy w4 none from by rw [← hw4]; first | exact grown_same (World.grownBy_alloc _ _ _) (World.grownBy_alloc _ _ _) | exact grown_same (grown_drew1 _) (grown_same (World.grownBy_alloc _ _ _) (World.grownBy_alloc _ _ _)))); clear hw4; have g0 := HB.out.rt.box.free 0; have g1 := HB.out.rt.box.free 1; have g2 := HB.out.rt.box.free 2; have g3 := HB.out.rt.box.free 3; have g4 := HB.out.rt.box.free 4; obtain ⟨d0, d1, d2, d3, d4⟩ := HB.out.rt.box5))
          all_goals
            have HZ := shade (HB.out.put _ _ _ _ (HNX.out v ch (fun m hm e => by have h1 := nm_atoi m hm; rw [← e, HOK.out] at h1; injection h1) HCH.out))
            go_wp2_with fail
            go_roundw
            case rel => first | exact ⟨j + 1, _, _, _, _, by omega, by go_num, HZ.out⟩ | ((repeat apply Exists.intro); exact ⟨⟨j + 1, _, _, _, _, by omega, by go_num, HZ.out⟩, rfl⟩)
            case measure => simp [intOf]; omega
        · have HNO := shade (HNP.out (fun m hm e => hno m (by rw [e]; exact nm_atoi m hm)))
          clear hno
          go_wp2_with fail
          have hP := HA.out.rt.rs.finBox0
          have z0 := hP.look 0; have z1 := hP.look 1; have z2 := hP.look 2; have z3 := hP.look 3; have z4 := hP.look 4
          simp at z0 z1 z2 z3 z4
          refine bodyPost_ret (v := .tuple #[IV ⟨#[]⟩ 0 0 0 0, .bool false]) (by simp [results, Tryd.results12, go_sem, z0, z1, z2, z3, z4]) rfl ?_
          exact ⟨_, _, _, _, _, _, rfl, RIv.none HNO.out, HA.out.rt.rs.finLow0⟩
      · obtain rfl : j = L.length := by omega
        have hA := HR.out.ag
        rw [← HLL.out] at hA
        have HNA := shade (fun h => Agree.no hA HH.out HWN.out (show (wT n).toList = p0 from by rw [← HOP.out, tx_toList]) h)
        clear hA
        obtain ⟨b0, b1, b2, b3, b4⟩ := HR.out.rt.box5
        have HW1 := shade HR.out.laid
        have HW2 := shade (HR.out.on (grown_drew1 _)).laid
        have HVL := shade (fun (h : showL (wT n).toList d a b k = s) => shown_valid h (by
          intro e
          have h1 := HH.out
          rw [e] at h1
          have h2 := HWN.out
          rw [← (List.cons.inj h1).1] at h2
          revert h2
          simp only [show wordN [] = -1 from by decide]
          omega))
        obtain ⟨X, hX⟩ : ∃ X, showL (wT n).toList d a b k = X := ⟨_, rfl⟩
        have HX := shade hX
        rw [hX] at HNA HVL
        by_cases he : X = s
        · have hc1 : ((tx X).toList == (tx s).toList) = true := by rw [he]; simp
          have hc2 : ((tx X).toList != (tx s).toList) = false := by rw [he]; simp
          have HE := shade he
          clear he hX
          go_wp2_with fail
          go_wp2_with fail
          refine (ShowInstr_any (wT n) d a b k _ HW1.out.wt HW1.out.pow).mono ?_
          rintro e w5 ⟨rfl, hg5⟩
          rw [HX.out]
          have HB := shade (HR.out.on hg5)
          clear hg5 b0 b1 b2 b3 b4
          obtain ⟨y0, y1, y2, y3, y4⟩ := HB.out.rt.res5
          have f0 := HB.out.rt.res.free 0; have f1 := HB.out.rt.res.free 1; have f2 := HB.out.rt.res.free 2; have f3 := HB.out.rt.res.free 3; have f4 := HB.out.rt.res.free 4
          obtain ⟨d0, d1, d2, d3, d4⟩ := HB.out.rt.box5
          go_wp2_with fail
          have hP := HB.out.rt.finBox
          have z0 := hP.look 0; have z1 := hP.look 1; have z2 := hP.look 2; have z3 := hP.look 3; have z4 := hP.look 4
          simp at z0 z1 z2 z3 z4
          refine bodyPost_ret (v := .tuple #[IV (wT n) d a b k, .bool true]) (by simp [results, Tryd.results12, go_sem, z0, z1, z2, z3, z4]) rfl ?_
          exact ⟨_, _, _, _, _, _, rfl, RIv.some (HVL.out HE.out) (HX.out.trans HE.out), HB.out.rt.finLow⟩
        · have hc1 : ((tx X).toList == (tx s).toList) = false := by rw [tx_toList, tx_toList]; simpa using he
          have hc2 : ((tx X).toList != (tx s).toList) = true := by rw [tx_toList, tx_toList]; simpa using he
          have HE := shade (HNA.out (fun h => he h.2))
          clear he hX
          go_wp2_with fail
          refine (ShowInstr_any (wT n) d a b k _ HW1.out.wt HW1.out.pow).mono ?_
          rintro e w5 ⟨rfl, hg5⟩
          rw [HX.out]
          have HB := shade (HR.out.on hg5)
          clear hg5 b0 b1 b2 b3 b4
          obtain ⟨y0, y1, y2, y3, y4⟩ := HB.out.rt.res5
          have f0 := HB.out.rt.res.free 0; have f1 := HB.out.rt.res.free 1; have f2 := HB.out.rt.res.free 2; have f3 := HB.out.rt.res.free 3; have f4 := HB.out.rt.res.free 4
          obtain ⟨d0, d1, d2, d3, d4⟩ := HB.out.rt.box5
          go_wp2_with fail
          have hP := HB.out.rt.rs.finBox0
          have z0 := hP.look 0; have z1 := hP.look 1; have z2 := hP.look 2; have z3 := hP.look 3; have z4 := hP.look 4
          simp at z0 z1 z2 z3 z4
          refine bodyPost_ret (v := .tuple #[IV ⟨#[]⟩ 0 0 0 0, .bool false]) (by simp [results, Tryd.results12, go_sem, z0, z1, z2, z3, z4]) rfl ?_
          exact ⟨_, _, _, _, _, _, rfl, RIv.none HE.out, HB.out.rt.rs.finLow0⟩
  · have HNO := shade (no_len (n := n) HH.out HWN.out (fun e => hNL (by rw [← HLEN.out, e, Lib.size_eq, HLL.out])))
    have e0 : ((N : Int) + 1 != (L.length : Int) + 1) = true := by simp; omega
    have e1 : ((N : Int) == (L.length : Int)) = false := by simp; omega
    obtain ⟨y0, y1, y2, y3, y4⟩ := HR1.out.res5
    have f0 := HR1.out.res.free 0; have f1 := HR1.out.res.free 1; have f2 := HR1.out.res.free 2; have f3 := HR1.out.res.free 3; have f4 := HR1.out.res.free 4
    go_wp2_with fail
    have hP := HR1.out.finBox0
    have z0 := hP.look 0; have z1 := hP.look 1; have z2 := hP.look 2; have z3 := hP.look 3; have z4 := hP.look 4
    simp at z0 z1 z2 z3 z4
    refine bodyPost_ret (v := .tuple #[IV ⟨#[]⟩ 0 0 0 0, .bool false]) (by simp [results, Tryd.results12, go_sem, z0, z1, z2, z3, z4]) rfl ?_
    exact ⟨_, _, _, _, _, _, rfl, RIv.none HNO.out, HR1.out.finLow0⟩
end Go.Proofs.YtjbbmnmbcdohiaaDoor
