/- ShareWide, by the program. -/
import Derived.Test.YtehjfnfpebdidaaDoorV41
namespace Go.Proofs.YtehjfnfpebdidaaDoor
open Go.RowKit
set_option linter.unusedSimpArgs false
set_option maxRecDepth 100000 in
set_option maxHeartbeats 16000000 in
theorem IShare_yes (A : Option Addr) (n c : Nat) (F : Nat → Wid) (w : World) (hg : WT w) (hv : vwB n F = true) (h : Wds w A n F) :
    Calls Tryd.prog 6 #[.slice A n c] w (ShRes (shS F n).1.length (fun j => (shS F n).1.getD j zWid) n (fun j => (((shS F n).2.getD j 0 : Nat) : Int)) w) := by
  obtain ⟨hok, hn⟩ := vwB_iff.1 hv
  have H := shade h
  have HWT := shade hg
  have HOK := shade hok
  have HV := shade (ValidWide_any A n c F w hg (by omega) h)
  rw [hv] at HV
  clear h hok hg hv
  obtain ⟨i0, hi0, hz0, hz1, hz2⟩ := info_parts info4w
  obtain ⟨j0, hj0, hy0, hy1, hy2⟩ := info_parts info3
  go_enter Tryd.func6, Tryd.ntmps6
  go_wp2_with fail
  refine HV.out.mono ?_
  rintro e w1 ⟨rfl, hgr⟩
  have HM := shade (show ShO w w1 F 0 (.slice none 0 0) (.slice none 0 0) from ⟨World.ownsRow_nil _ _ _ _, World.ownsRow_nil _ _ _ _, hgr⟩)
  clear hgr HV
  go_wp2_with fail
  go_loopw [4, 5, 7, 8, 14] (fun v1 v2 _ _ q wr => ∃ i : Nat, i ≤ n ∧ q = .int .i64 (i : Int) ∧ ShO w wr F i v1 v2) (fun _ _ _ _ q _ => n - (intOf q).toNat)
  case atStart => exact ⟨0, Nat.zero_le _, rfl, HM.out⟩
  case round =>
    clear HM
    obtain ⟨i, hi, rfl, hs⟩ := hrel
    obtain ⟨A4, c4, rfl, -⟩ := wds_of hs.o1
    obtain ⟨A5, c5, rfl, -⟩ := nums_of hs.o2
    have HS := shade hs
    by_cases hlt : i < n
    · have i1 : (i : Int) < (n : Int) := by omega
      have i2 : (0 : Int) ≤ (i : Int) := by omega
      obtain ⟨bb, oo, rfl, -⟩ := H.out.resolve_left (by omega)
      obtain ⟨p0, p1, p2, p3⟩ := (H.out.on hs.low).four hlt
      have hoki := HOK.out i hlt
      have HO := shade hoki
      obtain ⟨cc, hcc⟩ : ∃ cc, F i = cc := ⟨_, rfl⟩
      rw [hcc] at p0 p1 p2 p3 HO
      have HCC := shade hcc
      obtain ⟨op, a, b, k⟩ := cc
      simp only [] at p0 p1 p2 p3
      have hB := Holds5.fresh wr 43 #[.string op, .int .i64 a, .int .i64 b, .int .i64 k]
      have hga := World.grownBy_alloc wr (.cells #[.string op, .int .i64 a, .int .i64 b, .int .i64 k] 43) none
      clear hs hcc hoki
      go_upto_region 8 with (fail)
      obtain ⟨w5, hw5⟩ : ∃ w5, wr.alloc (.cells #[.string op, .int .i64 a, .int .i64 b, .int .i64 k] 43) = w5 := ⟨_, rfl⟩
      rw [hw5] at hB hga ⊢
      have HS5 := shade (HS.out.on hga)
      obtain ⟨_, _, e5, hN5⟩ := nums_of HS5.out.o2
      injection e5 with e5 _ e6
      subst e5 e6
      have HN5 := shade hN5
      have HB5 := shade hB
      have x0 := hB.look 0; have x1 := hB.look 1; have x2 := hB.look 2; have x3 := hB.look 3
      simp at x0 x1 x2 x3
      obtain ⟨g, hgg⟩ : ∃ g, wr.heap.size = g := ⟨_, rfl⟩
      have hgl := HS.out.low.size
      rw [hgg] at HB5 x0 x1 x2 x3 hgl ⊢
      have HGL := shade hgl
      have HMV := shade (moved_any op a b k i c5 (shS F i).2 _ w5 (HWT.out.below (below_of_grown HS5.out.low) (wt_lt HWT.out)) HO.out HN5.out)
      have HGA := shade hga; have HGE := shade hgg
      clear hw5 hga hB hN5 p0 p1 p2 p3 hgg hgl
      go_wp2_with fail
      refine HMV.out.mono ?_
      rintro e w6 ⟨rfl, hg6⟩
      have hgw := grown_same HGA.out hg6
      have hB6 := HB5.out.grown hg6 (by intro e; cases e)
      obtain ⟨mv, hmv⟩ : ∃ mv, mvW ⟨op, a, b, k⟩ (shS F i).2 = mv := ⟨_, rfl⟩
      rw [hmv]
      have HMV2 := shade (show mvW (F i) (shS F i).2 = mv by rw [HCC.out]; exact hmv)
      clear hmv HMV
      obtain ⟨mop, ma, mb, mk'⟩ := mv
      obtain ⟨hB7, hG7⟩ := put4 (w := wr) (by have := HGE.out; omega) hB6 hgw (.string mop) (.int .i64 ma) (.int .i64 mb) (.int .i64 mk')
      have z0 := hB6.look 0; have z1 := hB6.look 1; have z2 := hB6.look 2; have z3 := hB6.look 3
      have t0 := hB6.free 0; have t1 := hB6.free 1; have t2 := hB6.free 2; have t3 := hB6.free 3
      simp at z0 z1 z2 z3
      have HB7 := shade hB7; have HG7 := shade hG7
      clear hB6 hB7 hG7 hgw hg6 x0 x1 x2 x3 HS5 HN5 HB5 HGA
      unfold valW
      go_upto_region 9 with (fail)
      generalize World.setCell _ _ _ = w7 at *
      have x0 := HB7.out.look 0; have x1 := HB7.out.look 1; have x2 := HB7.out.look 2; have x3 := HB7.out.look 3
      simp at x0 x1 x2 x3
      have HS7 := shade (HS.out.on HG7.out)
      obtain ⟨_, _, e7, hW7⟩ := wds_of HS7.out.o1
      injection e7 with e7 _ e8
      subst e7 e8
      have HIX := shade (index_any A4 (shS F i).1.length c4 (fun j => (shS F i).1.getD j zWid) (shS F i).1 ⟨mop, ma, mb, mk'⟩ w7 rfl (by have := (shS_len F i).2; omega) (fun j hj => lst_get _ j hj) hW7)
      clear z0 z1 z2 z3 t0 t1 t2 t3 hW7
      have hl1 := (shS_len F i).2
      have hf1 := firstW_le (shS F i).1 ⟨mop, ma, mb, mk'⟩
      unfold valW at HIX
      go_wp2_with fail
      refine HIX.out.mono ?_
      rintro e w8 ⟨rfl, hg8⟩
      have HS8 := shade (HS7.out.on hg8)
      have HB8 := shade (HB7.out.grown hg8 (by intro e; cases e))
      clear hg8 HIX HS7 HB7 x0 x1 x2 x3
      have x0 := HB8.out.look 0; have x1 := HB8.out.look 1; have x2 := HB8.out.look 2; have x3 := HB8.out.look 3
      simp at x0 x1 x2 x3
      by_cases hfl : firstW (shS F i).1 ⟨mop, ma, mb, mk'⟩ < (shS F i).1.length
      · rw [if_pos hfl]
        have i3 : (0 : Int) ≤ (firstW (shS F i).1 ⟨mop, ma, mb, mk'⟩ : Int) := by omega
        have HN := fun w2 u2 p2 hg => ShO.old (w2 := w2) (u2 := u2) HS8.out (by rw [HMV2.out]; exact hfl) p2 hg
        rw [HMV2.out] at HN
        have HNX := shade HN
        clear HN
        generalize firstW (shS F i).1 ⟨mop, ma, mb, mk'⟩ = fl at *
        go_wp2_with (first
          | (at_builtin; refine wpList_append_own _ rfl _ _ 25 rfl w.heap.size 3 j0 (.int .i64 0) 1 8 Tryd.underlying25 hj0 hy0 hy1 hy2 rfl (by decide) _ _ _ rfl (World.ownsRow.alloc HS8.out.o2 _) ⟨w8.heap.size, 0, none⟩ 1 1 [.int .i64 (fl : Int)] rfl rfl (int_new _ _ _) (int_one _) (by unfold maxLen; omega) (by omega) (by have := HS8.out.low.size; simp; omega) ?_)
          | fail)
        intro v' w9 hown9 hgr9 hnil9
        have H9 := shade (HNX.out w9 v' hown9 (grown_same (World.grownBy_alloc w8 (.cells #[.int .i64 (fl : Int)] 3) _) hgr9))
        clear hown9 hgr9 hnil9 HNX
        go_wp2_with fail
        go_roundw
        case rel => exact ⟨i + 1, by omega, by go_num, H9.out⟩
        case measure => simp [intOf]; omega
      · rw [if_neg hfl]
        have hfe : firstW (shS F i).1 ⟨mop, ma, mb, mk'⟩ = (shS F i).1.length := by omega
        have HNX := shade (fun w2 w3 w4 u1 u2 p1 hg hg3 p2 hg4 => ShO.new (w2 := w2) (w3 := w3) (w4 := w4) (u1 := u1) (u2 := u2) HS8.out (by rw [HMV2.out]; exact hfe) HMV2.out p1 hg hg3 p2 hg4)
        clear hfe hfl
        go_wp2_with (first
          | (at_builtin; refine wpList_append_own _ rfl _ _ 23 rfl w.heap.size 43 i0 (.agg #[.string ⟨#[]⟩, .int .i64 0, .int .i64 0, .int .i64 0]) 4 40 Tryd.underlying23 hi0 hz0 hz1 hz2 rfl (by decide) _ _ _ rfl (World.ownsRow.alloc HS8.out.o1 _) ⟨w8.heap.size, 0, none⟩ 1 1 [.string mop, .int .i64 ma, .int .i64 mb, .int .i64 mk'] rfl rfl (cells_new4 _ _ _ _ _ _) (one_cells4 _ _ _ _) (by unfold maxLen; omega) (by omega) (by have := HS8.out.low.size; simp; omega) ?_)
          | fail)
        intro v8 w9 hown9 hgr9 hnil9
        have hq9 := grown_same (World.grownBy_alloc w8 (.cells #[.string mop, .int .i64 ma, .int .i64 mb, .int .i64 mk'] 43) _) hgr9
        have HQ9 := shade hq9
        have ho2 := kept_ty HS8.out.o1 HS8.out.o2 (by decide) hq9
        have HP9 := shade hown9; have HO2 := shade ho2
        have hsz := HS8.out.low.size
        have hsz2 := hq9.size
        obtain ⟨A8, c8, rfl, -⟩ := ownsRow_slice hown9
        clear hown9 hgr9 hnil9 hq9 ho2 x0 x1 x2 x3 HB8
        go_wp2_with (first
          | (at_builtin; refine wpList_append_own _ rfl _ _ 25 rfl w.heap.size 3 j0 (.int .i64 0) 1 8 Tryd.underlying25 hj0 hy0 hy1 hy2 rfl (by decide) _ _ _ rfl (World.ownsRow.alloc HO2.out _) ⟨w9.heap.size, 0, none⟩ 1 1 [.int .i64 ((shS F i).1.length : Int)] rfl rfl (int_new _ _ _) (int_one _) (by unfold maxLen; omega) (by omega) (by simp; omega) ?_)
          | fail)
        intro v' w10 hown10 hgr10 hnil10
        have H9 := shade (HNX.out w9 w9 w10 _ v' HP9.out HQ9.out (grown_refl _ _) hown10 (grown_same (World.grownBy_alloc w9 (.cells #[.int .i64 ((shS F i).1.length : Int)] 3) _) hgr10))
        clear hown10 hgr10 hnil10 HNX HP9 HQ9 HO2
        go_wp2_with fail
        go_roundw
        case rel => exact ⟨i + 1, by omega, by go_num, H9.out⟩
        case measure => simp [intOf]; omega
    · obtain rfl : i = n := by omega
      go_wp2_with fail
      go_ret2
      exact ⟨_, _, rfl, HS.out.o1, HS.out.o2, HS.out.low⟩
end Go.Proofs.YtehjfnfpebdidaaDoor
