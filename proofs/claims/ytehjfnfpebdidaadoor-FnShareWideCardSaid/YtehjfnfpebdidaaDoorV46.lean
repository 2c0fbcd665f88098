/- What is shared, by the model. -/
import Derived.Test.YtehjfnfpebdidaaDoorV42
import Derived.BigQuiet
import Derived.Deep.QuietTactic
import Derived.Deep.RegionHeld3
namespace Go.Proofs.YtehjfnfpebdidaaDoor
open Go.RowKit
set_option linter.unusedSimpArgs false
theorem word1 (l : List UInt8) : (l == [97, 100, 100]) = true ↔ wordN l = 1 := by
  rw [beq_iff_eq]
  constructor
  · rintro rfl
    rfl
  · intro h
    rcases word_is l 1 (by omega) h with h | h | h | h | h | h | h | h | h | h <;> first | exact absurd h.1 (by omega) | exact (beq_iff_eq.1 h.2).symm
theorem word3 (l : List UInt8) : (l == [109, 117, 108]) = true ↔ wordN l = 3 := by
  rw [beq_iff_eq]
  constructor
  · rintro rfl
    rfl
  · intro h
    rcases word_is l 3 (by omega) h with h | h | h | h | h | h | h | h | h | h <;> first | exact absurd h.1 (by omega) | exact (beq_iff_eq.1 h.2).symm
set_option maxRecDepth 100000 in
set_option maxHeartbeats 16000000 in
theorem SShare_yes (A : Option Addr) (n c : Nat) (F : Nat → Wid) (w : World) (hv : vwB n F = true) (h : Wds w A n F) :
    Calls Tryd.prog 25 #[.slice A n c] w (ShRes (shS F n).1.length (fun j => (shS F n).1.getD j zWid) n (fun j => (((shS F n).2.getD j 0 : Nat) : Int)) w) := by
  obtain ⟨hok, hn⟩ := vwB_iff.1 hv
  have H := shade h
  have HOK := shade hok
  clear h hok hv
  obtain ⟨i0, hi0, hz0, hz1, hz2⟩ := info_parts info4w
  obtain ⟨j0, hj0, hy0, hy1, hy2⟩ := info_parts info3
  have HM := shade (show ShO w ((w.alloc (.cells #[] 43)).alloc (.cells #[] 3)) F 0 (.slice (some ⟨w.heap.size, 0, none⟩) 0 0) (.slice (some ⟨w.heap.size + 1, 0, none⟩) 0 0) from by
    have w1 := World.ownsRow_lit (base := w.heap.size) (e := 43) (size := 4) w #[] 0 (by omega) (by decide) rfl
    have w2 := World.ownsRow_lit (base := w.heap.size) (e := 3) (size := 1) (w.alloc (.cells #[] 43)) #[] 0 (by simp) (by decide) rfl
    rw [World.size_alloc] at w2
    exact ⟨ownsRow_on w1 (World.grownBy_alloc _ _ none), w2, grown_same (World.grownBy_alloc _ _ none) (World.grownBy_alloc _ _ none)⟩)
  go_enter Tryd.func25, Tryd.ntmps25
  go_wp2_with fail
  go_loopw [4, 5, 6, 7, 8] (fun v1 v2 q _ _ wr => ∃ i : Nat, i ≤ n ∧ q = .int .i64 (i : Int) ∧ ShO w wr F i v1 v2) (fun _ _ q _ _ _ => n - (intOf q).toNat)
  case atStart => exact ⟨0, Nat.zero_le _, rfl, HM.out⟩
  case round =>
    clear HM
    obtain ⟨i, hi, rfl, hs⟩ := hrel
    obtain ⟨A4, c4, rfl, -⟩ := wds_of hs.o1
    obtain ⟨A5, c5, rfl, -⟩ := nums_of hs.o2
    have HS := shade hs
    by_cases hlt : i < n
    · have i1 : (i : Int) < (n : Int) := by omega
      have i2 : (0 : Int) ≤ (i : Int) := by omega
      obtain ⟨bb, oo, rfl, -⟩ := H.out.resolve_left (by omega)
      obtain ⟨p0, p1, p2, p3⟩ := (H.out.on hs.low).four hlt
      have hoki := HOK.out i hlt
      obtain ⟨cc, hcc⟩ : ∃ cc, F i = cc := ⟨_, rfl⟩
      rw [hcc] at p0 p1 p2 p3 hoki
      have HCC := shade hcc
      obtain ⟨op, a, b, k⟩ := cc
      simp only [] at p0 p1 p2 p3
      have hB := Holds5.fresh wr 43 #[.string op, .int .i64 a, .int .i64 b, .int .i64 k]
      have hga := World.grownBy_alloc wr (.cells #[.string op, .int .i64 a, .int .i64 b, .int .i64 k] 43) none
      have hot := (okW_told op a b k i).symm.trans hoki
      rw [decide_eq_true_iff] at hot
      clear hs hcc hoki
      go_upto_region 7 with (fail)
      obtain ⟨w5, hw5⟩ : ∃ w5, wr.alloc (.cells #[.string op, .int .i64 a, .int .i64 b, .int .i64 k] 43) = w5 := ⟨_, rfl⟩
      rw [hw5] at hB hga ⊢
      have HS5 := shade (HS.out.on hga)
      obtain ⟨_, _, e5, hN5⟩ := nums_of HS5.out.o2
      injection e5 with e5 _ e6
      subst e5 e6
      have HN5 := shade hN5
      have HB5 := shade hB
      obtain ⟨g, hgg⟩ : ∃ g, wr.heap.size = g := ⟨_, rfl⟩
      have hgl := HS.out.low.size
      rw [hgg] at HB5 hgl ⊢
      have HGL := shade hgl
      have HGE := shade hgg
      have HGA := shade hga
      clear hw5 hga hB hN5 hgg hgl p0 p1 p2 p3
      have x0 := HB5.out.look 0; have x1 := HB5.out.look 1; have x2 := HB5.out.look 2; have x3 := HB5.out.look 3
      simp at x0 x1 x2 x3
      by_cases hw0 : wordN op.toList = 0
      · have e0 : (op.toList == [115, 101, 116]) = true := (word0 _).2 hw0
        have e1 : (op.toList == [97, 100, 100]) = false := by rw [Bool.eq_false_iff]; exact fun h => by have := (word1 _).1 h; omega
        have e3 : (op.toList == [109, 117, 108]) = false := by rw [Bool.eq_false_iff]; exact fun h => by have := (word3 _).1 h; omega
        go_upto_region 12 with (fail)
        have HMV2 := shade (show mvW (F i) (shS F i).2 = ⟨op, a, b, k⟩ by rw [HCC.out]; exact if_pos hw0)
        have HG7 := shade HGA.out
        have HB7 := shade HB5.out
        clear x0 x1 x2 x3 HS5 HN5 HB5 HGA e0 e1 e3 hot hw0
        generalize w5 = w7 at *
        have HS7 := shade (HS.out.on HG7.out)
        obtain ⟨xop, hxop⟩ : ∃ x, x = op := ⟨_, rfl⟩
        obtain ⟨xa, hxa⟩ : ∃ x : Int, x = a := ⟨_, rfl⟩
        obtain ⟨xb, hxb⟩ : ∃ x : Int, x = b := ⟨_, rfl⟩
        obtain ⟨xk, hxk⟩ : ∃ x : Int, x = k := ⟨_, rfl⟩
        rw [← hxop, ← hxa, ← hxb, ← hxk] at HMV2
        have HB7' : Hid (Holds5 w7 g 43 #[.string xop, .int .i64 xa, .int .i64 xb, .int .i64 xk]) := shade (by rw [hxop, hxa, hxb, hxk]; exact HB7.out)
        have hl1 := (shS_len F i).2
        clear HB7 hxop hxa hxb hxk HS
        go_wp2_with fail
        go_loopw [8] (fun q wx => ∃ kk : Nat, kk ≤ firstW (shS F i).1 ⟨xop, xa, xb, xk⟩ ∧ q = .int .i64 (kk : Int) ∧ Holds5 wx g 43 #[.string xop, .int .i64 xa, .int .i64 xb, .int .i64 xk] ∧ ShO w wx F i (.slice A4 (shS F i).1.length c4) (.slice _ i c5)) (fun q _ => (shS F i).1.length + 1 - (intOf q).toNat)
        case atStart => exact ⟨0, Nat.zero_le _, rfl, HB7'.out, HS7.out⟩
        case round =>
          clear HS7 HB7'
          obtain ⟨kk, hkk, rfl, hb, hsx⟩ := hrel
          have HBx := shade hb; have HSx := shade hsx
          obtain ⟨_, _, e7, hW7⟩ := wds_of hsx.o1
          injection e7 with e7 _ e8
          subst e7 e8
          have hf1 := firstW_le (shS F i).1 ⟨xop, xa, xb, xk⟩
          clear hb hsx
          have x0 := HBx.out.look 0; have x1 := HBx.out.look 1; have x2 := HBx.out.look 2; have x3 := HBx.out.look 3
          simp at x0 x1 x2 x3
          by_cases hkl : kk < (shS F i).1.length
          · obtain ⟨sb, so, rfl, -⟩ := hW7.resolve_left (by omega)
            obtain ⟨p0, p1, p2, p3⟩ := hW7.four hkl
            have hfe := lst_get (shS F i).1 kk hkl
            clear hW7
            generalize (shS F i).1.getD kk zWid = d at *
            obtain ⟨dop, da, db, dk⟩ := d
            simp only [] at p0 p1 p2 p3
            have HFE := shade hfe
            clear hfe
            have j1 : (kk : Int) < ((shS F i).1.length : Int) := by omega
            have j2 : (0 : Int) ≤ (kk : Int) := by omega
            have hcase : (dop ≠ xop) ∨ (dop = xop ∧ da ≠ xa) ∨ (dop = xop ∧ da = xa ∧ db ≠ xb) ∨ (dop = xop ∧ da = xa ∧ db = xb ∧ dk ≠ xk) ∨ (dop = xop ∧ da = xa ∧ db = xb ∧ dk = xk) := by
              by_cases e1 : dop = xop <;> by_cases e2 : da = xa <;> by_cases e3 : db = xb <;> by_cases e4 : dk = xk <;> simp [e1, e2, e3, e4]
            rcases hcase with h | ⟨rfl, h⟩ | ⟨rfl, rfl, h⟩ | ⟨rfl, rfl, rfl, h⟩ | ⟨rfl, rfl, rfl, rfl⟩
            · have h1 : (dop.toList == xop.toList) = false := by
                rw [beq_eq_false_iff_ne]
                exact fun e => h (eq_of_toList e)
              go_wp2_with fail
              go_region_held3 (fun w' => (w'.cell? ⟨sb, so + kk * 4, none⟩ = some (.string dop) ∧ w'.cell? ⟨sb, so + kk * 4 + 1, none⟩ = some (.int .i64 da) ∧ w'.cell? ⟨sb, so + kk * 4 + 2, none⟩ = some (.int .i64 db) ∧ w'.cell? ⟨sb, so + kk * 4 + 3, none⟩ = some (.int .i64 dk)) ∧ (w'.cell? ⟨g, 0, none⟩ = some (.string xop) ∧ w'.cell? ⟨g, 1, none⟩ = some (.int .i64 xa) ∧ w'.cell? ⟨g, 2, none⟩ = some (.int .i64 xb) ∧ w'.cell? ⟨g, 3, none⟩ = some (.int .i64 xk))) (exact ⟨⟨p0, p1, p2, p3⟩, x0, x1, x2, x3⟩) (fail)
              all_goals
                go_wp2_with fail
                go_roundw
                case rel => exact ⟨kk + 1, firstW_next hkk HFE.out (by intro e; injection e with e1 e2 e3 e4; exact h e1), by go_num, HBx.out.drew, HSx.out.on (grown_drewN (grown_refl _ _) 1)⟩
                case measure => simp [intOf]; omega
            · go_wp2_with fail
              go_region_held3 (fun w' => (w'.cell? ⟨sb, so + kk * 4, none⟩ = some (.string dop) ∧ w'.cell? ⟨sb, so + kk * 4 + 1, none⟩ = some (.int .i64 da) ∧ w'.cell? ⟨sb, so + kk * 4 + 2, none⟩ = some (.int .i64 db) ∧ w'.cell? ⟨sb, so + kk * 4 + 3, none⟩ = some (.int .i64 dk)) ∧ (w'.cell? ⟨g, 0, none⟩ = some (.string dop) ∧ w'.cell? ⟨g, 1, none⟩ = some (.int .i64 xa) ∧ w'.cell? ⟨g, 2, none⟩ = some (.int .i64 xb) ∧ w'.cell? ⟨g, 3, none⟩ = some (.int .i64 xk))) (exact ⟨⟨p0, p1, p2, p3⟩, x0, x1, x2, x3⟩) (fail)
              all_goals
                go_wp2_with fail
                go_roundw
                case rel => exact ⟨kk + 1, firstW_next hkk HFE.out (by intro e; injection e with e1 e2 e3 e4; exact h e2), by go_num, HBx.out.drew, HSx.out.on (grown_drewN (grown_refl _ _) 1)⟩
                case measure => simp [intOf]; omega
            · go_wp2_with fail
              go_region_held3 (fun w' => (w'.cell? ⟨sb, so + kk * 4, none⟩ = some (.string dop) ∧ w'.cell? ⟨sb, so + kk * 4 + 1, none⟩ = some (.int .i64 da) ∧ w'.cell? ⟨sb, so + kk * 4 + 2, none⟩ = some (.int .i64 db) ∧ w'.cell? ⟨sb, so + kk * 4 + 3, none⟩ = some (.int .i64 dk)) ∧ (w'.cell? ⟨g, 0, none⟩ = some (.string dop) ∧ w'.cell? ⟨g, 1, none⟩ = some (.int .i64 da) ∧ w'.cell? ⟨g, 2, none⟩ = some (.int .i64 xb) ∧ w'.cell? ⟨g, 3, none⟩ = some (.int .i64 xk))) (exact ⟨⟨p0, p1, p2, p3⟩, x0, x1, x2, x3⟩) (fail)
              all_goals
                go_wp2_with fail
                go_roundw
                case rel => exact ⟨kk + 1, firstW_next hkk HFE.out (by intro e; injection e with e1 e2 e3 e4; exact h e3), by go_num, HBx.out.drew, HSx.out.on (grown_drewN (grown_refl _ _) 1)⟩
                case measure => simp [intOf]; omega
            · go_wp2_with fail
              go_region_held3 (fun w' => (w'.cell? ⟨sb, so + kk * 4, none⟩ = some (.string dop) ∧ w'.cell? ⟨sb, so + kk * 4 + 1, none⟩ = some (.int .i64 da) ∧ w'.cell? ⟨sb, so + kk * 4 + 2, none⟩ = some (.int .i64 db) ∧ w'.cell? ⟨sb, so + kk * 4 + 3, none⟩ = some (.int .i64 dk)) ∧ (w'.cell? ⟨g, 0, none⟩ = some (.string dop) ∧ w'.cell? ⟨g, 1, none⟩ = some (.int .i64 da) ∧ w'.cell? ⟨g, 2, none⟩ = some (.int .i64 db) ∧ w'.cell? ⟨g, 3, none⟩ = some (.int .i64 xk))) (exact ⟨⟨p0, p1, p2, p3⟩, x0, x1, x2, x3⟩) (fail)
              all_goals
                go_wp2_with fail
                go_roundw
                case rel => exact ⟨kk + 1, firstW_next hkk HFE.out (by intro e; injection e with e1 e2 e3 e4; exact h e4), by go_num, HBx.out.drew, HSx.out.on (grown_drewN (grown_refl _ _) 1)⟩
                case measure => simp [intOf]; omega
            · go_wp2_with fail
              go_region_held3 (fun w' => (w'.cell? ⟨sb, so + kk * 4, none⟩ = some (.string dop) ∧ w'.cell? ⟨sb, so + kk * 4 + 1, none⟩ = some (.int .i64 da) ∧ w'.cell? ⟨sb, so + kk * 4 + 2, none⟩ = some (.int .i64 db) ∧ w'.cell? ⟨sb, so + kk * 4 + 3, none⟩ = some (.int .i64 dk)) ∧ (w'.cell? ⟨g, 0, none⟩ = some (.string dop) ∧ w'.cell? ⟨g, 1, none⟩ = some (.int .i64 da) ∧ w'.cell? ⟨g, 2, none⟩ = some (.int .i64 db) ∧ w'.cell? ⟨g, 3, none⟩ = some (.int .i64 dk))) (exact ⟨⟨p0, p1, p2, p3⟩, x0, x1, x2, x3⟩) (fail)
              all_goals
                generalize hw8 : World.drew wr = w8
                have HS8 := shade (show ShO w w8 F i (.slice _ (shS F i).1.length c4) (.slice _ i c5) by rw [← hw8]; exact HSx.out.on (grown_drewN (grown_refl _ _) 1))
                have hB8 : Holds5 w8 g 43 #[.string dop, .int .i64 da, .int .i64 db, .int .i64 dk] := by rw [← hw8]; exact HBx.out.drew
                have x0 := hB8.look 0; have x1 := hB8.look 1; have x2 := hB8.look 2; have x3 := hB8.look 3
                simp at x0 x1 x2 x3
                have hz := firstW_here hkk HFE.out
                have hfl : firstW (shS F i).1 ⟨dop, da, db, dk⟩ < (shS F i).1.length := by omega
                have HNX := shade (fun w2 u2 p2 hg => ShO.old (w2 := w2) (u2 := u2) HS8.out (by rw [HMV2.out]; exact hfl) p2 hg)
                rw [HMV2.out, hz] at HNX
                go_wp2_with (first
                  | (at_builtin; refine wpList_append_own _ rfl _ _ 25 rfl w.heap.size 3 j0 (.int .i64 0) 1 8 Tryd.underlying25 hj0 hy0 hy1 hy2 rfl (by decide) _ _ _ rfl (World.ownsRow.alloc HS8.out.o2 _) ⟨w8.heap.size, 0, none⟩ 1 1 [.int .i64 (kk : Int)] rfl rfl (int_new _ _ _) (int_one _) (by unfold maxLen; omega) (by omega) (by have := HS8.out.low.size; simp; omega) ?_)
                  | fail)
                intro v' w9 hown9 hgr9 hnil9
                have H9 := shade (HNX.out w9 v' hown9 (grown_same (World.grownBy_alloc w8 (.cells #[.int .i64 (kk : Int)] 3) _) hgr9))
                clear hown9 hgr9 hnil9 HNX
                go_wp2_with fail
                go_roundw
                case rel => exact ⟨i + 1, by omega, by go_num, H9.out⟩
                case measure => simp [intOf]; omega
          · have hfe : firstW (shS F i).1 ⟨xop, xa, xb, xk⟩ = (shS F i).1.length := by omega
            obtain rfl : kk = (shS F i).1.length := by omega
            clear hW7
            have hd : decide (((shS F i).1.length : Int) < ((shS F i).1.length : Int)) = false := decide_eq_false (by omega)
            go_wp2_with fail
            go_quiet (fail)
            all_goals
              generalize hw8 : World.drewN wr _ = w8
              have HS8 := shade (show ShO w w8 F i (.slice A4 (shS F i).1.length c4) (.slice _ i c5) by rw [← hw8]; exact HSx.out.on (grown_drewN (grown_refl _ _) _))
              have hB8 : Holds5 w8 g 43 #[.string xop, .int .i64 xa, .int .i64 xb, .int .i64 xk] := by rw [← hw8]; exact HBx.out.drewN _
              have x0 := hB8.look 0; have x1 := hB8.look 1; have x2 := hB8.look 2; have x3 := hB8.look 3
              simp at x0 x1 x2 x3
              have HNX := shade (fun w2 w3 w4 u1 u2 p1 hg hg3 p2 hg4 => ShO.new (w2 := w2) (w3 := w3) (w4 := w4) (u1 := u1) (u2 := u2) HS8.out (by rw [HMV2.out]; exact hfe) HMV2.out p1 hg hg3 p2 hg4)
              go_wp2_with (first
                | (at_builtin; refine wpList_append_own _ rfl _ _ 23 rfl w.heap.size 43 i0 (.agg #[.string ⟨#[]⟩, .int .i64 0, .int .i64 0, .int .i64 0]) 4 40 Tryd.underlying23 hi0 hz0 hz1 hz2 rfl (by decide) _ _ _ rfl (World.ownsRow.alloc HS8.out.o1 _) ⟨w8.heap.size, 0, none⟩ 1 1 [.string xop, .int .i64 xa, .int .i64 xb, .int .i64 xk] rfl rfl (cells_new4 _ _ _ _ _ _) (one_cells4 _ _ _ _) (by unfold maxLen; omega) (by omega) (by have := HS8.out.low.size; simp; omega) ?_)
                | fail)
              intro v8 w9 hown9 hgr9 hnil9
              have hq9 := grown_same (World.grownBy_alloc w8 (.cells #[.string xop, .int .i64 xa, .int .i64 xb, .int .i64 xk] 43) _) hgr9
              have HQ9 := shade hq9
              have ho2 := kept_ty HS8.out.o1 HS8.out.o2 (by decide) hq9
              have HP9 := shade hown9; have HO2 := shade ho2
              have hsz := HS8.out.low.size
              have hsz2 := hq9.size
              obtain ⟨A8, c8, rfl, -⟩ := ownsRow_slice hown9
              clear hown9 hgr9 hnil9 hq9 ho2 x0 x1 x2 x3
              go_wp2_with (first
                | (at_builtin; refine wpList_append_own _ rfl _ _ 25 rfl w.heap.size 3 j0 (.int .i64 0) 1 8 Tryd.underlying25 hj0 hy0 hy1 hy2 rfl (by decide) _ _ _ rfl (World.ownsRow.alloc HO2.out _) ⟨w9.heap.size, 0, none⟩ 1 1 [.int .i64 ((shS F i).1.length : Int)] rfl rfl (int_new _ _ _) (int_one _) (by unfold maxLen; omega) (by omega) (by simp; omega) ?_)
                | fail)
              intro v' w10 hown10 hgr10 hnil10
              have H9 := shade (HNX.out w9 w9 w10 _ v' HP9.out HQ9.out (grown_refl _ _) hown10 (grown_same (World.grownBy_alloc w9 (.cells #[.int .i64 ((shS F i).1.length : Int)] 3) _) hgr10))
              clear hown10 hgr10 hnil10 HNX HP9 HQ9 HO2
              go_wp2_with fail
              go_roundw
              case rel => exact ⟨i + 1, by omega, by go_num, H9.out⟩
              case measure => simp [intOf]; omega
      · obtain ⟨a, rfl⟩ := Int.eq_ofNat_of_zero_le (show 0 ≤ a by omega)
        obtain ⟨b, rfl⟩ := Int.eq_ofNat_of_zero_le (show 0 ≤ b by omega)
        have ha : a < i := by omega
        have hb : b < i := by omega
        obtain rfl : k = 0 := by omega
        have e0 : (op.toList == [115, 101, 116]) = false := by rw [Bool.eq_false_iff]; exact fun h => hw0 ((word0 _).1 h)
        obtain ⟨bl, ol, rfl, -⟩ := HN5.out.resolve_left (by omega)
        have q1 := HN5.out.cell ha
        obtain ⟨p0, p1, p2, p3⟩ := (H.out.on HS5.out.low).four hlt
        rw [HCC.out] at p0 p1 p2 p3
        simp only [] at p0 p1 p2 p3
        have t1 := HB5.out.free 1
        have j1 : (a : Int) < (i : Int) := by omega
        have j2 : (0 : Int) ≤ (a : Int) := by omega
        have j3 : (b : Int) < (i : Int) := by omega
        have j4 : (0 : Int) ≤ (b : Int) := by omega
        have hr : mvW ⟨op, (a : Int), (b : Int), 0⟩ (shS F i).2 = if (wordN op.toList = 1 ∨ wordN op.toList = 3) ∧ (shS F i).2.getD b 0 < (shS F i).2.getD a 0 then ⟨op, (shS F i).2.getD b 0, (shS F i).2.getD a 0, 0⟩ else ⟨op, (shS F i).2.getD a 0, (shS F i).2.getD b 0, 0⟩ := by
          unfold mvW
          simp only [Int.toNat_natCast]
          rw [if_neg hw0]
        have q1' : w5.cell? ⟨bl, ol + a, none⟩ = some (.int .i64 (((shS F i).2.getD a 0 : Nat) : Int)) := q1
        obtain ⟨ya, hya⟩ : ∃ ya, (shS F i).2.getD a 0 = ya := ⟨_, rfl⟩
        obtain ⟨yb, hyb⟩ : ∃ yb, (shS F i).2.getD b 0 = yb := ⟨_, rfl⟩
        rw [hya] at q1'
        rw [hya, hyb] at hr
        have HYB := shade hyb
        have HRR := shade hr
        clear q1 hya hyb hr HS5 HN5
        go_upto_region 9 with (fail)
        have hB6 := HB5.out.put 1 (.int .i64 (ya : Int))
        simp at hB6
        have hG6 : wr.grownBy (w5.setCell ⟨g, 1, none⟩ (.int .i64 (ya : Int))) none := grown_then HGA.out (grown_set g 1 _) (by have := HGE.out; omega)
        obtain ⟨w6, hw6⟩ : ∃ w6, w5.setCell ⟨g, 1, none⟩ (.int .i64 (ya : Int)) = w6 := ⟨_, rfl⟩
        rw [hw6] at hB6 hG6 ⊢
        have HS6 := shade (HS.out.on hG6)
        have HB6 := shade hB6; have HG6 := shade hG6
        clear hw6 hB6 hG6 q1' p0 p1 p2 p3 t1 x0 x1 x2 x3 HB5 HGA
        obtain ⟨_, _, e5, hN6⟩ := nums_of HS6.out.o2
        injection e5 with e5 _ e6
        subst e5 e6
        have q2 : w6.cell? ⟨bl, ol + b, none⟩ = some (.int .i64 (((shS F i).2.getD b 0 : Nat) : Int)) := hN6.cell hb
        rw [HYB.out] at q2
        obtain ⟨p0, p1, p2, p3⟩ := (H.out.on HS6.out.low).four hlt
        rw [HCC.out] at p0 p1 p2 p3
        simp only [] at p0 p1 p2 p3
        have t2 := HB6.out.free 2
        have x2 := HB6.out.look 2
        simp at x2
        clear hN6
        go_upto_region 10 with (fail)
        have hB7 := HB6.out.put 2 (.int .i64 (yb : Int))
        simp at hB7
        have hG7 : wr.grownBy (w6.setCell ⟨g, 2, none⟩ (.int .i64 (yb : Int))) none := grown_then HG6.out (grown_set g 2 _) (by have := HGE.out; omega)
        obtain ⟨w7, hw7⟩ : ∃ w7, w6.setCell ⟨g, 2, none⟩ (.int .i64 (yb : Int)) = w7 := ⟨_, rfl⟩
        rw [hw7] at hB7 hG7 ⊢
        have HB7 := shade hB7; have HG7 := shade hG7
        clear hw7 hB7 hG7 q2 p0 p1 p2 p3 t2 x2 HS6 HB6 HG6
        have x0 := HB7.out.look 0; have x1 := HB7.out.look 1; have x2 := HB7.out.look 2; have x3 := HB7.out.look 3
        have t0 := HB7.out.free 0; have t1 := HB7.out.free 1; have t2 := HB7.out.free 2; have t3 := HB7.out.free 3
        simp at x0 x1 x2 x3
        by_cases hsw : (wordN op.toList = 1 ∨ wordN op.toList = 3) ∧ yb < ya
        · obtain ⟨hm, hlt2⟩ := hsw
          have HMV2 := shade (show mvW (F i) (shS F i).2 = ⟨op, (yb : Int), (ya : Int), 0⟩ by rw [HCC.out, HRR.out]; exact if_pos ⟨hm, hlt2⟩)
          have hlt3 : (yb : Int) < (ya : Int) := by omega
          rcases hm with hm | hm
          · have e1 : (op.toList == [97, 100, 100]) = true := (word1 _).2 hm
            go_upto_region 12 with (fail)
            obtain ⟨hB8, hG8⟩ := put4 (w := wr) (by have := HGE.out; omega) HB7.out HG7.out (.string op) (.int .i64 (yb : Int)) (.int .i64 (ya : Int)) (.int .i64 0)
            generalize World.setCell _ _ _ = w8 at *
            have HB7 := shade hB8; have HG7 := shade hG8
            clear hB8 hG8 x0 x1 x2 x3 t0 t1 t2 t3 hlt3 hlt2 hm e1 e0 hot
            generalize w8 = w7 at *
            have HS7 := shade (HS.out.on HG7.out)
            obtain ⟨xop, hxop⟩ : ∃ x, x = op := ⟨_, rfl⟩
            obtain ⟨xa, hxa⟩ : ∃ x : Int, x = (yb : Int) := ⟨_, rfl⟩
            obtain ⟨xb, hxb⟩ : ∃ x : Int, x = (ya : Int) := ⟨_, rfl⟩
            obtain ⟨xk, hxk⟩ : ∃ x : Int, x = 0 := ⟨_, rfl⟩
            rw [← hxop, ← hxa, ← hxb, ← hxk] at HMV2
            have HB7' : Hid (Holds5 w7 g 43 #[.string xop, .int .i64 xa, .int .i64 xb, .int .i64 xk]) := shade (by rw [hxop, hxa, hxb, hxk]; exact HB7.out)
            have hl1 := (shS_len F i).2
            clear HB7 hxop hxa hxb hxk HS
            go_wp2_with fail
            go_loopw [8] (fun q wx => ∃ kk : Nat, kk ≤ firstW (shS F i).1 ⟨xop, xa, xb, xk⟩ ∧ q = .int .i64 (kk : Int) ∧ Holds5 wx g 43 #[.string xop, .int .i64 xa, .int .i64 xb, .int .i64 xk] ∧ ShO w wx F i (.slice A4 (shS F i).1.length c4) (.slice _ i c5)) (fun q _ => (shS F i).1.length + 1 - (intOf q).toNat)
            case atStart => exact ⟨0, Nat.zero_le _, rfl, HB7'.out, HS7.out⟩
            case round =>
              clear HS7 HB7'
              obtain ⟨kk, hkk, rfl, hb, hsx⟩ := hrel
              have HBx := shade hb; have HSx := shade hsx
              obtain ⟨_, _, e7, hW7⟩ := wds_of hsx.o1
              injection e7 with e7 _ e8
              subst e7 e8
              have hf1 := firstW_le (shS F i).1 ⟨xop, xa, xb, xk⟩
              clear hb hsx
              have x0 := HBx.out.look 0; have x1 := HBx.out.look 1; have x2 := HBx.out.look 2; have x3 := HBx.out.look 3
              simp at x0 x1 x2 x3
              by_cases hkl : kk < (shS F i).1.length
              · obtain ⟨sb, so, rfl, -⟩ := hW7.resolve_left (by omega)
                obtain ⟨p0, p1, p2, p3⟩ := hW7.four hkl
                have hfe := lst_get (shS F i).1 kk hkl
                clear hW7
                generalize (shS F i).1.getD kk zWid = d at *
                obtain ⟨dop, da, db, dk⟩ := d
                simp only [] at p0 p1 p2 p3
                have HFE := shade hfe
                clear hfe
                have j1 : (kk : Int) < ((shS F i).1.length : Int) := by omega
                have j2 : (0 : Int) ≤ (kk : Int) := by omega
                have hcase : (dop ≠ xop) ∨ (dop = xop ∧ da ≠ xa) ∨ (dop = xop ∧ da = xa ∧ db ≠ xb) ∨ (dop = xop ∧ da = xa ∧ db = xb ∧ dk ≠ xk) ∨ (dop = xop ∧ da = xa ∧ db = xb ∧ dk = xk) := by
                  by_cases e1 : dop = xop <;> by_cases e2 : da = xa <;> by_cases e3 : db = xb <;> by_cases e4 : dk = xk <;> simp [e1, e2, e3, e4]
                rcases hcase with h | ⟨rfl, h⟩ | ⟨rfl, rfl, h⟩ | ⟨rfl, rfl, rfl, h⟩ | ⟨rfl, rfl, rfl, rfl⟩
                · have h1 : (dop.toList == xop.toList) = false := by
                    rw [beq_eq_false_iff_ne]
                    exact fun e => h (eq_of_toList e)
                  go_wp2_with fail
                  go_region_held3 (fun w' => (w'.cell? ⟨sb, so + kk * 4, none⟩ = some (.string dop) ∧ w'.cell? ⟨sb, so + kk * 4 + 1, none⟩ = some (.int .i64 da) ∧ w'.cell? ⟨sb, so + kk * 4 + 2, none⟩ = some (.int .i64 db) ∧ w'.cell? ⟨sb, so + kk * 4 + 3, none⟩ = some (.int .i64 dk)) ∧ (w'.cell? ⟨g, 0, none⟩ = some (.string xop) ∧ w'.cell? ⟨g, 1, none⟩ = some (.int .i64 xa) ∧ w'.cell? ⟨g, 2, none⟩ = some (.int .i64 xb) ∧ w'.cell? ⟨g, 3, none⟩ = some (.int .i64 xk))) (exact ⟨⟨p0, p1, p2, p3⟩, x0, x1, x2, x3⟩) (fail)
                  all_goals
                    go_wp2_with fail
                    go_roundw
                    case rel => exact ⟨kk + 1, firstW_next hkk HFE.out (by intro e; injection e with e1 e2 e3 e4; exact h e1), by go_num, HBx.out.drew, HSx.out.on (grown_drewN (grown_refl _ _) 1)⟩
                    case measure => simp [intOf]; omega
                · go_wp2_with fail
                  go_region_held3 (fun w' => (w'.cell? ⟨sb, so + kk * 4, none⟩ = some (.string dop) ∧ w'.cell? ⟨sb, so + kk * 4 + 1, none⟩ = some (.int .i64 da) ∧ w'.cell? ⟨sb, so + kk * 4 + 2, none⟩ = some (.int .i64 db) ∧ w'.cell? ⟨sb, so + kk * 4 + 3, none⟩ = some (.int .i64 dk)) ∧ (w'.cell? ⟨g, 0, none⟩ = some (.string dop) ∧ w'.cell? ⟨g, 1, none⟩ = some (.int .i64 xa) ∧ w'.cell? ⟨g, 2, none⟩ = some (.int .i64 xb) ∧ w'.cell? ⟨g, 3, none⟩ = some (.int .i64 xk))) (exact ⟨⟨p0, p1, p2, p3⟩, x0, x1, x2, x3⟩) (fail)
                  all_goals
                    go_wp2_with fail
                    go_roundw
                    case rel => exact ⟨kk + 1, firstW_next hkk HFE.out (by intro e; injection e with e1 e2 e3 e4; exact h e2), by go_num, HBx.out.drew, HSx.out.on (grown_drewN (grown_refl _ _) 1)⟩
                    case measure => simp [intOf]; omega
                · go_wp2_with fail
                  go_region_held3 (fun w' => (w'.cell? ⟨sb, so + kk * 4, none⟩ = some (.string dop) ∧ w'.cell? ⟨sb, so + kk * 4 + 1, none⟩ = some (.int .i64 da) ∧ w'.cell? ⟨sb, so + kk * 4 + 2, none⟩ = some (.int .i64 db) ∧ w'.cell? ⟨sb, so + kk * 4 + 3, none⟩ = some (.int .i64 dk)) ∧ (w'.cell? ⟨g, 0, none⟩ = some (.string dop) ∧ w'.cell? ⟨g, 1, none⟩ = some (.int .i64 da) ∧ w'.cell? ⟨g, 2, none⟩ = some (.int .i64 xb) ∧ w'.cell? ⟨g, 3, none⟩ = some (.int .i64 xk))) (exact ⟨⟨p0, p1, p2, p3⟩, x0, x1, x2, x3⟩) (fail)
                  all_goals
                    go_wp2_with fail
                    go_roundw
                    case rel => exact ⟨kk + 1, firstW_next hkk HFE.out (by intro e; injection e with e1 e2 e3 e4; exact h e3), by go_num, HBx.out.drew, HSx.out.on (grown_drewN (grown_refl _ _) 1)⟩
                    case measure => simp [intOf]; omega
                · go_wp2_with fail
                  go_region_held3 (fun w' => (w'.cell? ⟨sb, so + kk * 4, none⟩ = some (.string dop) ∧ w'.cell? ⟨sb, so + kk * 4 + 1, none⟩ = some (.int .i64 da) ∧ w'.cell? ⟨sb, so + kk * 4 + 2, none⟩ = some (.int .i64 db) ∧ w'.cell? ⟨sb, so + kk * 4 + 3, none⟩ = some (.int .i64 dk)) ∧ (w'.cell? ⟨g, 0, none⟩ = some (.string dop) ∧ w'.cell? ⟨g, 1, none⟩ = some (.int .i64 da) ∧ w'.cell? ⟨g, 2, none⟩ = some (.int .i64 db) ∧ w'.cell? ⟨g, 3, none⟩ = some (.int .i64 xk))) (exact ⟨⟨p0, p1, p2, p3⟩, x0, x1, x2, x3⟩) (fail)
                  all_goals
                    go_wp2_with fail
                    go_roundw
                    case rel => exact ⟨kk + 1, firstW_next hkk HFE.out (by intro e; injection e with e1 e2 e3 e4; exact h e4), by go_num, HBx.out.drew, HSx.out.on (grown_drewN (grown_refl _ _) 1)⟩
                    case measure => simp [intOf]; omega
                · go_wp2_with fail
                  go_region_held3 (fun w' => (w'.cell? ⟨sb, so + kk * 4, none⟩ = some (.string dop) ∧ w'.cell? ⟨sb, so + kk * 4 + 1, none⟩ = some (.int .i64 da) ∧ w'.cell? ⟨sb, so + kk * 4 + 2, none⟩ = some (.int .i64 db) ∧ w'.cell? ⟨sb, so + kk * 4 + 3, none⟩ = some (.int .i64 dk)) ∧ (w'.cell? ⟨g, 0, none⟩ = some (.string dop) ∧ w'.cell? ⟨g, 1, none⟩ = some (.int .i64 da) ∧ w'.cell? ⟨g, 2, none⟩ = some (.int .i64 db) ∧ w'.cell? ⟨g, 3, none⟩ = some (.int .i64 dk))) (exact ⟨⟨p0, p1, p2, p3⟩, x0, x1, x2, x3⟩) (fail)
                  all_goals
                    generalize hw8 : World.drew wr = w8
                    have HS8 := shade (show ShO w w8 F i (.slice _ (shS F i).1.length c4) (.slice _ i c5) by rw [← hw8]; exact HSx.out.on (grown_drewN (grown_refl _ _) 1))
                    have hB8 : Holds5 w8 g 43 #[.string dop, .int .i64 da, .int .i64 db, .int .i64 dk] := by rw [← hw8]; exact HBx.out.drew
                    have x0 := hB8.look 0; have x1 := hB8.look 1; have x2 := hB8.look 2; have x3 := hB8.look 3
                    simp at x0 x1 x2 x3
                    have hz := firstW_here hkk HFE.out
                    have hfl : firstW (shS F i).1 ⟨dop, da, db, dk⟩ < (shS F i).1.length := by omega
                    have HNX := shade (fun w2 u2 p2 hg => ShO.old (w2 := w2) (u2 := u2) HS8.out (by rw [HMV2.out]; exact hfl) p2 hg)
                    rw [HMV2.out, hz] at HNX
                    go_wp2_with (first
                      | (at_builtin; refine wpList_append_own _ rfl _ _ 25 rfl w.heap.size 3 j0 (.int .i64 0) 1 8 Tryd.underlying25 hj0 hy0 hy1 hy2 rfl (by decide) _ _ _ rfl (World.ownsRow.alloc HS8.out.o2 _) ⟨w8.heap.size, 0, none⟩ 1 1 [.int .i64 (kk : Int)] rfl rfl (int_new _ _ _) (int_one _) (by unfold maxLen; omega) (by omega) (by have := HS8.out.low.size; simp; omega) ?_)
                      | fail)
                    intro v' w9 hown9 hgr9 hnil9
                    have H9 := shade (HNX.out w9 v' hown9 (grown_same (World.grownBy_alloc w8 (.cells #[.int .i64 (kk : Int)] 3) _) hgr9))
                    clear hown9 hgr9 hnil9 HNX
                    go_wp2_with fail
                    go_roundw
                    case rel => exact ⟨i + 1, by omega, by go_num, H9.out⟩
                    case measure => simp [intOf]; omega
              · have hfe : firstW (shS F i).1 ⟨xop, xa, xb, xk⟩ = (shS F i).1.length := by omega
                obtain rfl : kk = (shS F i).1.length := by omega
                clear hW7
                have hd : decide (((shS F i).1.length : Int) < ((shS F i).1.length : Int)) = false := decide_eq_false (by omega)
                go_wp2_with fail
                go_quiet (fail)
                all_goals
                  generalize hw8 : World.drewN wr _ = w8
                  have HS8 := shade (show ShO w w8 F i (.slice A4 (shS F i).1.length c4) (.slice _ i c5) by rw [← hw8]; exact HSx.out.on (grown_drewN (grown_refl _ _) _))
                  have hB8 : Holds5 w8 g 43 #[.string xop, .int .i64 xa, .int .i64 xb, .int .i64 xk] := by rw [← hw8]; exact HBx.out.drewN _
                  have x0 := hB8.look 0; have x1 := hB8.look 1; have x2 := hB8.look 2; have x3 := hB8.look 3
                  simp at x0 x1 x2 x3
                  have HNX := shade (fun w2 w3 w4 u1 u2 p1 hg hg3 p2 hg4 => ShO.new (w2 := w2) (w3 := w3) (w4 := w4) (u1 := u1) (u2 := u2) HS8.out (by rw [HMV2.out]; exact hfe) HMV2.out p1 hg hg3 p2 hg4)
                  go_wp2_with (first
                    | (at_builtin; refine wpList_append_own _ rfl _ _ 23 rfl w.heap.size 43 i0 (.agg #[.string ⟨#[]⟩, .int .i64 0, .int .i64 0, .int .i64 0]) 4 40 Tryd.underlying23 hi0 hz0 hz1 hz2 rfl (by decide) _ _ _ rfl (World.ownsRow.alloc HS8.out.o1 _) ⟨w8.heap.size, 0, none⟩ 1 1 [.string xop, .int .i64 xa, .int .i64 xb, .int .i64 xk] rfl rfl (cells_new4 _ _ _ _ _ _) (one_cells4 _ _ _ _) (by unfold maxLen; omega) (by omega) (by have := HS8.out.low.size; simp; omega) ?_)
                    | fail)
                  intro v8 w9 hown9 hgr9 hnil9
                  have hq9 := grown_same (World.grownBy_alloc w8 (.cells #[.string xop, .int .i64 xa, .int .i64 xb, .int .i64 xk] 43) _) hgr9
                  have HQ9 := shade hq9
                  have ho2 := kept_ty HS8.out.o1 HS8.out.o2 (by decide) hq9
                  have HP9 := shade hown9; have HO2 := shade ho2
                  have hsz := HS8.out.low.size
                  have hsz2 := hq9.size
                  obtain ⟨A8, c8, rfl, -⟩ := ownsRow_slice hown9
                  clear hown9 hgr9 hnil9 hq9 ho2 x0 x1 x2 x3
                  go_wp2_with (first
                    | (at_builtin; refine wpList_append_own _ rfl _ _ 25 rfl w.heap.size 3 j0 (.int .i64 0) 1 8 Tryd.underlying25 hj0 hy0 hy1 hy2 rfl (by decide) _ _ _ rfl (World.ownsRow.alloc HO2.out _) ⟨w9.heap.size, 0, none⟩ 1 1 [.int .i64 ((shS F i).1.length : Int)] rfl rfl (int_new _ _ _) (int_one _) (by unfold maxLen; omega) (by omega) (by simp; omega) ?_)
                    | fail)
                  intro v' w10 hown10 hgr10 hnil10
                  have H9 := shade (HNX.out w9 w9 w10 _ v' HP9.out HQ9.out (grown_refl _ _) hown10 (grown_same (World.grownBy_alloc w9 (.cells #[.int .i64 ((shS F i).1.length : Int)] 3) _) hgr10))
                  clear hown10 hgr10 hnil10 HNX HP9 HQ9 HO2
                  go_wp2_with fail
                  go_roundw
                  case rel => exact ⟨i + 1, by omega, by go_num, H9.out⟩
                  case measure => simp [intOf]; omega
          · have e1 : (op.toList == [97, 100, 100]) = false := by rw [Bool.eq_false_iff]; exact fun h => by have := (word1 _).1 h; omega
            have e3 : (op.toList == [109, 117, 108]) = true := (word3 _).2 hm
            go_upto_region 12 with (fail)
            obtain ⟨hB8, hG8⟩ := put4 (w := wr) (by have := HGE.out; omega) HB7.out HG7.out (.string op) (.int .i64 (yb : Int)) (.int .i64 (ya : Int)) (.int .i64 0)
            generalize World.setCell _ _ _ = w8 at *
            have HB7 := shade hB8; have HG7 := shade hG8
            clear hB8 hG8 x0 x1 x2 x3 t0 t1 t2 t3 hlt3 hlt2 hm e1 e0 hot
            generalize w8 = w7 at *
            have HS7 := shade (HS.out.on HG7.out)
            obtain ⟨xop, hxop⟩ : ∃ x, x = op := ⟨_, rfl⟩
            obtain ⟨xa, hxa⟩ : ∃ x : Int, x = (yb : Int) := ⟨_, rfl⟩
            obtain ⟨xb, hxb⟩ : ∃ x : Int, x = (ya : Int) := ⟨_, rfl⟩
            obtain ⟨xk, hxk⟩ : ∃ x : Int, x = 0 := ⟨_, rfl⟩
            rw [← hxop, ← hxa, ← hxb, ← hxk] at HMV2
            have HB7' : Hid (Holds5 w7 g 43 #[.string xop, .int .i64 xa, .int .i64 xb, .int .i64 xk]) := shade (by rw [hxop, hxa, hxb, hxk]; exact HB7.out)
            have hl1 := (shS_len F i).2
            clear HB7 hxop hxa hxb hxk HS
            go_wp2_with fail
            go_loopw [8] (fun q wx => ∃ kk : Nat, kk ≤ firstW (shS F i).1 ⟨xop, xa, xb, xk⟩ ∧ q = .int .i64 (kk : Int) ∧ Holds5 wx g 43 #[.string xop, .int .i64 xa, .int .i64 xb, .int .i64 xk] ∧ ShO w wx F i (.slice A4 (shS F i).1.length c4) (.slice _ i c5)) (fun q _ => (shS F i).1.length + 1 - (intOf q).toNat)
            case atStart => exact ⟨0, Nat.zero_le _, rfl, HB7'.out, HS7.out⟩
            case round =>
              clear HS7 HB7'
              obtain ⟨kk, hkk, rfl, hb, hsx⟩ := hrel
              have HBx := shade hb; have HSx := shade hsx
              obtain ⟨_, _, e7, hW7⟩ := wds_of hsx.o1
              injection e7 with e7 _ e8
              subst e7 e8
              have hf1 := firstW_le (shS F i).1 ⟨xop, xa, xb, xk⟩
              clear hb hsx
              have x0 := HBx.out.look 0; have x1 := HBx.out.look 1; have x2 := HBx.out.look 2; have x3 := HBx.out.look 3
              simp at x0 x1 x2 x3
              by_cases hkl : kk < (shS F i).1.length
              · obtain ⟨sb, so, rfl, -⟩ := hW7.resolve_left (by omega)
                obtain ⟨p0, p1, p2, p3⟩ := hW7.four hkl
                have hfe := lst_get (shS F i).1 kk hkl
                clear hW7
                generalize (shS F i).1.getD kk zWid = d at *
                obtain ⟨dop, da, db, dk⟩ := d
                simp only [] at p0 p1 p2 p3
                have HFE := shade hfe
                clear hfe
                have j1 : (kk : Int) < ((shS F i).1.length : Int) := by omega
                have j2 : (0 : Int) ≤ (kk : Int) := by omega
                have hcase : (dop ≠ xop) ∨ (dop = xop ∧ da ≠ xa) ∨ (dop = xop ∧ da = xa ∧ db ≠ xb) ∨ (dop = xop ∧ da = xa ∧ db = xb ∧ dk ≠ xk) ∨ (dop = xop ∧ da = xa ∧ db = xb ∧ dk = xk) := by
                  by_cases e1 : dop = xop <;> by_cases e2 : da = xa <;> by_cases e3 : db = xb <;> by_cases e4 : dk = xk <;> simp [e1, e2, e3, e4]
                rcases hcase with h | ⟨rfl, h⟩ | ⟨rfl, rfl, h⟩ | ⟨rfl, rfl, rfl, h⟩ | ⟨rfl, rfl, rfl, rfl⟩
                · have h1 : (dop.toList == xop.toList) = false := by
                    rw [beq_eq_false_iff_ne]
                    exact fun e => h (eq_of_toList e)
                  go_wp2_with fail
                  go_region_held3 (fun w' => (w'.cell? ⟨sb, so + kk * 4, none⟩ = some (.string dop) ∧ w'.cell? ⟨sb, so + kk * 4 + 1, none⟩ = some (.int .i64 da) ∧ w'.cell? ⟨sb, so + kk * 4 + 2, none⟩ = some (.int .i64 db) ∧ w'.cell? ⟨sb, so + kk * 4 + 3, none⟩ = some (.int .i64 dk)) ∧ (w'.cell? ⟨g, 0, none⟩ = some (.string xop) ∧ w'.cell? ⟨g, 1, none⟩ = some (.int .i64 xa) ∧ w'.cell? ⟨g, 2, none⟩ = some (.int .i64 xb) ∧ w'.cell? ⟨g, 3, none⟩ = some (.int .i64 xk))) (exact ⟨⟨p0, p1, p2, p3⟩, x0, x1, x2, x3⟩) (fail)
                  all_goals
                    go_wp2_with fail
                    go_roundw
                    case rel => exact ⟨kk + 1, firstW_next hkk HFE.out (by intro e; injection e with e1 e2 e3 e4; exact h e1), by go_num, HBx.out.drew, HSx.out.on (grown_drewN (grown_refl _ _) 1)⟩
                    case measure => simp [intOf]; omega
                · go_wp2_with fail
                  go_region_held3 (fun w' => (w'.cell? ⟨sb, so + kk * 4, none⟩ = some (.string dop) ∧ w'.cell? ⟨sb, so + kk * 4 + 1, none⟩ = some (.int .i64 da) ∧ w'.cell? ⟨sb, so + kk * 4 + 2, none⟩ = some (.int .i64 db) ∧ w'.cell? ⟨sb, so + kk * 4 + 3, none⟩ = some (.int .i64 dk)) ∧ (w'.cell? ⟨g, 0, none⟩ = some (.string dop) ∧ w'.cell? ⟨g, 1, none⟩ = some (.int .i64 xa) ∧ w'.cell? ⟨g, 2, none⟩ = some (.int .i64 xb) ∧ w'.cell? ⟨g, 3, none⟩ = some (.int .i64 xk))) (exact ⟨⟨p0, p1, p2, p3⟩, x0, x1, x2, x3⟩) (fail)
                  all_goals
                    go_wp2_with fail
                    go_roundw
                    case rel => exact ⟨kk + 1, firstW_next hkk HFE.out (by intro e; injection e with e1 e2 e3 e4; exact h e2), by go_num, HBx.out.drew, HSx.out.on (grown_drewN (grown_refl _ _) 1)⟩
                    case measure => simp [intOf]; omega
                · go_wp2_with fail
                  go_region_held3 (fun w' => (w'.cell? ⟨sb, so + kk * 4, none⟩ = some (.string dop) ∧ w'.cell? ⟨sb, so + kk * 4 + 1, none⟩ = some (.int .i64 da) ∧ w'.cell? ⟨sb, so + kk * 4 + 2, none⟩ = some (.int .i64 db) ∧ w'.cell? ⟨sb, so + kk * 4 + 3, none⟩ = some (.int .i64 dk)) ∧ (w'.cell? ⟨g, 0, none⟩ = some (.string dop) ∧ w'.cell? ⟨g, 1, none⟩ = some (.int .i64 da) ∧ w'.cell? ⟨g, 2, none⟩ = some (.int .i64 xb) ∧ w'.cell? ⟨g, 3, none⟩ = some (.int .i64 xk))) (exact ⟨⟨p0, p1, p2, p3⟩, x0, x1, x2, x3⟩) (fail)
                  all_goals
                    go_wp2_with fail
                    go_roundw
                    case rel => exact ⟨kk + 1, firstW_next hkk HFE.out (by intro e; injection e with e1 e2 e3 e4; exact h e3), by go_num, HBx.out.drew, HSx.out.on (grown_drewN (grown_refl _ _) 1)⟩
                    case measure => simp [intOf]; omega
                · go_wp2_with fail
                  go_region_held3 (fun w' => (w'.cell? ⟨sb, so + kk * 4, none⟩ = some (.string dop) ∧ w'.cell? ⟨sb, so + kk * 4 + 1, none⟩ = some (.int .i64 da) ∧ w'.cell? ⟨sb, so + kk * 4 + 2, none⟩ = some (.int .i64 db) ∧ w'.cell? ⟨sb, so + kk * 4 + 3, none⟩ = some (.int .i64 dk)) ∧ (w'.cell? ⟨g, 0, none⟩ = some (.string dop) ∧ w'.cell? ⟨g, 1, none⟩ = some (.int .i64 da) ∧ w'.cell? ⟨g, 2, none⟩ = some (.int .i64 db) ∧ w'.cell? ⟨g, 3, none⟩ = some (.int .i64 xk))) (exact ⟨⟨p0, p1, p2, p3⟩, x0, x1, x2, x3⟩) (fail)
                  all_goals
                    go_wp2_with fail
                    go_roundw
                    case rel => exact ⟨kk + 1, firstW_next hkk HFE.out (by intro e; injection e with e1 e2 e3 e4; exact h e4), by go_num, HBx.out.drew, HSx.out.on (grown_drewN (grown_refl _ _) 1)⟩
                    case measure => simp [intOf]; omega
                · go_wp2_with fail
                  go_region_held3 (fun w' => (w'.cell? ⟨sb, so + kk * 4, none⟩ = some (.string dop) ∧ w'.cell? ⟨sb, so + kk * 4 + 1, none⟩ = some (.int .i64 da) ∧ w'.cell? ⟨sb, so + kk * 4 + 2, none⟩ = some (.int .i64 db) ∧ w'.cell? ⟨sb, so + kk * 4 + 3, none⟩ = some (.int .i64 dk)) ∧ (w'.cell? ⟨g, 0, none⟩ = some (.string dop) ∧ w'.cell? ⟨g, 1, none⟩ = some (.int .i64 da) ∧ w'.cell? ⟨g, 2, none⟩ = some (.int .i64 db) ∧ w'.cell? ⟨g, 3, none⟩ = some (.int .i64 dk))) (exact ⟨⟨p0, p1, p2, p3⟩, x0, x1, x2, x3⟩) (fail)
                  all_goals
                    generalize hw8 : World.drew wr = w8
                    have HS8 := shade (show ShO w w8 F i (.slice _ (shS F i).1.length c4) (.slice _ i c5) by rw [← hw8]; exact HSx.out.on (grown_drewN (grown_refl _ _) 1))
                    have hB8 : Holds5 w8 g 43 #[.string dop, .int .i64 da, .int .i64 db, .int .i64 dk] := by rw [← hw8]; exact HBx.out.drew
                    have x0 := hB8.look 0; have x1 := hB8.look 1; have x2 := hB8.look 2; have x3 := hB8.look 3
                    simp at x0 x1 x2 x3
                    have hz := firstW_here hkk HFE.out
                    have hfl : firstW (shS F i).1 ⟨dop, da, db, dk⟩ < (shS F i).1.length := by omega
                    have HNX := shade (fun w2 u2 p2 hg => ShO.old (w2 := w2) (u2 := u2) HS8.out (by rw [HMV2.out]; exact hfl) p2 hg)
                    rw [HMV2.out, hz] at HNX
                    go_wp2_with (first
                      | (at_builtin; refine wpList_append_own _ rfl _ _ 25 rfl w.heap.size 3 j0 (.int .i64 0) 1 8 Tryd.underlying25 hj0 hy0 hy1 hy2 rfl (by decide) _ _ _ rfl (World.ownsRow.alloc HS8.out.o2 _) ⟨w8.heap.size, 0, none⟩ 1 1 [.int .i64 (kk : Int)] rfl rfl (int_new _ _ _) (int_one _) (by unfold maxLen; omega) (by omega) (by have := HS8.out.low.size; simp; omega) ?_)
                      | fail)
                    intro v' w9 hown9 hgr9 hnil9
                    have H9 := shade (HNX.out w9 v' hown9 (grown_same (World.grownBy_alloc w8 (.cells #[.int .i64 (kk : Int)] 3) _) hgr9))
                    clear hown9 hgr9 hnil9 HNX
                    go_wp2_with fail
                    go_roundw
                    case rel => exact ⟨i + 1, by omega, by go_num, H9.out⟩
                    case measure => simp [intOf]; omega
              · have hfe : firstW (shS F i).1 ⟨xop, xa, xb, xk⟩ = (shS F i).1.length := by omega
                obtain rfl : kk = (shS F i).1.length := by omega
                clear hW7
                have hd : decide (((shS F i).1.length : Int) < ((shS F i).1.length : Int)) = false := decide_eq_false (by omega)
                go_wp2_with fail
                go_quiet (fail)
                all_goals
                  generalize hw8 : World.drewN wr _ = w8
                  have HS8 := shade (show ShO w w8 F i (.slice A4 (shS F i).1.length c4) (.slice _ i c5) by rw [← hw8]; exact HSx.out.on (grown_drewN (grown_refl _ _) _))
                  have hB8 : Holds5 w8 g 43 #[.string xop, .int .i64 xa, .int .i64 xb, .int .i64 xk] := by rw [← hw8]; exact HBx.out.drewN _
                  have x0 := hB8.look 0; have x1 := hB8.look 1; have x2 := hB8.look 2; have x3 := hB8.look 3
                  simp at x0 x1 x2 x3
                  have HNX := shade (fun w2 w3 w4 u1 u2 p1 hg hg3 p2 hg4 => ShO.new (w2 := w2) (w3 := w3) (w4 := w4) (u1 := u1) (u2 := u2) HS8.out (by rw [HMV2.out]; exact hfe) HMV2.out p1 hg hg3 p2 hg4)
                  go_wp2_with (first
                    | (at_builtin; refine wpList_append_own _ rfl _ _ 23 rfl w.heap.size 43 i0 (.agg #[.string ⟨#[]⟩, .int .i64 0, .int .i64 0, .int .i64 0]) 4 40 Tryd.underlying23 hi0 hz0 hz1 hz2 rfl (by decide) _ _ _ rfl (World.ownsRow.alloc HS8.out.o1 _) ⟨w8.heap.size, 0, none⟩ 1 1 [.string xop, .int .i64 xa, .int .i64 xb, .int .i64 xk] rfl rfl (cells_new4 _ _ _ _ _ _) (one_cells4 _ _ _ _) (by unfold maxLen; omega) (by omega) (by have := HS8.out.low.size; simp; omega) ?_)
                    | fail)
                  intro v8 w9 hown9 hgr9 hnil9
                  have hq9 := grown_same (World.grownBy_alloc w8 (.cells #[.string xop, .int .i64 xa, .int .i64 xb, .int .i64 xk] 43) _) hgr9
                  have HQ9 := shade hq9
                  have ho2 := kept_ty HS8.out.o1 HS8.out.o2 (by decide) hq9
                  have HP9 := shade hown9; have HO2 := shade ho2
                  have hsz := HS8.out.low.size
                  have hsz2 := hq9.size
                  obtain ⟨A8, c8, rfl, -⟩ := ownsRow_slice hown9
                  clear hown9 hgr9 hnil9 hq9 ho2 x0 x1 x2 x3
                  go_wp2_with (first
                    | (at_builtin; refine wpList_append_own _ rfl _ _ 25 rfl w.heap.size 3 j0 (.int .i64 0) 1 8 Tryd.underlying25 hj0 hy0 hy1 hy2 rfl (by decide) _ _ _ rfl (World.ownsRow.alloc HO2.out _) ⟨w9.heap.size, 0, none⟩ 1 1 [.int .i64 ((shS F i).1.length : Int)] rfl rfl (int_new _ _ _) (int_one _) (by unfold maxLen; omega) (by omega) (by simp; omega) ?_)
                    | fail)
                  intro v' w10 hown10 hgr10 hnil10
                  have H9 := shade (HNX.out w9 w9 w10 _ v' HP9.out HQ9.out (grown_refl _ _) hown10 (grown_same (World.grownBy_alloc w9 (.cells #[.int .i64 ((shS F i).1.length : Int)] 3) _) hgr10))
                  clear hown10 hgr10 hnil10 HNX HP9 HQ9 HO2
                  go_wp2_with fail
                  go_roundw
                  case rel => exact ⟨i + 1, by omega, by go_num, H9.out⟩
                  case measure => simp [intOf]; omega
        · have HMV2 := shade (show mvW (F i) (shS F i).2 = ⟨op, (ya : Int), (yb : Int), 0⟩ by rw [HCC.out, HRR.out]; exact if_neg hsw)
          rcases (show wordN op.toList = 1 ∨ wordN op.toList = 3 ∨ (wordN op.toList ≠ 1 ∧ wordN op.toList ≠ 3) by omega) with hm | hm | ⟨hm, hm3⟩
          · have e1 : (op.toList == [97, 100, 100]) = true := (word1 _).2 hm
            have hlt3 : ¬ (yb : Int) < (ya : Int) := by omega
            go_upto_region 12 with (fail)
            clear x0 x1 x2 x3 t0 t1 t2 t3 hm e1 e0 hot hsw
            have HS7 := shade (HS.out.on HG7.out)
            obtain ⟨xop, hxop⟩ : ∃ x, x = op := ⟨_, rfl⟩
            obtain ⟨xa, hxa⟩ : ∃ x : Int, x = (ya : Int) := ⟨_, rfl⟩
            obtain ⟨xb, hxb⟩ : ∃ x : Int, x = (yb : Int) := ⟨_, rfl⟩
            obtain ⟨xk, hxk⟩ : ∃ x : Int, x = 0 := ⟨_, rfl⟩
            rw [← hxop, ← hxa, ← hxb, ← hxk] at HMV2
            have HB7' : Hid (Holds5 w7 g 43 #[.string xop, .int .i64 xa, .int .i64 xb, .int .i64 xk]) := shade (by rw [hxop, hxa, hxb, hxk]; exact HB7.out)
            have hl1 := (shS_len F i).2
            clear HB7 hxop hxa hxb hxk HS
            go_wp2_with fail
            go_loopw [8] (fun q wx => ∃ kk : Nat, kk ≤ firstW (shS F i).1 ⟨xop, xa, xb, xk⟩ ∧ q = .int .i64 (kk : Int) ∧ Holds5 wx g 43 #[.string xop, .int .i64 xa, .int .i64 xb, .int .i64 xk] ∧ ShO w wx F i (.slice A4 (shS F i).1.length c4) (.slice _ i c5)) (fun q _ => (shS F i).1.length + 1 - (intOf q).toNat)
            case atStart => exact ⟨0, Nat.zero_le _, rfl, HB7'.out, HS7.out⟩
            case round =>
              clear HS7 HB7'
              obtain ⟨kk, hkk, rfl, hb, hsx⟩ := hrel
              have HBx := shade hb; have HSx := shade hsx
              obtain ⟨_, _, e7, hW7⟩ := wds_of hsx.o1
              injection e7 with e7 _ e8
              subst e7 e8
              have hf1 := firstW_le (shS F i).1 ⟨xop, xa, xb, xk⟩
              clear hb hsx
              have x0 := HBx.out.look 0; have x1 := HBx.out.look 1; have x2 := HBx.out.look 2; have x3 := HBx.out.look 3
              simp at x0 x1 x2 x3
              by_cases hkl : kk < (shS F i).1.length
              · obtain ⟨sb, so, rfl, -⟩ := hW7.resolve_left (by omega)
                obtain ⟨p0, p1, p2, p3⟩ := hW7.four hkl
                have hfe := lst_get (shS F i).1 kk hkl
                clear hW7
                generalize (shS F i).1.getD kk zWid = d at *
                obtain ⟨dop, da, db, dk⟩ := d
                simp only [] at p0 p1 p2 p3
                have HFE := shade hfe
                clear hfe
                have j1 : (kk : Int) < ((shS F i).1.length : Int) := by omega
                have j2 : (0 : Int) ≤ (kk : Int) := by omega
                have hcase : (dop ≠ xop) ∨ (dop = xop ∧ da ≠ xa) ∨ (dop = xop ∧ da = xa ∧ db ≠ xb) ∨ (dop = xop ∧ da = xa ∧ db = xb ∧ dk ≠ xk) ∨ (dop = xop ∧ da = xa ∧ db = xb ∧ dk = xk) := by
                  by_cases e1 : dop = xop <;> by_cases e2 : da = xa <;> by_cases e3 : db = xb <;> by_cases e4 : dk = xk <;> simp [e1, e2, e3, e4]
                rcases hcase with h | ⟨rfl, h⟩ | ⟨rfl, rfl, h⟩ | ⟨rfl, rfl, rfl, h⟩ | ⟨rfl, rfl, rfl, rfl⟩
                · have h1 : (dop.toList == xop.toList) = false := by
                    rw [beq_eq_false_iff_ne]
                    exact fun e => h (eq_of_toList e)
                  go_wp2_with fail
                  go_region_held3 (fun w' => (w'.cell? ⟨sb, so + kk * 4, none⟩ = some (.string dop) ∧ w'.cell? ⟨sb, so + kk * 4 + 1, none⟩ = some (.int .i64 da) ∧ w'.cell? ⟨sb, so + kk * 4 + 2, none⟩ = some (.int .i64 db) ∧ w'.cell? ⟨sb, so + kk * 4 + 3, none⟩ = some (.int .i64 dk)) ∧ (w'.cell? ⟨g, 0, none⟩ = some (.string xop) ∧ w'.cell? ⟨g, 1, none⟩ = some (.int .i64 xa) ∧ w'.cell? ⟨g, 2, none⟩ = some (.int .i64 xb) ∧ w'.cell? ⟨g, 3, none⟩ = some (.int .i64 xk))) (exact ⟨⟨p0, p1, p2, p3⟩, x0, x1, x2, x3⟩) (fail)
                  all_goals
                    go_wp2_with fail
                    go_roundw
                    case rel => exact ⟨kk + 1, firstW_next hkk HFE.out (by intro e; injection e with e1 e2 e3 e4; exact h e1), by go_num, HBx.out.drew, HSx.out.on (grown_drewN (grown_refl _ _) 1)⟩
                    case measure => simp [intOf]; omega
                · go_wp2_with fail
                  go_region_held3 (fun w' => (w'.cell? ⟨sb, so + kk * 4, none⟩ = some (.string dop) ∧ w'.cell? ⟨sb, so + kk * 4 + 1, none⟩ = some (.int .i64 da) ∧ w'.cell? ⟨sb, so + kk * 4 + 2, none⟩ = some (.int .i64 db) ∧ w'.cell? ⟨sb, so + kk * 4 + 3, none⟩ = some (.int .i64 dk)) ∧ (w'.cell? ⟨g, 0, none⟩ = some (.string dop) ∧ w'.cell? ⟨g, 1, none⟩ = some (.int .i64 xa) ∧ w'.cell? ⟨g, 2, none⟩ = some (.int .i64 xb) ∧ w'.cell? ⟨g, 3, none⟩ = some (.int .i64 xk))) (exact ⟨⟨p0, p1, p2, p3⟩, x0, x1, x2, x3⟩) (fail)
                  all_goals
                    go_wp2_with fail
                    go_roundw
                    case rel => exact ⟨kk + 1, firstW_next hkk HFE.out (by intro e; injection e with e1 e2 e3 e4; exact h e2), by go_num, HBx.out.drew, HSx.out.on (grown_drewN (grown_refl _ _) 1)⟩
                    case measure => simp [intOf]; omega
                · go_wp2_with fail
                  go_region_held3 (fun w' => (w'.cell? ⟨sb, so + kk * 4, none⟩ = some (.string dop) ∧ w'.cell? ⟨sb, so + kk * 4 + 1, none⟩ = some (.int .i64 da) ∧ w'.cell? ⟨sb, so + kk * 4 + 2, none⟩ = some (.int .i64 db) ∧ w'.cell? ⟨sb, so + kk * 4 + 3, none⟩ = some (.int .i64 dk)) ∧ (w'.cell? ⟨g, 0, none⟩ = some (.string dop) ∧ w'.cell? ⟨g, 1, none⟩ = some (.int .i64 da) ∧ w'.cell? ⟨g, 2, none⟩ = some (.int .i64 xb) ∧ w'.cell? ⟨g, 3, none⟩ = some (.int .i64 xk))) (exact ⟨⟨p0, p1, p2, p3⟩, x0, x1, x2, x3⟩) (fail)
                  all_goals
                    go_wp2_with fail
                    go_roundw
                    case rel => exact ⟨kk + 1, firstW_next hkk HFE.out (by intro e; injection e with e1 e2 e3 e4; exact h e3), by go_num, HBx.out.drew, HSx.out.on (grown_drewN (grown_refl _ _) 1)⟩
                    case measure => simp [intOf]; omega
                · go_wp2_with fail
                  go_region_held3 (fun w' => (w'.cell? ⟨sb, so + kk * 4, none⟩ = some (.string dop) ∧ w'.cell? ⟨sb, so + kk * 4 + 1, none⟩ = some (.int .i64 da) ∧ w'.cell? ⟨sb, so + kk * 4 + 2, none⟩ = some (.int .i64 db) ∧ w'.cell? ⟨sb, so + kk * 4 + 3, none⟩ = some (.int .i64 dk)) ∧ (w'.cell? ⟨g, 0, none⟩ = some (.string dop) ∧ w'.cell? ⟨g, 1, none⟩ = some (.int .i64 da) ∧ w'.cell? ⟨g, 2, none⟩ = some (.int .i64 db) ∧ w'.cell? ⟨g, 3, none⟩ = some (.int .i64 xk))) (exact ⟨⟨p0, p1, p2, p3⟩, x0, x1, x2, x3⟩) (fail)
                  all_goals
                    go_wp2_with fail
                    go_roundw
                    case rel => exact ⟨kk + 1, firstW_next hkk HFE.out (by intro e; injection e with e1 e2 e3 e4; exact h e4), by go_num, HBx.out.drew, HSx.out.on (grown_drewN (grown_refl _ _) 1)⟩
                    case measure => simp [intOf]; omega
                · go_wp2_with fail
                  go_region_held3 (fun w' => (w'.cell? ⟨sb, so + kk * 4, none⟩ = some (.string dop) ∧ w'.cell? ⟨sb, so + kk * 4 + 1, none⟩ = some (.int .i64 da) ∧ w'.cell? ⟨sb, so + kk * 4 + 2, none⟩ = some (.int .i64 db) ∧ w'.cell? ⟨sb, so + kk * 4 + 3, none⟩ = some (.int .i64 dk)) ∧ (w'.cell? ⟨g, 0, none⟩ = some (.string dop) ∧ w'.cell? ⟨g, 1, none⟩ = some (.int .i64 da) ∧ w'.cell? ⟨g, 2, none⟩ = some (.int .i64 db) ∧ w'.cell? ⟨g, 3, none⟩ = some (.int .i64 dk))) (exact ⟨⟨p0, p1, p2, p3⟩, x0, x1, x2, x3⟩) (fail)
                  all_goals
                    generalize hw8 : World.drew wr = w8
                    have HS8 := shade (show ShO w w8 F i (.slice _ (shS F i).1.length c4) (.slice _ i c5) by rw [← hw8]; exact HSx.out.on (grown_drewN (grown_refl _ _) 1))
                    have hB8 : Holds5 w8 g 43 #[.string dop, .int .i64 da, .int .i64 db, .int .i64 dk] := by rw [← hw8]; exact HBx.out.drew
                    have x0 := hB8.look 0; have x1 := hB8.look 1; have x2 := hB8.look 2; have x3 := hB8.look 3
                    simp at x0 x1 x2 x3
                    have hz := firstW_here hkk HFE.out
                    have hfl : firstW (shS F i).1 ⟨dop, da, db, dk⟩ < (shS F i).1.length := by omega
                    have HNX := shade (fun w2 u2 p2 hg => ShO.old (w2 := w2) (u2 := u2) HS8.out (by rw [HMV2.out]; exact hfl) p2 hg)
                    rw [HMV2.out, hz] at HNX
                    go_wp2_with (first
                      | (at_builtin; refine wpList_append_own _ rfl _ _ 25 rfl w.heap.size 3 j0 (.int .i64 0) 1 8 Tryd.underlying25 hj0 hy0 hy1 hy2 rfl (by decide) _ _ _ rfl (World.ownsRow.alloc HS8.out.o2 _) ⟨w8.heap.size, 0, none⟩ 1 1 [.int .i64 (kk : Int)] rfl rfl (int_new _ _ _) (int_one _) (by unfold maxLen; omega) (by omega) (by have := HS8.out.low.size; simp; omega) ?_)
                      | fail)
                    intro v' w9 hown9 hgr9 hnil9
                    have H9 := shade (HNX.out w9 v' hown9 (grown_same (World.grownBy_alloc w8 (.cells #[.int .i64 (kk : Int)] 3) _) hgr9))
                    clear hown9 hgr9 hnil9 HNX
                    go_wp2_with fail
                    go_roundw
                    case rel => exact ⟨i + 1, by omega, by go_num, H9.out⟩
                    case measure => simp [intOf]; omega
              · have hfe : firstW (shS F i).1 ⟨xop, xa, xb, xk⟩ = (shS F i).1.length := by omega
                obtain rfl : kk = (shS F i).1.length := by omega
                clear hW7
                have hd : decide (((shS F i).1.length : Int) < ((shS F i).1.length : Int)) = false := decide_eq_false (by omega)
                go_wp2_with fail
                go_quiet (fail)
                all_goals
                  generalize hw8 : World.drewN wr _ = w8
                  have HS8 := shade (show ShO w w8 F i (.slice A4 (shS F i).1.length c4) (.slice _ i c5) by rw [← hw8]; exact HSx.out.on (grown_drewN (grown_refl _ _) _))
                  have hB8 : Holds5 w8 g 43 #[.string xop, .int .i64 xa, .int .i64 xb, .int .i64 xk] := by rw [← hw8]; exact HBx.out.drewN _
                  have x0 := hB8.look 0; have x1 := hB8.look 1; have x2 := hB8.look 2; have x3 := hB8.look 3
                  simp at x0 x1 x2 x3
                  have HNX := shade (fun w2 w3 w4 u1 u2 p1 hg hg3 p2 hg4 => ShO.new (w2 := w2) (w3 := w3) (w4 := w4) (u1 := u1) (u2 := u2) HS8.out (by rw [HMV2.out]; exact hfe) HMV2.out p1 hg hg3 p2 hg4)
                  go_wp2_with (first
                    | (at_builtin; refine wpList_append_own _ rfl _ _ 23 rfl w.heap.size 43 i0 (.agg #[.string ⟨#[]⟩, .int .i64 0, .int .i64 0, .int .i64 0]) 4 40 Tryd.underlying23 hi0 hz0 hz1 hz2 rfl (by decide) _ _ _ rfl (World.ownsRow.alloc HS8.out.o1 _) ⟨w8.heap.size, 0, none⟩ 1 1 [.string xop, .int .i64 xa, .int .i64 xb, .int .i64 xk] rfl rfl (cells_new4 _ _ _ _ _ _) (one_cells4 _ _ _ _) (by unfold maxLen; omega) (by omega) (by have := HS8.out.low.size; simp; omega) ?_)
                    | fail)
                  intro v8 w9 hown9 hgr9 hnil9
                  have hq9 := grown_same (World.grownBy_alloc w8 (.cells #[.string xop, .int .i64 xa, .int .i64 xb, .int .i64 xk] 43) _) hgr9
                  have HQ9 := shade hq9
                  have ho2 := kept_ty HS8.out.o1 HS8.out.o2 (by decide) hq9
                  have HP9 := shade hown9; have HO2 := shade ho2
                  have hsz := HS8.out.low.size
                  have hsz2 := hq9.size
                  obtain ⟨A8, c8, rfl, -⟩ := ownsRow_slice hown9
                  clear hown9 hgr9 hnil9 hq9 ho2 x0 x1 x2 x3
                  go_wp2_with (first
                    | (at_builtin; refine wpList_append_own _ rfl _ _ 25 rfl w.heap.size 3 j0 (.int .i64 0) 1 8 Tryd.underlying25 hj0 hy0 hy1 hy2 rfl (by decide) _ _ _ rfl (World.ownsRow.alloc HO2.out _) ⟨w9.heap.size, 0, none⟩ 1 1 [.int .i64 ((shS F i).1.length : Int)] rfl rfl (int_new _ _ _) (int_one _) (by unfold maxLen; omega) (by omega) (by simp; omega) ?_)
                    | fail)
                  intro v' w10 hown10 hgr10 hnil10
                  have H9 := shade (HNX.out w9 w9 w10 _ v' HP9.out HQ9.out (grown_refl _ _) hown10 (grown_same (World.grownBy_alloc w9 (.cells #[.int .i64 ((shS F i).1.length : Int)] 3) _) hgr10))
                  clear hown10 hgr10 hnil10 HNX HP9 HQ9 HO2
                  go_wp2_with fail
                  go_roundw
                  case rel => exact ⟨i + 1, by omega, by go_num, H9.out⟩
                  case measure => simp [intOf]; omega
          · have e1 : (op.toList == [97, 100, 100]) = false := by rw [Bool.eq_false_iff]; exact fun h => by have := (word1 _).1 h; omega
            have e3 : (op.toList == [109, 117, 108]) = true := (word3 _).2 hm
            have hlt3 : ¬ (yb : Int) < (ya : Int) := by omega
            go_upto_region 12 with (fail)
            clear x0 x1 x2 x3 t0 t1 t2 t3 hm e1 e0 hot hsw
            have HS7 := shade (HS.out.on HG7.out)
            obtain ⟨xop, hxop⟩ : ∃ x, x = op := ⟨_, rfl⟩
            obtain ⟨xa, hxa⟩ : ∃ x : Int, x = (ya : Int) := ⟨_, rfl⟩
            obtain ⟨xb, hxb⟩ : ∃ x : Int, x = (yb : Int) := ⟨_, rfl⟩
            obtain ⟨xk, hxk⟩ : ∃ x : Int, x = 0 := ⟨_, rfl⟩
            rw [← hxop, ← hxa, ← hxb, ← hxk] at HMV2
            have HB7' : Hid (Holds5 w7 g 43 #[.string xop, .int .i64 xa, .int .i64 xb, .int .i64 xk]) := shade (by rw [hxop, hxa, hxb, hxk]; exact HB7.out)
            have hl1 := (shS_len F i).2
            clear HB7 hxop hxa hxb hxk HS
            go_wp2_with fail
            go_loopw [8] (fun q wx => ∃ kk : Nat, kk ≤ firstW (shS F i).1 ⟨xop, xa, xb, xk⟩ ∧ q = .int .i64 (kk : Int) ∧ Holds5 wx g 43 #[.string xop, .int .i64 xa, .int .i64 xb, .int .i64 xk] ∧ ShO w wx F i (.slice A4 (shS F i).1.length c4) (.slice _ i c5)) (fun q _ => (shS F i).1.length + 1 - (intOf q).toNat)
            case atStart => exact ⟨0, Nat.zero_le _, rfl, HB7'.out, HS7.out⟩
            case round =>
              clear HS7 HB7'
              obtain ⟨kk, hkk, rfl, hb, hsx⟩ := hrel
              have HBx := shade hb; have HSx := shade hsx
              obtain ⟨_, _, e7, hW7⟩ := wds_of hsx.o1
              injection e7 with e7 _ e8
              subst e7 e8
              have hf1 := firstW_le (shS F i).1 ⟨xop, xa, xb, xk⟩
              clear hb hsx
              have x0 := HBx.out.look 0; have x1 := HBx.out.look 1; have x2 := HBx.out.look 2; have x3 := HBx.out.look 3
              simp at x0 x1 x2 x3
              by_cases hkl : kk < (shS F i).1.length
              · obtain ⟨sb, so, rfl, -⟩ := hW7.resolve_left (by omega)
                obtain ⟨p0, p1, p2, p3⟩ := hW7.four hkl
                have hfe := lst_get (shS F i).1 kk hkl
                clear hW7
                generalize (shS F i).1.getD kk zWid = d at *
                obtain ⟨dop, da, db, dk⟩ := d
                simp only [] at p0 p1 p2 p3
                have HFE := shade hfe
                clear hfe
                have j1 : (kk : Int) < ((shS F i).1.length : Int) := by omega
                have j2 : (0 : Int) ≤ (kk : Int) := by omega
                have hcase : (dop ≠ xop) ∨ (dop = xop ∧ da ≠ xa) ∨ (dop = xop ∧ da = xa ∧ db ≠ xb) ∨ (dop = xop ∧ da = xa ∧ db = xb ∧ dk ≠ xk) ∨ (dop = xop ∧ da = xa ∧ db = xb ∧ dk = xk) := by
                  by_cases e1 : dop = xop <;> by_cases e2 : da = xa <;> by_cases e3 : db = xb <;> by_cases e4 : dk = xk <;> simp [e1, e2, e3, e4]
                rcases hcase with h | ⟨rfl, h⟩ | ⟨rfl, rfl, h⟩ | ⟨rfl, rfl, rfl, h⟩ | ⟨rfl, rfl, rfl, rfl⟩
                · have h1 : (dop.toList == xop.toList) = false := by
                    rw [beq_eq_false_iff_ne]
                    exact fun e => h (eq_of_toList e)
                  go_wp2_with fail
                  go_region_held3 (fun w' => (w'.cell? ⟨sb, so + kk * 4, none⟩ = some (.string dop) ∧ w'.cell? ⟨sb, so + kk * 4 + 1, none⟩ = some (.int .i64 da) ∧ w'.cell? ⟨sb, so + kk * 4 + 2, none⟩ = some (.int .i64 db) ∧ w'.cell? ⟨sb, so + kk * 4 + 3, none⟩ = some (.int .i64 dk)) ∧ (w'.cell? ⟨g, 0, none⟩ = some (.string xop) ∧ w'.cell? ⟨g, 1, none⟩ = some (.int .i64 xa) ∧ w'.cell? ⟨g, 2, none⟩ = some (.int .i64 xb) ∧ w'.cell? ⟨g, 3, none⟩ = some (.int .i64 xk))) (exact ⟨⟨p0, p1, p2, p3⟩, x0, x1, x2, x3⟩) (fail)
                  all_goals
                    go_wp2_with fail
                    go_roundw
                    case rel => exact ⟨kk + 1, firstW_next hkk HFE.out (by intro e; injection e with e1 e2 e3 e4; exact h e1), by go_num, HBx.out.drew, HSx.out.on (grown_drewN (grown_refl _ _) 1)⟩
                    case measure => simp [intOf]; omega
                · go_wp2_with fail
                  go_region_held3 (fun w' => (w'.cell? ⟨sb, so + kk * 4, none⟩ = some (.string dop) ∧ w'.cell? ⟨sb, so + kk * 4 + 1, none⟩ = some (.int .i64 da) ∧ w'.cell? ⟨sb, so + kk * 4 + 2, none⟩ = some (.int .i64 db) ∧ w'.cell? ⟨sb, so + kk * 4 + 3, none⟩ = some (.int .i64 dk)) ∧ (w'.cell? ⟨g, 0, none⟩ = some (.string dop) ∧ w'.cell? ⟨g, 1, none⟩ = some (.int .i64 xa) ∧ w'.cell? ⟨g, 2, none⟩ = some (.int .i64 xb) ∧ w'.cell? ⟨g, 3, none⟩ = some (.int .i64 xk))) (exact ⟨⟨p0, p1, p2, p3⟩, x0, x1, x2, x3⟩) (fail)
                  all_goals
                    go_wp2_with fail
                    go_roundw
                    case rel => exact ⟨kk + 1, firstW_next hkk HFE.out (by intro e; injection e with e1 e2 e3 e4; exact h e2), by go_num, HBx.out.drew, HSx.out.on (grown_drewN (grown_refl _ _) 1)⟩
                    case measure => simp [intOf]; omega
                · go_wp2_with fail
                  go_region_held3 (fun w' => (w'.cell? ⟨sb, so + kk * 4, none⟩ = some (.string dop) ∧ w'.cell? ⟨sb, so + kk * 4 + 1, none⟩ = some (.int .i64 da) ∧ w'.cell? ⟨sb, so + kk * 4 + 2, none⟩ = some (.int .i64 db) ∧ w'.cell? ⟨sb, so + kk * 4 + 3, none⟩ = some (.int .i64 dk)) ∧ (w'.cell? ⟨g, 0, none⟩ = some (.string dop) ∧ w'.cell? ⟨g, 1, none⟩ = some (.int .i64 da) ∧ w'.cell? ⟨g, 2, none⟩ = some (.int .i64 xb) ∧ w'.cell? ⟨g, 3, none⟩ = some (.int .i64 xk))) (exact ⟨⟨p0, p1, p2, p3⟩, x0, x1, x2, x3⟩) (fail)
                  all_goals
                    go_wp2_with fail
                    go_roundw
                    case rel => exact ⟨kk + 1, firstW_next hkk HFE.out (by intro e; injection e with e1 e2 e3 e4; exact h e3), by go_num, HBx.out.drew, HSx.out.on (grown_drewN (grown_refl _ _) 1)⟩
                    case measure => simp [intOf]; omega
                · go_wp2_with fail
                  go_region_held3 (fun w' => (w'.cell? ⟨sb, so + kk * 4, none⟩ = some (.string dop) ∧ w'.cell? ⟨sb, so + kk * 4 + 1, none⟩ = some (.int .i64 da) ∧ w'.cell? ⟨sb, so + kk * 4 + 2, none⟩ = some (.int .i64 db) ∧ w'.cell? ⟨sb, so + kk * 4 + 3, none⟩ = some (.int .i64 dk)) ∧ (w'.cell? ⟨g, 0, none⟩ = some (.string dop) ∧ w'.cell? ⟨g, 1, none⟩ = some (.int .i64 da) ∧ w'.cell? ⟨g, 2, none⟩ = some (.int .i64 db) ∧ w'.cell? ⟨g, 3, none⟩ = some (.int .i64 xk))) (exact ⟨⟨p0, p1, p2, p3⟩, x0, x1, x2, x3⟩) (fail)
                  all_goals
                    go_wp2_with fail
                    go_roundw
                    case rel => exact ⟨kk + 1, firstW_next hkk HFE.out (by intro e; injection e with e1 e2 e3 e4; exact h e4), by go_num, HBx.out.drew, HSx.out.on (grown_drewN (grown_refl _ _) 1)⟩
                    case measure => simp [intOf]; omega
                · go_wp2_with fail
                  go_region_held3 (fun w' => (w'.cell? ⟨sb, so + kk * 4, none⟩ = some (.string dop) ∧ w'.cell? ⟨sb, so + kk * 4 + 1, none⟩ = some (.int .i64 da) ∧ w'.cell? ⟨sb, so + kk * 4 + 2, none⟩ = some (.int .i64 db) ∧ w'.cell? ⟨sb, so + kk * 4 + 3, none⟩ = some (.int .i64 dk)) ∧ (w'.cell? ⟨g, 0, none⟩ = some (.string dop) ∧ w'.cell? ⟨g, 1, none⟩ = some (.int .i64 da) ∧ w'.cell? ⟨g, 2, none⟩ = some (.int .i64 db) ∧ w'.cell? ⟨g, 3, none⟩ = some (.int .i64 dk))) (exact ⟨⟨p0, p1, p2, p3⟩, x0, x1, x2, x3⟩) (fail)
                  all_goals
                    generalize hw8 : World.drew wr = w8
                    have HS8 := shade (show ShO w w8 F i (.slice _ (shS F i).1.length c4) (.slice _ i c5) by rw [← hw8]; exact HSx.out.on (grown_drewN (grown_refl _ _) 1))
                    have hB8 : Holds5 w8 g 43 #[.string dop, .int .i64 da, .int .i64 db, .int .i64 dk] := by rw [← hw8]; exact HBx.out.drew
                    have x0 := hB8.look 0; have x1 := hB8.look 1; have x2 := hB8.look 2; have x3 := hB8.look 3
                    simp at x0 x1 x2 x3
                    have hz := firstW_here hkk HFE.out
                    have hfl : firstW (shS F i).1 ⟨dop, da, db, dk⟩ < (shS F i).1.length := by omega
                    have HNX := shade (fun w2 u2 p2 hg => ShO.old (w2 := w2) (u2 := u2) HS8.out (by rw [HMV2.out]; exact hfl) p2 hg)
                    rw [HMV2.out, hz] at HNX
                    go_wp2_with (first
                      | (at_builtin; refine wpList_append_own _ rfl _ _ 25 rfl w.heap.size 3 j0 (.int .i64 0) 1 8 Tryd.underlying25 hj0 hy0 hy1 hy2 rfl (by decide) _ _ _ rfl (World.ownsRow.alloc HS8.out.o2 _) ⟨w8.heap.size, 0, none⟩ 1 1 [.int .i64 (kk : Int)] rfl rfl (int_new _ _ _) (int_one _) (by unfold maxLen; omega) (by omega) (by have := HS8.out.low.size; simp; omega) ?_)
                      | fail)
                    intro v' w9 hown9 hgr9 hnil9
                    have H9 := shade (HNX.out w9 v' hown9 (grown_same (World.grownBy_alloc w8 (.cells #[.int .i64 (kk : Int)] 3) _) hgr9))
                    clear hown9 hgr9 hnil9 HNX
                    go_wp2_with fail
                    go_roundw
                    case rel => exact ⟨i + 1, by omega, by go_num, H9.out⟩
                    case measure => simp [intOf]; omega
              · have hfe : firstW (shS F i).1 ⟨xop, xa, xb, xk⟩ = (shS F i).1.length := by omega
                obtain rfl : kk = (shS F i).1.length := by omega
                clear hW7
                have hd : decide (((shS F i).1.length : Int) < ((shS F i).1.length : Int)) = false := decide_eq_false (by omega)
                go_wp2_with fail
                go_quiet (fail)
                all_goals
                  generalize hw8 : World.drewN wr _ = w8
                  have HS8 := shade (show ShO w w8 F i (.slice A4 (shS F i).1.length c4) (.slice _ i c5) by rw [← hw8]; exact HSx.out.on (grown_drewN (grown_refl _ _) _))
                  have hB8 : Holds5 w8 g 43 #[.string xop, .int .i64 xa, .int .i64 xb, .int .i64 xk] := by rw [← hw8]; exact HBx.out.drewN _
                  have x0 := hB8.look 0; have x1 := hB8.look 1; have x2 := hB8.look 2; have x3 := hB8.look 3
                  simp at x0 x1 x2 x3
                  have HNX := shade (fun w2 w3 w4 u1 u2 p1 hg hg3 p2 hg4 => ShO.new (w2 := w2) (w3 := w3) (w4 := w4) (u1 := u1) (u2 := u2) HS8.out (by rw [HMV2.out]; exact hfe) HMV2.out p1 hg hg3 p2 hg4)
                  go_wp2_with (first
                    | (at_builtin; refine wpList_append_own _ rfl _ _ 23 rfl w.heap.size 43 i0 (.agg #[.string ⟨#[]⟩, .int .i64 0, .int .i64 0, .int .i64 0]) 4 40 Tryd.underlying23 hi0 hz0 hz1 hz2 rfl (by decide) _ _ _ rfl (World.ownsRow.alloc HS8.out.o1 _) ⟨w8.heap.size, 0, none⟩ 1 1 [.string xop, .int .i64 xa, .int .i64 xb, .int .i64 xk] rfl rfl (cells_new4 _ _ _ _ _ _) (one_cells4 _ _ _ _) (by unfold maxLen; omega) (by omega) (by have := HS8.out.low.size; simp; omega) ?_)
                    | fail)
                  intro v8 w9 hown9 hgr9 hnil9
                  have hq9 := grown_same (World.grownBy_alloc w8 (.cells #[.string xop, .int .i64 xa, .int .i64 xb, .int .i64 xk] 43) _) hgr9
                  have HQ9 := shade hq9
                  have ho2 := kept_ty HS8.out.o1 HS8.out.o2 (by decide) hq9
                  have HP9 := shade hown9; have HO2 := shade ho2
                  have hsz := HS8.out.low.size
                  have hsz2 := hq9.size
                  obtain ⟨A8, c8, rfl, -⟩ := ownsRow_slice hown9
                  clear hown9 hgr9 hnil9 hq9 ho2 x0 x1 x2 x3
                  go_wp2_with (first
                    | (at_builtin; refine wpList_append_own _ rfl _ _ 25 rfl w.heap.size 3 j0 (.int .i64 0) 1 8 Tryd.underlying25 hj0 hy0 hy1 hy2 rfl (by decide) _ _ _ rfl (World.ownsRow.alloc HO2.out _) ⟨w9.heap.size, 0, none⟩ 1 1 [.int .i64 ((shS F i).1.length : Int)] rfl rfl (int_new _ _ _) (int_one _) (by unfold maxLen; omega) (by omega) (by simp; omega) ?_)
                    | fail)
                  intro v' w10 hown10 hgr10 hnil10
                  have H9 := shade (HNX.out w9 w9 w10 _ v' HP9.out HQ9.out (grown_refl _ _) hown10 (grown_same (World.grownBy_alloc w9 (.cells #[.int .i64 ((shS F i).1.length : Int)] 3) _) hgr10))
                  clear hown10 hgr10 hnil10 HNX HP9 HQ9 HO2
                  go_wp2_with fail
                  go_roundw
                  case rel => exact ⟨i + 1, by omega, by go_num, H9.out⟩
                  case measure => simp [intOf]; omega
          · have e1 : (op.toList == [97, 100, 100]) = false := by rw [Bool.eq_false_iff]; exact fun h => hm ((word1 _).1 h)
            have e3 : (op.toList == [109, 117, 108]) = false := by rw [Bool.eq_false_iff]; exact fun h => hm3 ((word3 _).1 h)
            go_upto_region 12 with (fail)
            clear x0 x1 x2 x3 t0 t1 t2 t3 hm e1 e0 hot hsw
            have HS7 := shade (HS.out.on HG7.out)
            obtain ⟨xop, hxop⟩ : ∃ x, x = op := ⟨_, rfl⟩
            obtain ⟨xa, hxa⟩ : ∃ x : Int, x = (ya : Int) := ⟨_, rfl⟩
            obtain ⟨xb, hxb⟩ : ∃ x : Int, x = (yb : Int) := ⟨_, rfl⟩
            obtain ⟨xk, hxk⟩ : ∃ x : Int, x = 0 := ⟨_, rfl⟩
            rw [← hxop, ← hxa, ← hxb, ← hxk] at HMV2
            have HB7' : Hid (Holds5 w7 g 43 #[.string xop, .int .i64 xa, .int .i64 xb, .int .i64 xk]) := shade (by rw [hxop, hxa, hxb, hxk]; exact HB7.out)
            have hl1 := (shS_len F i).2
            clear HB7 hxop hxa hxb hxk HS
            go_wp2_with fail
            go_loopw [8] (fun q wx => ∃ kk : Nat, kk ≤ firstW (shS F i).1 ⟨xop, xa, xb, xk⟩ ∧ q = .int .i64 (kk : Int) ∧ Holds5 wx g 43 #[.string xop, .int .i64 xa, .int .i64 xb, .int .i64 xk] ∧ ShO w wx F i (.slice A4 (shS F i).1.length c4) (.slice _ i c5)) (fun q _ => (shS F i).1.length + 1 - (intOf q).toNat)
            case atStart => exact ⟨0, Nat.zero_le _, rfl, HB7'.out, HS7.out⟩
            case round =>
              clear HS7 HB7'
              obtain ⟨kk, hkk, rfl, hb, hsx⟩ := hrel
              have HBx := shade hb; have HSx := shade hsx
              obtain ⟨_, _, e7, hW7⟩ := wds_of hsx.o1
              injection e7 with e7 _ e8
              subst e7 e8
              have hf1 := firstW_le (shS F i).1 ⟨xop, xa, xb, xk⟩
              clear hb hsx
              have x0 := HBx.out.look 0; have x1 := HBx.out.look 1; have x2 := HBx.out.look 2; have x3 := HBx.out.look 3
              simp at x0 x1 x2 x3
              by_cases hkl : kk < (shS F i).1.length
              · obtain ⟨sb, so, rfl, -⟩ := hW7.resolve_left (by omega)
                obtain ⟨p0, p1, p2, p3⟩ := hW7.four hkl
                have hfe := lst_get (shS F i).1 kk hkl
                clear hW7
                generalize (shS F i).1.getD kk zWid = d at *
                obtain ⟨dop, da, db, dk⟩ := d
                simp only [] at p0 p1 p2 p3
                have HFE := shade hfe
                clear hfe
                have j1 : (kk : Int) < ((shS F i).1.length : Int) := by omega
                have j2 : (0 : Int) ≤ (kk : Int) := by omega
                have hcase : (dop ≠ xop) ∨ (dop = xop ∧ da ≠ xa) ∨ (dop = xop ∧ da = xa ∧ db ≠ xb) ∨ (dop = xop ∧ da = xa ∧ db = xb ∧ dk ≠ xk) ∨ (dop = xop ∧ da = xa ∧ db = xb ∧ dk = xk) := by
                  by_cases e1 : dop = xop <;> by_cases e2 : da = xa <;> by_cases e3 : db = xb <;> by_cases e4 : dk = xk <;> simp [e1, e2, e3, e4]
                rcases hcase with h | ⟨rfl, h⟩ | ⟨rfl, rfl, h⟩ | ⟨rfl, rfl, rfl, h⟩ | ⟨rfl, rfl, rfl, rfl⟩
                · have h1 : (dop.toList == xop.toList) = false := by
                    rw [beq_eq_false_iff_ne]
                    exact fun e => h (eq_of_toList e)
                  go_wp2_with fail
                  go_region_held3 (fun w' => (w'.cell? ⟨sb, so + kk * 4, none⟩ = some (.string dop) ∧ w'.cell? ⟨sb, so + kk * 4 + 1, none⟩ = some (.int .i64 da) ∧ w'.cell? ⟨sb, so + kk * 4 + 2, none⟩ = some (.int .i64 db) ∧ w'.cell? ⟨sb, so + kk * 4 + 3, none⟩ = some (.int .i64 dk)) ∧ (w'.cell? ⟨g, 0, none⟩ = some (.string xop) ∧ w'.cell? ⟨g, 1, none⟩ = some (.int .i64 xa) ∧ w'.cell? ⟨g, 2, none⟩ = some (.int .i64 xb) ∧ w'.cell? ⟨g, 3, none⟩ = some (.int .i64 xk))) (exact ⟨⟨p0, p1, p2, p3⟩, x0, x1, x2, x3⟩) (fail)
                  all_goals
                    go_wp2_with fail
                    go_roundw
                    case rel => exact ⟨kk + 1, firstW_next hkk HFE.out (by intro e; injection e with e1 e2 e3 e4; exact h e1), by go_num, HBx.out.drew, HSx.out.on (grown_drewN (grown_refl _ _) 1)⟩
                    case measure => simp [intOf]; omega
                · go_wp2_with fail
                  go_region_held3 (fun w' => (w'.cell? ⟨sb, so + kk * 4, none⟩ = some (.string dop) ∧ w'.cell? ⟨sb, so + kk * 4 + 1, none⟩ = some (.int .i64 da) ∧ w'.cell? ⟨sb, so + kk * 4 + 2, none⟩ = some (.int .i64 db) ∧ w'.cell? ⟨sb, so + kk * 4 + 3, none⟩ = some (.int .i64 dk)) ∧ (w'.cell? ⟨g, 0, none⟩ = some (.string dop) ∧ w'.cell? ⟨g, 1, none⟩ = some (.int .i64 xa) ∧ w'.cell? ⟨g, 2, none⟩ = some (.int .i64 xb) ∧ w'.cell? ⟨g, 3, none⟩ = some (.int .i64 xk))) (exact ⟨⟨p0, p1, p2, p3⟩, x0, x1, x2, x3⟩) (fail)
                  all_goals
                    go_wp2_with fail
                    go_roundw
                    case rel => exact ⟨kk + 1, firstW_next hkk HFE.out (by intro e; injection e with e1 e2 e3 e4; exact h e2), by go_num, HBx.out.drew, HSx.out.on (grown_drewN (grown_refl _ _) 1)⟩
                    case measure => simp [intOf]; omega
                · go_wp2_with fail
                  go_region_held3 (fun w' => (w'.cell? ⟨sb, so + kk * 4, none⟩ = some (.string dop) ∧ w'.cell? ⟨sb, so + kk * 4 + 1, none⟩ = some (.int .i64 da) ∧ w'.cell? ⟨sb, so + kk * 4 + 2, none⟩ = some (.int .i64 db) ∧ w'.cell? ⟨sb, so + kk * 4 + 3, none⟩ = some (.int .i64 dk)) ∧ (w'.cell? ⟨g, 0, none⟩ = some (.string dop) ∧ w'.cell? ⟨g, 1, none⟩ = some (.int .i64 da) ∧ w'.cell? ⟨g, 2, none⟩ = some (.int .i64 xb) ∧ w'.cell? ⟨g, 3, none⟩ = some (.int .i64 xk))) (exact ⟨⟨p0, p1, p2, p3⟩, x0, x1, x2, x3⟩) (fail)
                  all_goals
                    go_wp2_with fail
                    go_roundw
                    case rel => exact ⟨kk + 1, firstW_next hkk HFE.out (by intro e; injection e with e1 e2 e3 e4; exact h e3), by go_num, HBx.out.drew, HSx.out.on (grown_drewN (grown_refl _ _) 1)⟩
                    case measure => simp [intOf]; omega
                · go_wp2_with fail
                  go_region_held3 (fun w' => (w'.cell? ⟨sb, so + kk * 4, none⟩ = some (.string dop) ∧ w'.cell? ⟨sb, so + kk * 4 + 1, none⟩ = some (.int .i64 da) ∧ w'.cell? ⟨sb, so + kk * 4 + 2, none⟩ = some (.int .i64 db) ∧ w'.cell? ⟨sb, so + kk * 4 + 3, none⟩ = some (.int .i64 dk)) ∧ (w'.cell? ⟨g, 0, none⟩ = some (.string dop) ∧ w'.cell? ⟨g, 1, none⟩ = some (.int .i64 da) ∧ w'.cell? ⟨g, 2, none⟩ = some (.int .i64 db) ∧ w'.cell? ⟨g, 3, none⟩ = some (.int .i64 xk))) (exact ⟨⟨p0, p1, p2, p3⟩, x0, x1, x2, x3⟩) (fail)
                  all_goals
                    go_wp2_with fail
                    go_roundw
                    case rel => exact ⟨kk + 1, firstW_next hkk HFE.out (by intro e; injection e with e1 e2 e3 e4; exact h e4), by go_num, HBx.out.drew, HSx.out.on (grown_drewN (grown_refl _ _) 1)⟩
                    case measure => simp [intOf]; omega
                · go_wp2_with fail
                  go_region_held3 (fun w' => (w'.cell? ⟨sb, so + kk * 4, none⟩ = some (.string dop) ∧ w'.cell? ⟨sb, so + kk * 4 + 1, none⟩ = some (.int .i64 da) ∧ w'.cell? ⟨sb, so + kk * 4 + 2, none⟩ = some (.int .i64 db) ∧ w'.cell? ⟨sb, so + kk * 4 + 3, none⟩ = some (.int .i64 dk)) ∧ (w'.cell? ⟨g, 0, none⟩ = some (.string dop) ∧ w'.cell? ⟨g, 1, none⟩ = some (.int .i64 da) ∧ w'.cell? ⟨g, 2, none⟩ = some (.int .i64 db) ∧ w'.cell? ⟨g, 3, none⟩ = some (.int .i64 dk))) (exact ⟨⟨p0, p1, p2, p3⟩, x0, x1, x2, x3⟩) (fail)
                  all_goals
                    generalize hw8 : World.drew wr = w8
                    have HS8 := shade (show ShO w w8 F i (.slice _ (shS F i).1.length c4) (.slice _ i c5) by rw [← hw8]; exact HSx.out.on (grown_drewN (grown_refl _ _) 1))
                    have hB8 : Holds5 w8 g 43 #[.string dop, .int .i64 da, .int .i64 db, .int .i64 dk] := by rw [← hw8]; exact HBx.out.drew
                    have x0 := hB8.look 0; have x1 := hB8.look 1; have x2 := hB8.look 2; have x3 := hB8.look 3
                    simp at x0 x1 x2 x3
                    have hz := firstW_here hkk HFE.out
                    have hfl : firstW (shS F i).1 ⟨dop, da, db, dk⟩ < (shS F i).1.length := by omega
                    have HNX := shade (fun w2 u2 p2 hg => ShO.old (w2 := w2) (u2 := u2) HS8.out (by rw [HMV2.out]; exact hfl) p2 hg)
                    rw [HMV2.out, hz] at HNX
                    go_wp2_with (first
                      | (at_builtin; refine wpList_append_own _ rfl _ _ 25 rfl w.heap.size 3 j0 (.int .i64 0) 1 8 Tryd.underlying25 hj0 hy0 hy1 hy2 rfl (by decide) _ _ _ rfl (World.ownsRow.alloc HS8.out.o2 _) ⟨w8.heap.size, 0, none⟩ 1 1 [.int .i64 (kk : Int)] rfl rfl (int_new _ _ _) (int_one _) (by unfold maxLen; omega) (by omega) (by have := HS8.out.low.size; simp; omega) ?_)
                      | fail)
                    intro v' w9 hown9 hgr9 hnil9
                    have H9 := shade (HNX.out w9 v' hown9 (grown_same (World.grownBy_alloc w8 (.cells #[.int .i64 (kk : Int)] 3) _) hgr9))
                    clear hown9 hgr9 hnil9 HNX
                    go_wp2_with fail
                    go_roundw
                    case rel => exact ⟨i + 1, by omega, by go_num, H9.out⟩
                    case measure => simp [intOf]; omega
              · have hfe : firstW (shS F i).1 ⟨xop, xa, xb, xk⟩ = (shS F i).1.length := by omega
                obtain rfl : kk = (shS F i).1.length := by omega
                clear hW7
                have hd : decide (((shS F i).1.length : Int) < ((shS F i).1.length : Int)) = false := decide_eq_false (by omega)
                go_wp2_with fail
                go_quiet (fail)
                all_goals
                  generalize hw8 : World.drewN wr _ = w8
                  have HS8 := shade (show ShO w w8 F i (.slice A4 (shS F i).1.length c4) (.slice _ i c5) by rw [← hw8]; exact HSx.out.on (grown_drewN (grown_refl _ _) _))
                  have hB8 : Holds5 w8 g 43 #[.string xop, .int .i64 xa, .int .i64 xb, .int .i64 xk] := by rw [← hw8]; exact HBx.out.drewN _
                  have x0 := hB8.look 0; have x1 := hB8.look 1; have x2 := hB8.look 2; have x3 := hB8.look 3
                  simp at x0 x1 x2 x3
                  have HNX := shade (fun w2 w3 w4 u1 u2 p1 hg hg3 p2 hg4 => ShO.new (w2 := w2) (w3 := w3) (w4 := w4) (u1 := u1) (u2 := u2) HS8.out (by rw [HMV2.out]; exact hfe) HMV2.out p1 hg hg3 p2 hg4)
                  go_wp2_with (first
                    | (at_builtin; refine wpList_append_own _ rfl _ _ 23 rfl w.heap.size 43 i0 (.agg #[.string ⟨#[]⟩, .int .i64 0, .int .i64 0, .int .i64 0]) 4 40 Tryd.underlying23 hi0 hz0 hz1 hz2 rfl (by decide) _ _ _ rfl (World.ownsRow.alloc HS8.out.o1 _) ⟨w8.heap.size, 0, none⟩ 1 1 [.string xop, .int .i64 xa, .int .i64 xb, .int .i64 xk] rfl rfl (cells_new4 _ _ _ _ _ _) (one_cells4 _ _ _ _) (by unfold maxLen; omega) (by omega) (by have := HS8.out.low.size; simp; omega) ?_)
                    | fail)
                  intro v8 w9 hown9 hgr9 hnil9
                  have hq9 := grown_same (World.grownBy_alloc w8 (.cells #[.string xop, .int .i64 xa, .int .i64 xb, .int .i64 xk] 43) _) hgr9
                  have HQ9 := shade hq9
                  have ho2 := kept_ty HS8.out.o1 HS8.out.o2 (by decide) hq9
                  have HP9 := shade hown9; have HO2 := shade ho2
                  have hsz := HS8.out.low.size
                  have hsz2 := hq9.size
                  obtain ⟨A8, c8, rfl, -⟩ := ownsRow_slice hown9
                  clear hown9 hgr9 hnil9 hq9 ho2 x0 x1 x2 x3
                  go_wp2_with (first
                    | (at_builtin; refine wpList_append_own _ rfl _ _ 25 rfl w.heap.size 3 j0 (.int .i64 0) 1 8 Tryd.underlying25 hj0 hy0 hy1 hy2 rfl (by decide) _ _ _ rfl (World.ownsRow.alloc HO2.out _) ⟨w9.heap.size, 0, none⟩ 1 1 [.int .i64 ((shS F i).1.length : Int)] rfl rfl (int_new _ _ _) (int_one _) (by unfold maxLen; omega) (by omega) (by simp; omega) ?_)
                    | fail)
                  intro v' w10 hown10 hgr10 hnil10
                  have H9 := shade (HNX.out w9 w9 w10 _ v' HP9.out HQ9.out (grown_refl _ _) hown10 (grown_same (World.grownBy_alloc w9 (.cells #[.int .i64 ((shS F i).1.length : Int)] 3) _) hgr10))
                  clear hown10 hgr10 hnil10 HNX HP9 HQ9 HO2
                  go_wp2_with fail
                  go_roundw
                  case rel => exact ⟨i + 1, by omega, by go_num, H9.out⟩
                  case measure => simp [intOf]; omega
    · obtain rfl : i = n := by omega
      go_wp2_with fail
      go_ret2
      exact ⟨_, _, rfl, HS.out.o1, HS.out.o2, HS.out.low⟩
end Go.Proofs.YtehjfnfpebdidaaDoor
