/- The model's someCode returns a program of at most fourteen instructions whose cells can be read and changes nothing but the reader. -/
import Derived.Test.YtbfgmmljegdbfaaDoorW60
namespace Go.Proofs.YtbfgmmljegdbfaaDoor
open Go.RowKit
set_option maxHeartbeats 16000000 in
theorem someCode_any {A : Option Addr} {n cap g : Nat} {zs : List Int} {p : Nat} {w : World} (h : Rd w g A n cap zs p) (hp : p + 400 < 1000000) :
    Calls Tryd.prog 58 #[.pointer (some ⟨g, 0, none⟩)] w (SCOk w g) := by
  have hg := h.blk.inside
  have HL := shade (fun b off (hA : A = some ⟨b, off, none⟩) (hn : 0 < n) => h.low hA hn)
  have HR := shade h
  clear h
  go_enter Tryd.func58, Tryd.ntmps58
  go_wp2_with fail
  refine (one_rel (fun x => 0 ≤ x ∧ x ≤ 14) (HR.out.alloc _) (by omega) _ _ _ (by omega) (by omega) (by omega) (by omega) (by
    intro j hj
    rw [World.cell?_alloc_new]
    rcases (show j = 0 ∨ j = 1 ∨ j = 2 ∨ j = 3 ∨ j = 4 ∨ j = 5 ∨ j = 6 ∨ j = 7 ∨ j = 8 by omega) with rfl | rfl | rfl | rfl | rfl | rfl | rfl | rfl | rfl <;> exact ⟨_, by constructor <;> omega, rfl⟩)).mono ?_
  rintro e w1 ⟨x, ⟨n0, n1⟩, rfl, hR, hG⟩
  obtain ⟨nn, rfl⟩ := Int.eq_ofNat_of_zero_le n0
  have n2 : nn ≤ 14 := by omega
  have hT := only_trans (only_of (World.grownBy_alloc w _ none)) hG
  have hM : SCB w (w1.alloc (.cells #[] 55)) g A n cap zs (p + 1) (.slice (some ⟨w1.heap.size, 0, none⟩) 0 0) 0 (fun _ => zIns) :=
    ⟨hR.on (World.grownBy_alloc _ _ _), World.ownsRow_lit w1 #[] 0 hT.size (by decide) rfl, only_row hT (World.grownBy_alloc _ _ none) (by intro _ e; cases e), ⟨hg, HL.out⟩, (by intro e; injection e with e; cases e)⟩
  have HM := shade hM
  clear hM hR hG hT HR n0 n1
  go_wp2_with fail
  go_loopw [4] (fun v wr => ∃ (k q : Nat) (f : Nat → Ins), k ≤ nn ∧ q ≤ p + 1 + 13 * k ∧ SCB w wr g A n cap zs q v k f) (fun v _ => nn - lenOf v)
  case atStart => exact ⟨0, p + 1, _, Nat.zero_le _, by omega, HM.out⟩
  case round =>
    clear HM
    obtain ⟨k, p, f, hk, hq, hs⟩ := hrel
    obtain ⟨g', c', rfl, hC, hg'⟩ := hs.val
    have HS := shade hs
    clear hs hC
    by_cases hkn : k < nn
    · go_wp2_with fail
      refine (goodInstr_any nn (by omega) (by omega) HS.out.rd (by omega)).mono ?_
      rintro e w2 ⟨op, d, a, b, kk, q2, hq2, rfl, hR, hG⟩
      have H2 := HS.out.step hR hG
      clear hR hG HS
      go_upto_region 5 with (fail)
      have hP := Holds5.fresh w2 55 #[.string op, .int .i64 d, .int .i64 a, .int .i64 b, .int .i64 kk]
      have h3 := H2.on (World.grownBy_alloc w2 (.cells #[.string op, .int .i64 d, .int .i64 a, .int .i64 b, .int .i64 kk] 55) none)
      generalize w2.alloc (.cells #[.string op, .int .i64 d, .int .i64 a, .int .i64 b, .int .i64 kk] 55) = wc at *
      have bw := H2.low.size
      have bg := H2.sep.1
      have HQ := shade (fun j (e : (Value.slice (some ⟨g', 0, none⟩) k c').ownBlock = some j) => (World.ownsRow.lt H2.own j e).2)
      have H3 := shade h3
      have HP := shade hP
      clear H2 h3 hP
      have x0 := HP.out.look 0; have x1 := HP.out.look 1; have x2 := HP.out.look 2; have x3 := HP.out.look 3; have x4 := HP.out.look 4; have xf := HP.out.free 4; have xz := HP.out.inside
      simp at x0 x1 x2 x3 x4
      rcases e1 : (op.toList == [106, 109, 112]) with _ | _
      · rcases e2 : (op.toList == [98, 122]) with _ | _
        · have H7 := H3
          obtain ⟨i0, hi, hz0, hz1, hz2⟩ := info_parts info24
          go_wp2_with (first
            | (at_builtin; refine wpList_append_own _ rfl _ _ 26 rfl w.heap.size 55 i0 (.agg #[.string ⟨#[]⟩, .int .i64 0, .int .i64 0, .int .i64 0, .int .i64 0]) 5 48 Tryd.underlying26 hi hz0 hz1 hz2 rfl (by decide) _ _ _ rfl (H7.out.on (World.grownBy_alloc _ _ _)).own ⟨wc.heap.size, 0, none⟩ 1 1 [.string op, .int .i64 d, .int .i64 a, .int .i64 b, .int .i64 kk] rfl rfl (cells_new _ _ _ _ _ _ _) (one_cells _ _ _ _ _) (by unfold maxLen; omega) (by omega) (by have := H7.out.low.size; simp; omega) ?_)
            | go_in)
          intro v' w8 hown8 hgr8 hnil8
          rw [codeL_snoc k f ⟨op, d, a, b, kk⟩] at hown8
          have H8 := shade (H7.out.snoc (World.grownBy_alloc _ _ _) hown8 hgr8 hnil8)
          clear hown8 hgr8 hnil8 hi hz0 hz1 hz2
          go_wp2
          go_roundw
          case rel => exact ⟨k + 1, _, _, by omega, by omega, H8.out⟩
          case measure =>
            obtain ⟨A8, c8, e8, _⟩ := H8.out.val
            obtain ⟨A6, c6, e6, _⟩ := H7.out.val
            subst e8
            simp [lenOf]
            omega

        · by_cases hle : kk ≤ (k : Int)
          · go_wp2_with fail
            refine (pick_rel 3 H3.out.rd (by omega)).mono ?_
            rintro e w3 ⟨y, ⟨y0, y1, _⟩, rfl, hR, hG⟩
            have y2 := y1 (by omega)
            have H4 := shade (H3.out.step hR hG)
            have HP3 := shade (HP.out.grown hG (by intro e; injection e with e; omega))
            clear hR hG y1 H3 HP x0 x1 x2 x3 x4 xf xz
            have x0 := HP3.out.look 0; have x1 := HP3.out.look 1; have x2 := HP3.out.look 2; have x3 := HP3.out.look 3; have x4 := HP3.out.look 4; have xf := HP3.out.free 4; have xz := HP3.out.inside
            simp at x0 x1 x2 x3 x4
            by_cases hy : y = 0
            · subst hy
              have H7 := H4
              obtain ⟨i0, hi, hz0, hz1, hz2⟩ := info_parts info24
              go_wp2_with (first
                | (at_builtin; refine wpList_append_own _ rfl _ _ 26 rfl w.heap.size 55 i0 (.agg #[.string ⟨#[]⟩, .int .i64 0, .int .i64 0, .int .i64 0, .int .i64 0]) 5 48 Tryd.underlying26 hi hz0 hz1 hz2 rfl (by decide) _ _ _ rfl (H7.out.on (World.grownBy_alloc _ _ _)).own ⟨w3.heap.size, 0, none⟩ 1 1 [.string op, .int .i64 d, .int .i64 a, .int .i64 b, .int .i64 kk] rfl rfl (cells_new _ _ _ _ _ _ _) (one_cells _ _ _ _ _) (by unfold maxLen; omega) (by omega) (by have := H7.out.low.size; simp; omega) ?_)
                | go_in)
              intro v' w8 hown8 hgr8 hnil8
              rw [codeL_snoc k f ⟨op, d, a, b, kk⟩] at hown8
              have H8 := shade (H7.out.snoc (World.grownBy_alloc _ _ _) hown8 hgr8 hnil8)
              clear hown8 hgr8 hnil8 hi hz0 hz1 hz2
              go_wp2
              go_roundw
              case rel => exact ⟨k + 1, _, _, by omega, by omega, H8.out⟩
              case measure =>
                obtain ⟨A8, c8, e8, _⟩ := H8.out.val
                obtain ⟨A6, c6, e6, _⟩ := H7.out.val
                subst e8
                simp [lenOf]
                omega

            · have hy : 0 < y := by omega
              go_wp2_with fail
              refine (pick_rel 4 H4.out.rd (by omega)).mono ?_
              rintro e w4 ⟨z, ⟨z0, z1, _⟩, rfl, hR, hG⟩
              have z2 := z1 (by omega)
              have H5 := shade (H4.out.step hR hG)
              have HP4 := shade (HP3.out.grown hG (by intro e; injection e with e; omega))
              clear hR hG z1 H4 HP3 x0 x1 x2 x3 x4 xf xz
              have x0 := HP4.out.look 0; have x1 := HP4.out.look 1; have x2 := HP4.out.look 2; have x3 := HP4.out.look 3; have x4 := HP4.out.look 4; have xf := HP4.out.free 4; have xz := HP4.out.inside
              simp at x0 x1 x2 x3 x4
              by_cases hm : (k : Int) + 1 + z ≤ nn
              · go_upto_region 7 with (fail)
                have h6 := H5.out.far w2.heap.size 4 (.int .i64 ((k : Int) + 1 + z)) bw (fun j e => by have := HQ.out j e; omega)
                have hP6 := HP4.out.put 4 (.int .i64 ((k : Int) + 1 + z))
                simp at hP6
                generalize w4.setCell ⟨w2.heap.size, 4, none⟩ (.int .i64 ((k : Int) + 1 + z)) = w5 at *
                have H7 := shade h6
                have HP6 := shade hP6
                clear h6 hP6 H5 HP4 x0 x1 x2 x3 x4 xf xz
                have x0 := HP6.out.look 0; have x1 := HP6.out.look 1; have x2 := HP6.out.look 2; have x3 := HP6.out.look 3; have x4 := HP6.out.look 4; have xf := HP6.out.free 4; have xz := HP6.out.inside
                simp at x0 x1 x2 x3 x4
                obtain ⟨i0, hi, hz0, hz1, hz2⟩ := info_parts info24
                go_wp2_with (first
                  | (at_builtin; refine wpList_append_own _ rfl _ _ 26 rfl w.heap.size 55 i0 (.agg #[.string ⟨#[]⟩, .int .i64 0, .int .i64 0, .int .i64 0, .int .i64 0]) 5 48 Tryd.underlying26 hi hz0 hz1 hz2 rfl (by decide) _ _ _ rfl (H7.out.on (World.grownBy_alloc _ _ _)).own ⟨w5.heap.size, 0, none⟩ 1 1 [.string op, .int .i64 d, .int .i64 a, .int .i64 b, .int .i64 (k + 1 + z)] rfl rfl (cells_new _ _ _ _ _ _ _) (one_cells _ _ _ _ _) (by unfold maxLen; omega) (by omega) (by have := H7.out.low.size; simp; omega) ?_)
                  | go_in)
                intro v' w8 hown8 hgr8 hnil8
                rw [codeL_snoc k f ⟨op, d, a, b, (k + 1 + z)⟩] at hown8
                have H8 := shade (H7.out.snoc (World.grownBy_alloc _ _ _) hown8 hgr8 hnil8)
                clear hown8 hgr8 hnil8 hi hz0 hz1 hz2
                go_wp2
                go_roundw
                case rel => exact ⟨k + 1, _, _, by omega, by omega, H8.out⟩
                case measure =>
                  obtain ⟨A8, c8, e8, _⟩ := H8.out.val
                  obtain ⟨A6, c6, e6, _⟩ := H7.out.val
                  subst e8
                  simp [lenOf]
                  omega

              · have hm : (nn : Int) < (k : Int) + 1 + z := by omega
                go_upto_region 7 with (fail)
                have h6 := H5.out.far w2.heap.size 4 (.int .i64 (nn : Int)) bw (fun j e => by have := HQ.out j e; omega)
                have hP6 := HP4.out.put 4 (.int .i64 (nn : Int))
                simp at hP6
                generalize w4.setCell ⟨w2.heap.size, 4, none⟩ (.int .i64 (nn : Int)) = w5 at *
                have H7 := shade h6
                have HP6 := shade hP6
                clear h6 hP6 H5 HP4 x0 x1 x2 x3 x4 xf xz
                have x0 := HP6.out.look 0; have x1 := HP6.out.look 1; have x2 := HP6.out.look 2; have x3 := HP6.out.look 3; have x4 := HP6.out.look 4; have xf := HP6.out.free 4; have xz := HP6.out.inside
                simp at x0 x1 x2 x3 x4
                obtain ⟨i0, hi, hz0, hz1, hz2⟩ := info_parts info24
                go_wp2_with (first
                  | (at_builtin; refine wpList_append_own _ rfl _ _ 26 rfl w.heap.size 55 i0 (.agg #[.string ⟨#[]⟩, .int .i64 0, .int .i64 0, .int .i64 0, .int .i64 0]) 5 48 Tryd.underlying26 hi hz0 hz1 hz2 rfl (by decide) _ _ _ rfl (H7.out.on (World.grownBy_alloc _ _ _)).own ⟨w5.heap.size, 0, none⟩ 1 1 [.string op, .int .i64 d, .int .i64 a, .int .i64 b, .int .i64 nn] rfl rfl (cells_new _ _ _ _ _ _ _) (one_cells _ _ _ _ _) (by unfold maxLen; omega) (by omega) (by have := H7.out.low.size; simp; omega) ?_)
                  | go_in)
                intro v' w8 hown8 hgr8 hnil8
                rw [codeL_snoc k f ⟨op, d, a, b, nn⟩] at hown8
                have H8 := shade (H7.out.snoc (World.grownBy_alloc _ _ _) hown8 hgr8 hnil8)
                clear hown8 hgr8 hnil8 hi hz0 hz1 hz2
                go_wp2
                go_roundw
                case rel => exact ⟨k + 1, _, _, by omega, by omega, H8.out⟩
                case measure =>
                  obtain ⟨A8, c8, e8, _⟩ := H8.out.val
                  obtain ⟨A6, c6, e6, _⟩ := H7.out.val
                  subst e8
                  simp [lenOf]
                  omega

          · have hle : (k : Int) < kk := by omega
            have H7 := H3
            obtain ⟨i0, hi, hz0, hz1, hz2⟩ := info_parts info24
            go_wp2_with (first
              | (at_builtin; refine wpList_append_own _ rfl _ _ 26 rfl w.heap.size 55 i0 (.agg #[.string ⟨#[]⟩, .int .i64 0, .int .i64 0, .int .i64 0, .int .i64 0]) 5 48 Tryd.underlying26 hi hz0 hz1 hz2 rfl (by decide) _ _ _ rfl (H7.out.on (World.grownBy_alloc _ _ _)).own ⟨wc.heap.size, 0, none⟩ 1 1 [.string op, .int .i64 d, .int .i64 a, .int .i64 b, .int .i64 kk] rfl rfl (cells_new _ _ _ _ _ _ _) (one_cells _ _ _ _ _) (by unfold maxLen; omega) (by omega) (by have := H7.out.low.size; simp; omega) ?_)
              | go_in)
            intro v' w8 hown8 hgr8 hnil8
            rw [codeL_snoc k f ⟨op, d, a, b, kk⟩] at hown8
            have H8 := shade (H7.out.snoc (World.grownBy_alloc _ _ _) hown8 hgr8 hnil8)
            clear hown8 hgr8 hnil8 hi hz0 hz1 hz2
            go_wp2
            go_roundw
            case rel => exact ⟨k + 1, _, _, by omega, by omega, H8.out⟩
            case measure =>
              obtain ⟨A8, c8, e8, _⟩ := H8.out.val
              obtain ⟨A6, c6, e6, _⟩ := H7.out.val
              subst e8
              simp [lenOf]
              omega

      · by_cases hle : kk ≤ (k : Int)
        · go_wp2_with fail
          refine (pick_rel 3 H3.out.rd (by omega)).mono ?_
          rintro e w3 ⟨y, ⟨y0, y1, _⟩, rfl, hR, hG⟩
          have y2 := y1 (by omega)
          have H4 := shade (H3.out.step hR hG)
          have HP3 := shade (HP.out.grown hG (by intro e; injection e with e; omega))
          clear hR hG y1 H3 HP x0 x1 x2 x3 x4 xf xz
          have x0 := HP3.out.look 0; have x1 := HP3.out.look 1; have x2 := HP3.out.look 2; have x3 := HP3.out.look 3; have x4 := HP3.out.look 4; have xf := HP3.out.free 4; have xz := HP3.out.inside
          simp at x0 x1 x2 x3 x4
          by_cases hy : y = 0
          · subst hy
            have H7 := H4
            obtain ⟨i0, hi, hz0, hz1, hz2⟩ := info_parts info24
            go_wp2_with (first
              | (at_builtin; refine wpList_append_own _ rfl _ _ 26 rfl w.heap.size 55 i0 (.agg #[.string ⟨#[]⟩, .int .i64 0, .int .i64 0, .int .i64 0, .int .i64 0]) 5 48 Tryd.underlying26 hi hz0 hz1 hz2 rfl (by decide) _ _ _ rfl (H7.out.on (World.grownBy_alloc _ _ _)).own ⟨w3.heap.size, 0, none⟩ 1 1 [.string op, .int .i64 d, .int .i64 a, .int .i64 b, .int .i64 kk] rfl rfl (cells_new _ _ _ _ _ _ _) (one_cells _ _ _ _ _) (by unfold maxLen; omega) (by omega) (by have := H7.out.low.size; simp; omega) ?_)
              | go_in)
            intro v' w8 hown8 hgr8 hnil8
            rw [codeL_snoc k f ⟨op, d, a, b, kk⟩] at hown8
            have H8 := shade (H7.out.snoc (World.grownBy_alloc _ _ _) hown8 hgr8 hnil8)
            clear hown8 hgr8 hnil8 hi hz0 hz1 hz2
            go_wp2
            go_roundw
            case rel => exact ⟨k + 1, _, _, by omega, by omega, H8.out⟩
            case measure =>
              obtain ⟨A8, c8, e8, _⟩ := H8.out.val
              obtain ⟨A6, c6, e6, _⟩ := H7.out.val
              subst e8
              simp [lenOf]
              omega

          · have hy : 0 < y := by omega
            go_wp2_with fail
            refine (pick_rel 4 H4.out.rd (by omega)).mono ?_
            rintro e w4 ⟨z, ⟨z0, z1, _⟩, rfl, hR, hG⟩
            have z2 := z1 (by omega)
            have H5 := shade (H4.out.step hR hG)
            have HP4 := shade (HP3.out.grown hG (by intro e; injection e with e; omega))
            clear hR hG z1 H4 HP3 x0 x1 x2 x3 x4 xf xz
            have x0 := HP4.out.look 0; have x1 := HP4.out.look 1; have x2 := HP4.out.look 2; have x3 := HP4.out.look 3; have x4 := HP4.out.look 4; have xf := HP4.out.free 4; have xz := HP4.out.inside
            simp at x0 x1 x2 x3 x4
            by_cases hm : (k : Int) + 1 + z ≤ nn
            · go_upto_region 7 with (fail)
              have h6 := H5.out.far w2.heap.size 4 (.int .i64 ((k : Int) + 1 + z)) bw (fun j e => by have := HQ.out j e; omega)
              have hP6 := HP4.out.put 4 (.int .i64 ((k : Int) + 1 + z))
              simp at hP6
              generalize w4.setCell ⟨w2.heap.size, 4, none⟩ (.int .i64 ((k : Int) + 1 + z)) = w5 at *
              have H7 := shade h6
              have HP6 := shade hP6
              clear h6 hP6 H5 HP4 x0 x1 x2 x3 x4 xf xz
              have x0 := HP6.out.look 0; have x1 := HP6.out.look 1; have x2 := HP6.out.look 2; have x3 := HP6.out.look 3; have x4 := HP6.out.look 4; have xf := HP6.out.free 4; have xz := HP6.out.inside
              simp at x0 x1 x2 x3 x4
              obtain ⟨i0, hi, hz0, hz1, hz2⟩ := info_parts info24
              go_wp2_with (first
                | (at_builtin; refine wpList_append_own _ rfl _ _ 26 rfl w.heap.size 55 i0 (.agg #[.string ⟨#[]⟩, .int .i64 0, .int .i64 0, .int .i64 0, .int .i64 0]) 5 48 Tryd.underlying26 hi hz0 hz1 hz2 rfl (by decide) _ _ _ rfl (H7.out.on (World.grownBy_alloc _ _ _)).own ⟨w5.heap.size, 0, none⟩ 1 1 [.string op, .int .i64 d, .int .i64 a, .int .i64 b, .int .i64 (k + 1 + z)] rfl rfl (cells_new _ _ _ _ _ _ _) (one_cells _ _ _ _ _) (by unfold maxLen; omega) (by omega) (by have := H7.out.low.size; simp; omega) ?_)
                | go_in)
              intro v' w8 hown8 hgr8 hnil8
              rw [codeL_snoc k f ⟨op, d, a, b, (k + 1 + z)⟩] at hown8
              have H8 := shade (H7.out.snoc (World.grownBy_alloc _ _ _) hown8 hgr8 hnil8)
              clear hown8 hgr8 hnil8 hi hz0 hz1 hz2
              go_wp2
              go_roundw
              case rel => exact ⟨k + 1, _, _, by omega, by omega, H8.out⟩
              case measure =>
                obtain ⟨A8, c8, e8, _⟩ := H8.out.val
                obtain ⟨A6, c6, e6, _⟩ := H7.out.val
                subst e8
                simp [lenOf]
                omega

            · have hm : (nn : Int) < (k : Int) + 1 + z := by omega
              go_upto_region 7 with (fail)
              have h6 := H5.out.far w2.heap.size 4 (.int .i64 (nn : Int)) bw (fun j e => by have := HQ.out j e; omega)
              have hP6 := HP4.out.put 4 (.int .i64 (nn : Int))
              simp at hP6
              generalize w4.setCell ⟨w2.heap.size, 4, none⟩ (.int .i64 (nn : Int)) = w5 at *
              have H7 := shade h6
              have HP6 := shade hP6
              clear h6 hP6 H5 HP4 x0 x1 x2 x3 x4 xf xz
              have x0 := HP6.out.look 0; have x1 := HP6.out.look 1; have x2 := HP6.out.look 2; have x3 := HP6.out.look 3; have x4 := HP6.out.look 4; have xf := HP6.out.free 4; have xz := HP6.out.inside
              simp at x0 x1 x2 x3 x4
              obtain ⟨i0, hi, hz0, hz1, hz2⟩ := info_parts info24
              go_wp2_with (first
                | (at_builtin; refine wpList_append_own _ rfl _ _ 26 rfl w.heap.size 55 i0 (.agg #[.string ⟨#[]⟩, .int .i64 0, .int .i64 0, .int .i64 0, .int .i64 0]) 5 48 Tryd.underlying26 hi hz0 hz1 hz2 rfl (by decide) _ _ _ rfl (H7.out.on (World.grownBy_alloc _ _ _)).own ⟨w5.heap.size, 0, none⟩ 1 1 [.string op, .int .i64 d, .int .i64 a, .int .i64 b, .int .i64 nn] rfl rfl (cells_new _ _ _ _ _ _ _) (one_cells _ _ _ _ _) (by unfold maxLen; omega) (by omega) (by have := H7.out.low.size; simp; omega) ?_)
                | go_in)
              intro v' w8 hown8 hgr8 hnil8
              rw [codeL_snoc k f ⟨op, d, a, b, nn⟩] at hown8
              have H8 := shade (H7.out.snoc (World.grownBy_alloc _ _ _) hown8 hgr8 hnil8)
              clear hown8 hgr8 hnil8 hi hz0 hz1 hz2
              go_wp2
              go_roundw
              case rel => exact ⟨k + 1, _, _, by omega, by omega, H8.out⟩
              case measure =>
                obtain ⟨A8, c8, e8, _⟩ := H8.out.val
                obtain ⟨A6, c6, e6, _⟩ := H7.out.val
                subst e8
                simp [lenOf]
                omega

        · have hle : (k : Int) < kk := by omega
          have H7 := H3
          obtain ⟨i0, hi, hz0, hz1, hz2⟩ := info_parts info24
          go_wp2_with (first
            | (at_builtin; refine wpList_append_own _ rfl _ _ 26 rfl w.heap.size 55 i0 (.agg #[.string ⟨#[]⟩, .int .i64 0, .int .i64 0, .int .i64 0, .int .i64 0]) 5 48 Tryd.underlying26 hi hz0 hz1 hz2 rfl (by decide) _ _ _ rfl (H7.out.on (World.grownBy_alloc _ _ _)).own ⟨wc.heap.size, 0, none⟩ 1 1 [.string op, .int .i64 d, .int .i64 a, .int .i64 b, .int .i64 kk] rfl rfl (cells_new _ _ _ _ _ _ _) (one_cells _ _ _ _ _) (by unfold maxLen; omega) (by omega) (by have := H7.out.low.size; simp; omega) ?_)
            | go_in)
          intro v' w8 hown8 hgr8 hnil8
          rw [codeL_snoc k f ⟨op, d, a, b, kk⟩] at hown8
          have H8 := shade (H7.out.snoc (World.grownBy_alloc _ _ _) hown8 hgr8 hnil8)
          clear hown8 hgr8 hnil8 hi hz0 hz1 hz2
          go_wp2
          go_roundw
          case rel => exact ⟨k + 1, _, _, by omega, by omega, H8.out⟩
          case measure =>
            obtain ⟨A8, c8, e8, _⟩ := H8.out.val
            obtain ⟨A6, c6, e6, _⟩ := H7.out.val
            subst e8
            simp [lenOf]
            omega

    · have hkn2 : k = nn := by omega
      subst hkn2
      by_cases h0 : k = 0
      · subst h0
        go_wp2_with fail
        go_ret
        exact ⟨g', 0, c', f, rfl, by omega, .inl rfl, HS.out.low⟩
      · have h0' : (0 : Int) < k := by omega
        go_wp2_with fail
        refine (pick_rel 40 HS.out.rd (by omega)).mono ?_
        rintro e w5 ⟨y, ⟨y0, y1, _⟩, rfl, hR, hG⟩
        have H5 := shade (HS.out.step hR hG)
        clear hR hG HS
        by_cases hy : y = 0
        · subst hy
          go_wp2_with fail
          refine (pick_rel k H5.out.rd (by omega)).mono ?_
          rintro e w6 ⟨z, ⟨z0, z1, _⟩, rfl, hR, hG⟩
          have z2 := z1 (by omega)
          obtain ⟨z, rfl⟩ := Int.eq_ofNat_of_zero_le z0
          have H6 := shade (H5.out.step hR hG)
          clear hR hG H5 z0 z1
          have ho : OwnC w6 w.heap.size (some ⟨g', 0, none⟩) k c' f := H6.out.own
          have hz : z < k := by omega
          obtain ⟨p0, p1, p2, p3, p4⟩ := (OwnC.code ho).five hz
          have t0 := World.ownsRow.frozenAt ho (z * 5); have t1 := World.ownsRow.frozenAt ho (z * 5 + 1); have t2 := World.ownsRow.frozenAt ho (z * 5 + 2); have t3 := World.ownsRow.frozenAt ho (z * 5 + 3); have t4 := World.ownsRow.frozenAt ho (z * 5 + 4)
          simp only [Nat.zero_add] at p0 p1 p2 p3 p4
          have HO := shade (OwnC.put ho z ⟨⟨#[106, 109, 112]⟩, 0, 0, 0, (k : Int) + 1⟩)
          have HL := shade (only_row (only_row (only_row (only_row (only_row H6.out.low (grown_set g' (z * 5) (.string ⟨#[106, 109, 112]⟩)) (by intro _ e; injection e; omega)) (grown_set g' (z * 5 + 1) (.int .i64 0)) (by intro _ e; injection e; omega)) (grown_set g' (z * 5 + 2) (.int .i64 0)) (by intro _ e; injection e; omega)) (grown_set g' (z * 5 + 3) (.int .i64 0)) (by intro _ e; injection e; omega)) (grown_set g' (z * 5 + 4) (.int .i64 ((k : Int) + 1))) (by intro _ e; injection e; omega))
          clear ho
          go_wp2_with fail
          go_ret
          exact ⟨_, k, c', _, rfl, by omega, OwnC.code HO.out, HL.out⟩
        · have hy : (y == 0) = false := by rw [beq_eq_false_iff_ne]; exact hy
          go_wp2_with fail
          go_ret
          exact ⟨_, k, c', f, rfl, by omega, OwnC.code H5.out.own, H5.out.low⟩
end Go.Proofs.YtbfgmmljegdbfaaDoor
