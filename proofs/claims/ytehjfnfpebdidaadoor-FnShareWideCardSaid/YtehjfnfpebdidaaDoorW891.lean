/- The model's someWide returns at most eight wide instructions whose cells can be read and changes nothing but the reader. -/
import Derived.Test.YtehjfnfpebdidaaDoorW890
namespace Go.Proofs.YtehjfnfpebdidaaDoor
open Go.RowKit
set_option maxHeartbeats 16000000 in
theorem someWide_any {A : Option Addr} {n cap g : Nat} {zs : List Int} {p : Nat} {w : World} (h : Rd w g A n cap zs p) (hp : p + 400 < 1000000) :
    Calls Tryd.prog 20 #[.pointer (some ⟨g, 0, none⟩)] w (SWOk w g A n cap zs p) := by
  have hg := h.blk.inside
  have HL := shade (fun b off (hA : A = some ⟨b, off, none⟩) (hn : 0 < n) => h.low hA hn)
  have HR := shade h
  clear h
  go_enter Tryd.func20, Tryd.ntmps20
  go_wp2_with fail
  have hM0 : SCW w (w.alloc (.cells #[] 43)) g A n cap zs p (.slice (some ⟨w.heap.size, 0, none⟩) 0 0) 0 (fun _ => zWid) :=
    ⟨HR.out.on (World.grownBy_alloc _ _ _), World.ownsRow_lit w #[] 0 (Nat.le_refl _) (by decide) rfl, only_of (World.grownBy_alloc _ _ none), ⟨hg, HL.out⟩, (by intro e; injection e with e; cases e)⟩
  have HM0 := shade hM0
  clear hM0 HR
  have e1 : (w.alloc (.cells #[] 43)).heap.size = w.heap.size + 1 := by simp
  generalize hv0 : (Value.slice (some ⟨w.heap.size, 0, none⟩) 0 0) = v0 at *
  generalize w.alloc (.cells #[] 43) = wa at *
  rw [← e1]
  clear e1
  refine (one_rel (fun x => 0 ≤ x ∧ x ≤ 8) (HM0.out.rd.alloc _) (by omega) _ _ _ (by omega) (by omega) (by omega) (by have := HM0.out.low.size; omega) (by
    intro j hj
    rw [World.cell?_alloc_new]
    rcases (show j = 0 ∨ j = 1 ∨ j = 2 ∨ j = 3 ∨ j = 4 ∨ j = 5 ∨ j = 6 ∨ j = 7 by omega) with rfl | rfl | rfl | rfl | rfl | rfl | rfl | rfl <;> exact ⟨_, by constructor <;> omega, rfl⟩)).mono ?_
  rintro e w1 ⟨x, ⟨n0, n1⟩, rfl, hR, hG⟩
  obtain ⟨nn, rfl⟩ := Int.eq_ofNat_of_zero_le n0
  have n2 : nn ≤ 8 := by omega
  have HM := shade ((HM0.out.on (World.grownBy_alloc _ _ none)).step hR hG)
  clear hR hG HM0 n0 n1
  go_wp2_with fail
  go_loopw [3] (fun v wr => ∃ (k q : Nat) (f : Nat → Wid), k ≤ nn ∧ q ≤ p + 1 + 13 * k ∧ SCW w wr g A n cap zs q v k f) (fun v _ => nn - lenOf v)
  case atStart => exact ⟨0, p + 1, _, Nat.zero_le _, by omega, HM.out⟩
  case round =>
    clear HM
    obtain ⟨k, p, f, hk, hq, hs⟩ := hrel
    obtain ⟨g', c', rfl, hC, hg'⟩ := hs.val
    have HS := shade hs
    clear hs hC
    by_cases hkn : k < nn
    · go_wp2_with fail
      refine (pick_rel 4 HS.out.rd (by omega)).mono ?_
      rintro e w2 ⟨x, ⟨x0, x1, _⟩, rfl, hR, hG⟩
      have H2 := shade (HS.out.step hR hG)
      clear hR hG HS
      go_wp2_with fail
      refine (pick_rel 256 H2.out.rd (by omega)).mono ?_
      rintro e w3 ⟨y, ⟨y0, y1, _⟩, rfl, hR, hG⟩
      have H3 := shade (H2.out.step hR hG)
      clear hR hG H2
      go_wp2_with fail
      refine (one_rel (fun _ => True) (H3.out.rd.alloc _) (by omega) _ _ _ (by omega) (by omega) (by omega) (by have := H3.out.low.size; omega) (by
        intro j hj
        rw [World.cell?_alloc_new]
        rcases (show j = 0 ∨ j = 1 by omega) with rfl | rfl <;> exact ⟨_, trivial, rfl⟩)).mono ?_
      rintro e w4 ⟨kk, -, rfl, hR, hG⟩
      have H4 := shade ((H3.out.on (World.grownBy_alloc _ _ none)).step hR hG)
      clear hR hG H3
      have hP := Holds5.fresh w4 43 #[.string ⟨#[115, 101, 116]⟩, .int .i64 0, .int .i64 0, .int .i64 kk]
      have h5 := H4.out.on (World.grownBy_alloc w4 (.cells #[.string ⟨#[115, 101, 116]⟩, .int .i64 0, .int .i64 0, .int .i64 kk] 43) none)
      go_upto_region 6 with (fail)
      generalize w4.alloc (.cells #[.string ⟨#[115, 101, 116]⟩, .int .i64 0, .int .i64 0, .int .i64 kk] 43) = wc at *
      have bw := H4.out.low.size
      have bg := H4.out.sep.1
      have HQ := shade (fun j (e : (Value.slice (some ⟨g', 0, none⟩) k c').ownBlock = some j) => (World.ownsRow.lt H4.out.own j e).2)
      have HC := shade h5
      have HP := shade hP
      clear h5 hP H4
      have x0 := HP.out.look 0; have x1 := HP.out.look 1; have x2 := HP.out.look 2; have x3 := HP.out.look 3; have xf := HP.out.free 3; have xz := HP.out.inside
      simp at x0 x1 x2 x3
      by_cases h0 : k = 0
      · subst h0
        obtain ⟨i0, hi, hz0, hz1, hz2⟩ := info_parts info4w
        have bw2 := HC.out.low.size
        go_wp2_with (first
          | (at_builtin; refine wpList_append_own _ rfl _ _ 23 rfl w.heap.size 43 i0 (.agg #[.string ⟨#[]⟩, .int .i64 0, .int .i64 0, .int .i64 0]) 4 40 Tryd.underlying23 hi hz0 hz1 hz2 rfl (by decide) _ _ _ rfl (HC.out.on (World.grownBy_alloc _ _ _)).own ⟨wc.heap.size, 0, none⟩ 1 1 [.string ⟨#[115, 101, 116]⟩, .int .i64 0, .int .i64 0, .int .i64 kk] rfl rfl (cells_new4 _ _ _ _ _ _) (one_cells4 _ _ _ _) (by unfold maxLen; omega) (by omega) (by simp; omega) ?_)
          | go_in)
        intro v' wn hown8 hgr8 hnil8
        rw [wideL_snoc 0 f ⟨⟨#[115, 101, 116]⟩, 0, 0, kk⟩] at hown8
        have H8 := shade (HC.out.snoc (World.grownBy_alloc _ _ _) hown8 hgr8 hnil8)
        clear hown8 hgr8 hnil8 hi hz0 hz1 hz2
        go_wp2
        go_roundw
        case rel => exact ⟨0 + 1, _, _, by omega, by omega, H8.out⟩
        case measure =>
          obtain ⟨A8, c8, e8, _⟩ := H8.out.val
          subst e8
          simp [lenOf]
          omega

      · have h0' : (0 : Int) < k := by omega
        go_wp2_with fail
        refine (pick_rel 3 HC.out.rd (by omega)).mono ?_
        rintro e w5 ⟨z, ⟨z0, z1, _⟩, rfl, hR, hG⟩
        have H5 := shade (HC.out.step hR hG)
        have HP5 := shade (HP.out.grown hG (by intro e; injection e with e; omega))
        clear hR hG HC HP x0 x1 x2 x3 xf xz
        have x0 := HP5.out.look 0; have x1 := HP5.out.look 1; have x2 := HP5.out.look 2; have x3 := HP5.out.look 3; have xf := HP5.out.free 3; have xz := HP5.out.inside
        simp at x0 x1 x2 x3
        by_cases hz : z = 0
        · subst hz
          obtain ⟨i0, hi, hz0, hz1, hz2⟩ := info_parts info4w
          have bw2 := H5.out.low.size
          go_wp2_with (first
            | (at_builtin; refine wpList_append_own _ rfl _ _ 23 rfl w.heap.size 43 i0 (.agg #[.string ⟨#[]⟩, .int .i64 0, .int .i64 0, .int .i64 0]) 4 40 Tryd.underlying23 hi hz0 hz1 hz2 rfl (by decide) _ _ _ rfl (H5.out.on (World.grownBy_alloc _ _ _)).own ⟨w5.heap.size, 0, none⟩ 1 1 [.string ⟨#[115, 101, 116]⟩, .int .i64 0, .int .i64 0, .int .i64 kk] rfl rfl (cells_new4 _ _ _ _ _ _) (one_cells4 _ _ _ _) (by unfold maxLen; omega) (by omega) (by simp; omega) ?_)
            | go_in)
          intro v' wn hown8 hgr8 hnil8
          rw [wideL_snoc k f ⟨⟨#[115, 101, 116]⟩, 0, 0, kk⟩] at hown8
          have H8 := shade (H5.out.snoc (World.grownBy_alloc _ _ _) hown8 hgr8 hnil8)
          clear hown8 hgr8 hnil8 hi hz0 hz1 hz2
          go_wp2
          go_roundw
          case rel => exact ⟨k + 1, _, _, by omega, by omega, H8.out⟩
          case measure =>
            obtain ⟨A8, c8, e8, _⟩ := H8.out.val
            subst e8
            simp [lenOf]
            omega

        · have hz : 0 < z := by omega
          go_wp2_with fail
          refine (of_rel (fun _ => True) (H5.out.rd.alloc _) (by omega) _ _ _ (by omega) (by omega) (by omega) (by have := H5.out.low.size; omega) (by
            intro j hj
            rw [World.cell?_alloc_new]
            rcases (show j = 0 ∨ j = 1 ∨ j = 2 ∨ j = 3 by omega) with rfl | rfl | rfl | rfl <;> exact ⟨_, trivial, rfl⟩)).mono ?_
          rintro e w6 ⟨op, -, rfl, hR, hG⟩
          have H6 := shade ((H5.out.on (World.grownBy_alloc _ _ none)).step hR hG)
          have HP6 := shade ((HP5.out.alloc _).grown hG (by intro e; injection e with e; omega))
          clear hR hG H5 HP5 x0 x1 x2 x3 xf xz
          go_wp2_with fail
          refine (pick_rel k H6.out.rd (by omega)).mono ?_
          rintro e w7 ⟨ya, -, rfl, hR, hG⟩
          have H7 := shade (H6.out.step hR hG)
          have HP7 := shade (HP6.out.grown hG (by intro e; injection e with e; omega))
          clear hR hG H6 HP6
          go_wp2_with fail
          refine (pick_rel k H7.out.rd (by omega)).mono ?_
          rintro e w8 ⟨yb, -, rfl, hR, hG⟩
          have H8 := shade (H7.out.step hR hG)
          have HP8 := shade (HP7.out.grown hG (by intro e; injection e with e; omega))
          clear hR hG H7 HP7
          have x0 := HP8.out.look 0; have x1 := HP8.out.look 1; have x2 := HP8.out.look 2; have x3 := HP8.out.look 3; have xz := HP8.out.inside
          have f0 := HP8.out.free 0; have f1 := HP8.out.free 1; have f2 := HP8.out.free 2; have f3 := HP8.out.free 3
          simp at x0 x1 x2 x3
          go_upto_region 8 with (fail)
          have hn4 := fun (j : Nat) (e : (Value.slice (some ⟨g', 0, none⟩) k c').ownBlock = some j) => (show j ≠ w4.heap.size by have := HQ.out j e; omega)
          have H9 := shade ((((H8.out.far w4.heap.size 0 (.string op) bw hn4).far w4.heap.size 1 (.int .i64 ya) bw hn4).far w4.heap.size 2 (.int .i64 yb) bw hn4).far w4.heap.size 3 (.int .i64 0) bw hn4)
          have hp9 := ((((HP8.out.put 0 (.string op)).put 1 (.int .i64 ya)).put 2 (.int .i64 yb)).put 3 (.int .i64 0))
          simp at hp9
          have HP9 := shade hp9
          clear hp9
          generalize (((w8.setCell ⟨w4.heap.size, 0, none⟩ (.string op)).setCell ⟨w4.heap.size, 1, none⟩ (.int .i64 ya)).setCell ⟨w4.heap.size, 2, none⟩ (.int .i64 yb)).setCell ⟨w4.heap.size, 3, none⟩ (.int .i64 0) = wd at *
          clear H8 HP8 x0 x1 x2 x3 xz f0 f1 f2 f3 hn4
          have x0 := HP9.out.look 0; have x1 := HP9.out.look 1; have x2 := HP9.out.look 2; have x3 := HP9.out.look 3; have xf := HP9.out.free 3; have xz := HP9.out.inside
          simp at x0 x1 x2 x3
          obtain ⟨i0, hi, hz0, hz1, hz2⟩ := info_parts info4w
          have bw2 := H9.out.low.size
          go_wp2_with (first
            | (at_builtin; refine wpList_append_own _ rfl _ _ 23 rfl w.heap.size 43 i0 (.agg #[.string ⟨#[]⟩, .int .i64 0, .int .i64 0, .int .i64 0]) 4 40 Tryd.underlying23 hi hz0 hz1 hz2 rfl (by decide) _ _ _ rfl (H9.out.on (World.grownBy_alloc _ _ _)).own ⟨wd.heap.size, 0, none⟩ 1 1 [.string op, .int .i64 ya, .int .i64 yb, .int .i64 0] rfl rfl (cells_new4 _ _ _ _ _ _) (one_cells4 _ _ _ _) (by unfold maxLen; omega) (by omega) (by simp; omega) ?_)
            | go_in)
          intro v' wn hown8 hgr8 hnil8
          rw [wideL_snoc k f ⟨op, ya, yb, 0⟩] at hown8
          have H8 := shade (H9.out.snoc (World.grownBy_alloc _ _ _) hown8 hgr8 hnil8)
          clear hown8 hgr8 hnil8 hi hz0 hz1 hz2
          go_wp2
          go_roundw
          case rel => exact ⟨k + 1, _, _, by omega, by omega, H8.out⟩
          case measure =>
            obtain ⟨A8, c8, e8, _⟩ := H8.out.val
            subst e8
            simp [lenOf]
            omega
    · have hkn2 : k = nn := by omega
      subst hkn2
      by_cases h0 : k = 0
      · subst h0
        go_wp2_with fail
        go_ret
        exact ⟨g', 0, c', f, rfl, by omega, own_cap HS.out.own, .inl rfl, HS.out.low, _, by omega, HS.out.rd⟩
      · have h0' : (0 : Int) < k := by omega
        go_wp2_with fail
        refine (pick_rel 40 HS.out.rd (by omega)).mono ?_
        rintro e w5 ⟨y, ⟨y0, y1, _⟩, rfl, hR, hG⟩
        have H5 := shade (HS.out.step hR hG)
        clear hR hG HS
        by_cases hy : y = 0
        · subst hy
          go_wp2_with fail
          refine (of_rel (fun _ => True) (H5.out.rd.alloc _) (by omega) _ _ _ (by omega) (by omega) (by omega) (by have := H5.out.low.size; omega) (by
            intro j hj
            rw [World.cell?_alloc_new]
            rcases (show j = 0 ∨ j = 1 by omega) with rfl | rfl <;> exact ⟨_, trivial, rfl⟩)).mono ?_
          rintro e w6 ⟨op, -, rfl, hR, hG⟩
          have H6 := shade ((H5.out.on (World.grownBy_alloc _ _ none)).step hR hG)
          clear hR hG H5
          have ho : OwnW w6 w.heap.size (some ⟨g', 0, none⟩) k c' f := H6.out.own
          obtain ⟨p0, p1, p2, p3⟩ := (OwnW.wds ho).four (j := 0) (by omega)
          have t0 := World.ownsRow.frozenAt ho 0; have t1 := World.ownsRow.frozenAt ho 1; have t2 := World.ownsRow.frozenAt ho 2; have t3 := World.ownsRow.frozenAt ho 3
          simp only [Nat.zero_add, Nat.zero_mul] at p0 p1 p2 p3
          have HO := shade (OwnW.put ho 0 ⟨op, 0, 0, 0⟩)
          have HL := shade (only_row (only_row (only_row (only_row H6.out.low (grown_set g' 0 (.string op)) (by intro _ e; injection e; omega)) (grown_set g' 1 (.int .i64 0)) (by intro _ e; injection e; omega)) (grown_set g' 2 (.int .i64 0)) (by intro _ e; injection e; omega)) (grown_set g' 3 (.int .i64 0)) (by intro _ e; injection e; omega))
          simp only [Nat.zero_add, Nat.zero_mul] at HO
          have hgk : some g ≠ some g' := by
            intro e
            injection e with e
            have := H6.out.sep.1
            omega
          have hbk : ∀ b off, A = some ⟨b, off, none⟩ → 0 < n → some b ≠ some g' := by
            intro b off hA hn e
            injection e with e
            have := H6.out.sep.2 b off hA hn
            omega
          have HRD := shade ((((H6.out.rd.kept (grown_set g' 0 (.string op)) hgk hbk).kept (grown_set g' 1 (.int .i64 0)) hgk hbk).kept (grown_set g' 2 (.int .i64 0)) hgk hbk).kept (grown_set g' 3 (.int .i64 0)) hgk hbk)
          clear ho hgk hbk
          go_wp2_with fail
          go_ret
          exact ⟨_, k, c', _, rfl, by omega, own_cap HO.out, OwnW.wds HO.out, HL.out, _, by omega, HRD.out⟩
        · have hy : (y == 0) = false := by rw [beq_eq_false_iff_ne]; exact hy
          go_wp2_with fail
          go_ret
          exact ⟨_, k, c', f, rfl, by omega, own_cap H5.out.own, OwnW.wds H5.out.own, H5.out.low, _, by omega, H5.out.rd⟩
end Go.Proofs.YtehjfnfpebdidaaDoor
