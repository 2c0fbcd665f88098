/- The model's someBlock: some instructions, at most six; the reader goes on. -/
import Derived.Test.YtblnchcgeepemaaDoorG60
import Derived.Test.YtblnchcgeepemaaDoorW9
namespace Go.Proofs.YtblnchcgeepemaaDoor
open Go.RowKit
set_option linter.unusedSimpArgs false
theorem Rd.below {w w' : World} {g : Nat} {A : Option Addr} {n cap : Nat} {zs : List Int} {p : Nat} (h : Rd w g A n cap zs p) (hb : Below w.heap.size w w') : Rd w' g A n cap zs p := by
  refine ⟨h.blk.below hb h.blk.inside, h.len, h.cap, fun hn => ?_, h.rng, h.few⟩
  obtain ⟨b, off, hA, hbg, hc⟩ := h.cells hn
  have hl := h.low hA hn
  exact ⟨b, off, hA, hbg, fun j hj => (hb.cell (p := ⟨b, off + j, none⟩) hl).trans (hc j hj)⟩
/-- What someBlock leaves; the reader goes on. -/
def SBRd (w : World) (g : Nat) (A : Option Addr) (n cap : Nat) (zs : List Int) (p : Nat) (e : Ending) (w' : World) : Prop :=
  ∃ (g' k c : Nat) (f : Nat → Ins), e = .returned (.slice (some ⟨g', 0, none⟩) k c) ∧ k ≤ 6 ∧ k ≤ c ∧ Code w' (some ⟨g', 0, none⟩) k f ∧ w.grownBy w' (some g) ∧ w.heap.size ≤ g' ∧ ∃ q, q ≤ p + 300 ∧ Rd w' g A n cap zs q
theorem SCB.cap {w wr : World} {g : Nat} {A : Option Addr} {n cap : Nat} {zs : List Int} {p : Nat} {g' k c : Nat} {f : Nat → Ins} (h : SCB w wr g A n cap zs p (.slice (some ⟨g', 0, none⟩) k c) k f) : k ≤ c := by
  rcases h.own.2 with ⟨e, h0⟩ | ⟨g2, c2, cur, e, hb, hg, hl, hk, hrest⟩
  · cases e
  · injection e with e1 e2 e3
    omega
set_option maxRecDepth 100000 in
set_option maxHeartbeats 16000000 in
theorem someBlock_rd {A : Option Addr} {n cap g : Nat} {zs : List Int} {p : Nat} {w : World} (h : Rd w g A n cap zs p) (hp : p + 400 < 1000000) :
    Calls Tryd.prog 15 #[.pointer (some ⟨g, 0, none⟩)] w (SBRd w g A n cap zs p) := by
  have hg := h.blk.inside
  have HL := shade (fun b off (hA : A = some ⟨b, off, none⟩) (hn : 0 < n) => h.low hA hn)
  have HR := shade h
  clear h
  go_enter Tryd.func15, Tryd.ntmps15
  go_wp2_with fail
  refine (one_rel (fun x => 0 ≤ x ∧ x ≤ 6) ((HR.out.alloc _).alloc _) (by omega) _ _ _ (by omega) (by omega) (by omega) (by simp; omega) (by
    intro j hj
    rw [show w.heap.size + 1 = (w.alloc (.cells #[] 32)).heap.size by simp, World.cell?_alloc_new]
    rcases (show j = 0 ∨ j = 1 ∨ j = 2 ∨ j = 3 ∨ j = 4 ∨ j = 5 ∨ j = 6 by omega) with rfl | rfl | rfl | rfl | rfl | rfl | rfl <;> exact ⟨_, by constructor <;> omega, rfl⟩)).mono ?_
  rintro e w1 ⟨x, ⟨n0, n1⟩, rfl, hR, hG⟩
  obtain ⟨nn, rfl⟩ := Int.eq_ofNat_of_zero_le n0
  have n2 : nn ≤ 6 := by omega
  have hT0 : w.grownBy ((w.alloc (.cells #[] 32)).alloc (.cells #[.int .i64 4, .int .i64 5, .int .i64 3, .int .i64 6, .int .i64 2, .int .i64 1, .int .i64 0] 3)) none := grown_same (World.grownBy_alloc w _ none) (World.grownBy_alloc _ _ none)
  have hT := only_trans (only_of hT0) hG
  have hLit : (w.alloc (.cells #[] 32)).ownsRow w.heap.size 32 5 (.slice (some ⟨w.heap.size, 0, none⟩) 0 0) 0 [] := World.ownsRow_lit w #[] 0 (by omega) (by decide) rfl
  have hM : SCB w w1 g A n cap zs (p + 1) (.slice (some ⟨w.heap.size, 0, none⟩) 0 0) 0 (fun _ => zIns) :=
    ⟨hR, World.ownsRow.kept (World.ownsRow.alloc hLit _) hG (.inr (fun e => by
      have e' : some w.heap.size = some g := e
      injection e' with e'
      omega)), hT, ⟨hg, HL.out⟩, (by intro e; injection e with e; cases e)⟩
  have HM := shade hM
  clear hM hR hG hT HR n0 n1 hT0 hLit
  go_wp2_with fail
  go_loopw [3] (fun v wr => ∃ (k q : Nat) (f : Nat → Ins), k ≤ nn ∧ q ≤ p + 1 + 13 * k ∧ SCB w wr g A n cap zs q v k f) (fun v _ => nn - lenOf v)
  case atStart => exact ⟨0, p + 1, _, Nat.zero_le _, by omega, HM.out⟩
  case round =>
    clear HM
    obtain ⟨k, p, f, hk, hq, hs⟩ := hrel
    obtain ⟨g', c', rfl, hC, hg'⟩ := hs.val
    have HKC := shade (SCB.cap hs)
    have HS := shade hs
    clear hs hC
    by_cases hkn : k < nn
    · go_wp2_with fail
      refine (goodInstr_any 6 (by omega) (by omega) HS.out.rd (by omega)).mono ?_
      rintro e w2 ⟨op, d, a, b, kk, q2, hq2, rfl, hR, hG⟩
      have H2 := HS.out.step hR hG
      clear hR hG HS
      have hP := Holds5.fresh w2 32 #[.string op, .int .i64 d, .int .i64 a, .int .i64 b, .int .i64 kk]
      have h3 := H2.on (World.grownBy_alloc w2 (.cells #[.string op, .int .i64 d, .int .i64 a, .int .i64 b, .int .i64 kk] 32) none)
      have bw := H2.low.size
      have bg := H2.sep.1
      have HQ := shade (fun j (e : (Value.slice (some ⟨g', 0, none⟩) k c').ownBlock = some j) => (World.ownsRow.lt H2.own j e).2)
      go_upto_region 5 with (fail)
      generalize w2.alloc (.cells #[.string op, .int .i64 d, .int .i64 a, .int .i64 b, .int .i64 kk] 32) = wc at *
      have H3 := shade h3
      have HP := shade hP
      clear H2 h3 hP
      have x0 := HP.out.look 0; have x1 := HP.out.look 1; have x2 := HP.out.look 2; have x3 := HP.out.look 3; have x4 := HP.out.look 4
      simp at x0 x1 x2 x3 x4
      rcases e1 : (op.toList == [106, 109, 112]) with _ | _
      · rcases e2 : (op.toList == [98, 122]) with _ | _
        · rcases e3 : (op.toList == [104, 108, 116]) with _ | _
          · have H7 := H3
            obtain ⟨i0, hi, hz0, hz1, hz2⟩ := info_parts info24
            go_wp2_with (first
              | (at_builtin; refine wpList_append_own _ rfl _ _ 23 rfl w.heap.size 32 i0 (.agg #[.string ⟨#[]⟩, .int .i64 0, .int .i64 0, .int .i64 0, .int .i64 0]) 5 48 Tryd.underlying23 hi hz0 hz1 hz2 rfl (by decide) _ _ _ rfl (H7.out.on (World.grownBy_alloc _ _ _)).own ⟨wc.heap.size, 0, none⟩ 1 1 [.string op, .int .i64 d, .int .i64 a, .int .i64 b, .int .i64 kk] rfl rfl (cells_new _ _ _ _ _ _ _) (one_cells _ _ _ _ _) (by unfold maxLen; omega) (by omega) (by have := H7.out.low.size; simp; omega) ?_)
              | go_in)
            intro v' w8 hown8 hgr8 hnil8
            rw [codeL_snoc k f ⟨op, d, a, b, kk⟩] at hown8
            have H8 := shade (H7.out.snoc (World.grownBy_alloc _ _ _) hown8 hgr8 hnil8)
            clear hown8 hgr8 hnil8 hi hz0 hz1 hz2
            go_wp2
            go_roundw
            case rel => exact ⟨k + 1, _, _, by omega, by omega, H8.out⟩
            case measure =>
              obtain ⟨A8, c8, e8, _⟩ := H8.out.val
              obtain ⟨A6, c6, e6, _⟩ := H7.out.val
              subst e8
              simp [lenOf]
              omega
          · go_wp2_with fail
            refine (pick_rel 4 H3.out.rd (by omega)).mono ?_
            rintro e w3 ⟨y, ⟨-, -, -⟩, rfl, hR, hG⟩
            have H4 := shade (H3.out.step hR hG)
            have HP3 := shade (HP.out.grown hG (by intro e; injection e with e; omega))
            clear hR hG H3 HP x0 x1 x2 x3 x4
            go_wp2_with fail
            refine (pick_rel 4 H4.out.rd (by omega)).mono ?_
            rintro e w4 ⟨z, ⟨-, -, -⟩, rfl, hR, hG⟩
            have H5 := shade (H4.out.step hR hG)
            have HP4 := shade (HP3.out.grown hG (by intro e; injection e with e; omega))
            clear hR hG H4 HP3
            go_wp2_with fail
            refine (pick_rel 8 H5.out.rd (by omega)).mono ?_
            rintro e w5 ⟨u, ⟨-, -, -⟩, rfl, hR, hG⟩
            have H6 := shade (H5.out.step hR hG)
            have HP5 := shade (HP4.out.grown hG (by intro e; injection e with e; omega))
            clear hR hG H5 HP4
            have x0 := HP5.out.look 0; have x1 := HP5.out.look 1; have x2 := HP5.out.look 2; have x3 := HP5.out.look 3; have x4 := HP5.out.look 4
            have f0 := HP5.out.free 0; have f1 := HP5.out.free 1; have f2 := HP5.out.free 2; have f3 := HP5.out.free 3; have f4 := HP5.out.free 4
            simp at x0 x1 x2 x3 x4
            have hQ := fun j e => show j ≠ w2.heap.size from by have := HQ.out j e; omega
            have h7 := ((((H6.out.far w2.heap.size 0 (.string ⟨#[108, 100]⟩) bw hQ).far w2.heap.size 1 (.int .i64 y) bw hQ).far w2.heap.size 2 (.int .i64 z) bw hQ).far w2.heap.size 3 (.int .i64 0) bw hQ).far w2.heap.size 4 (.int .i64 u) bw hQ
            have hP7 := HP5.out.five (.string ⟨#[108, 100]⟩) (.int .i64 y) (.int .i64 z) (.int .i64 0) (.int .i64 u)
            have H7 := shade h7
            have HP7 := shade hP7
            clear h7 hP7 hQ H6 HP5
            go_upto_region 7 with (fail)
            obtain ⟨W7, hW7⟩ : ∃ W7, ((((w5.setCell ⟨w2.heap.size, 0, none⟩ (.string ⟨#[108, 100]⟩)).setCell ⟨w2.heap.size, 1, none⟩ (.int .i64 y)).setCell ⟨w2.heap.size, 2, none⟩ (.int .i64 z)).setCell ⟨w2.heap.size, 3, none⟩ (.int .i64 0)).setCell ⟨w2.heap.size, 4, none⟩ (.int .i64 u) = W7 := ⟨_, rfl⟩
            rw [hW7] at H7 HP7 ⊢
            clear hW7 x0 x1 x2 x3 x4 f0 f1 f2 f3 f4
            have x0 := HP7.out.look 0; have x1 := HP7.out.look 1; have x2 := HP7.out.look 2; have x3 := HP7.out.look 3; have x4 := HP7.out.look 4
            simp at x0 x1 x2 x3 x4
            obtain ⟨i0, hi, hz0, hz1, hz2⟩ := info_parts info24
            go_wp2_with (first
              | (at_builtin; refine wpList_append_own _ rfl _ _ 23 rfl w.heap.size 32 i0 (.agg #[.string ⟨#[]⟩, .int .i64 0, .int .i64 0, .int .i64 0, .int .i64 0]) 5 48 Tryd.underlying23 hi hz0 hz1 hz2 rfl (by decide) _ _ _ rfl (H7.out.on (World.grownBy_alloc _ _ _)).own ⟨W7.heap.size, 0, none⟩ 1 1 [.string ⟨#[108, 100]⟩, .int .i64 y, .int .i64 z, .int .i64 0, .int .i64 u] rfl rfl (cells_new _ _ _ _ _ _ _) (one_cells _ _ _ _ _) (by unfold maxLen; omega) (by omega) (by have := H7.out.low.size; simp; omega) ?_)
              | go_in)
            intro v' w8 hown8 hgr8 hnil8
            rw [codeL_snoc k f ⟨⟨#[108, 100]⟩, y, z, 0, u⟩] at hown8
            have H8 := shade (H7.out.snoc (World.grownBy_alloc _ _ _) hown8 hgr8 hnil8)
            clear hown8 hgr8 hnil8 hi hz0 hz1 hz2
            go_wp2
            go_roundw
            case rel => exact ⟨k + 1, _, _, by omega, by omega, H8.out⟩
            case measure =>
              obtain ⟨A8, c8, e8, _⟩ := H8.out.val
              obtain ⟨A6, c6, e6, _⟩ := H7.out.val
              subst e8
              simp [lenOf]
              omega
        · go_wp2_with fail
          refine (pick_rel 4 H3.out.rd (by omega)).mono ?_
          rintro e w3 ⟨y, ⟨-, -, -⟩, rfl, hR, hG⟩
          have H4 := shade (H3.out.step hR hG)
          have HP3 := shade (HP.out.grown hG (by intro e; injection e with e; omega))
          clear hR hG H3 HP x0 x1 x2 x3 x4
          go_wp2_with fail
          refine (pick_rel 4 H4.out.rd (by omega)).mono ?_
          rintro e w4 ⟨z, ⟨-, -, -⟩, rfl, hR, hG⟩
          have H5 := shade (H4.out.step hR hG)
          have HP4 := shade (HP3.out.grown hG (by intro e; injection e with e; omega))
          clear hR hG H4 HP3
          go_wp2_with fail
          refine (pick_rel 8 H5.out.rd (by omega)).mono ?_
          rintro e w5 ⟨u, ⟨-, -, -⟩, rfl, hR, hG⟩
          have H6 := shade (H5.out.step hR hG)
          have HP5 := shade (HP4.out.grown hG (by intro e; injection e with e; omega))
          clear hR hG H5 HP4
          have x0 := HP5.out.look 0; have x1 := HP5.out.look 1; have x2 := HP5.out.look 2; have x3 := HP5.out.look 3; have x4 := HP5.out.look 4
          have f0 := HP5.out.free 0; have f1 := HP5.out.free 1; have f2 := HP5.out.free 2; have f3 := HP5.out.free 3; have f4 := HP5.out.free 4
          simp at x0 x1 x2 x3 x4
          have hQ := fun j e => show j ≠ w2.heap.size from by have := HQ.out j e; omega
          have h7 := ((((H6.out.far w2.heap.size 0 (.string ⟨#[108, 100]⟩) bw hQ).far w2.heap.size 1 (.int .i64 y) bw hQ).far w2.heap.size 2 (.int .i64 z) bw hQ).far w2.heap.size 3 (.int .i64 0) bw hQ).far w2.heap.size 4 (.int .i64 u) bw hQ
          have hP7 := HP5.out.five (.string ⟨#[108, 100]⟩) (.int .i64 y) (.int .i64 z) (.int .i64 0) (.int .i64 u)
          have H7 := shade h7
          have HP7 := shade hP7
          clear h7 hP7 hQ H6 HP5
          go_upto_region 7 with (fail)
          obtain ⟨W7, hW7⟩ : ∃ W7, ((((w5.setCell ⟨w2.heap.size, 0, none⟩ (.string ⟨#[108, 100]⟩)).setCell ⟨w2.heap.size, 1, none⟩ (.int .i64 y)).setCell ⟨w2.heap.size, 2, none⟩ (.int .i64 z)).setCell ⟨w2.heap.size, 3, none⟩ (.int .i64 0)).setCell ⟨w2.heap.size, 4, none⟩ (.int .i64 u) = W7 := ⟨_, rfl⟩
          rw [hW7] at H7 HP7 ⊢
          clear hW7 x0 x1 x2 x3 x4 f0 f1 f2 f3 f4
          have x0 := HP7.out.look 0; have x1 := HP7.out.look 1; have x2 := HP7.out.look 2; have x3 := HP7.out.look 3; have x4 := HP7.out.look 4
          simp at x0 x1 x2 x3 x4
          obtain ⟨i0, hi, hz0, hz1, hz2⟩ := info_parts info24
          go_wp2_with (first
            | (at_builtin; refine wpList_append_own _ rfl _ _ 23 rfl w.heap.size 32 i0 (.agg #[.string ⟨#[]⟩, .int .i64 0, .int .i64 0, .int .i64 0, .int .i64 0]) 5 48 Tryd.underlying23 hi hz0 hz1 hz2 rfl (by decide) _ _ _ rfl (H7.out.on (World.grownBy_alloc _ _ _)).own ⟨W7.heap.size, 0, none⟩ 1 1 [.string ⟨#[108, 100]⟩, .int .i64 y, .int .i64 z, .int .i64 0, .int .i64 u] rfl rfl (cells_new _ _ _ _ _ _ _) (one_cells _ _ _ _ _) (by unfold maxLen; omega) (by omega) (by have := H7.out.low.size; simp; omega) ?_)
            | go_in)
          intro v' w8 hown8 hgr8 hnil8
          rw [codeL_snoc k f ⟨⟨#[108, 100]⟩, y, z, 0, u⟩] at hown8
          have H8 := shade (H7.out.snoc (World.grownBy_alloc _ _ _) hown8 hgr8 hnil8)
          clear hown8 hgr8 hnil8 hi hz0 hz1 hz2
          go_wp2
          go_roundw
          case rel => exact ⟨k + 1, _, _, by omega, by omega, H8.out⟩
          case measure =>
            obtain ⟨A8, c8, e8, _⟩ := H8.out.val
            obtain ⟨A6, c6, e6, _⟩ := H7.out.val
            subst e8
            simp [lenOf]
            omega
      · go_wp2_with fail
        refine (pick_rel 4 H3.out.rd (by omega)).mono ?_
        rintro e w3 ⟨y, ⟨-, -, -⟩, rfl, hR, hG⟩
        have H4 := shade (H3.out.step hR hG)
        have HP3 := shade (HP.out.grown hG (by intro e; injection e with e; omega))
        clear hR hG H3 HP x0 x1 x2 x3 x4
        go_wp2_with fail
        refine (pick_rel 4 H4.out.rd (by omega)).mono ?_
        rintro e w4 ⟨z, ⟨-, -, -⟩, rfl, hR, hG⟩
        have H5 := shade (H4.out.step hR hG)
        have HP4 := shade (HP3.out.grown hG (by intro e; injection e with e; omega))
        clear hR hG H4 HP3
        go_wp2_with fail
        refine (pick_rel 8 H5.out.rd (by omega)).mono ?_
        rintro e w5 ⟨u, ⟨-, -, -⟩, rfl, hR, hG⟩
        have H6 := shade (H5.out.step hR hG)
        have HP5 := shade (HP4.out.grown hG (by intro e; injection e with e; omega))
        clear hR hG H5 HP4
        have x0 := HP5.out.look 0; have x1 := HP5.out.look 1; have x2 := HP5.out.look 2; have x3 := HP5.out.look 3; have x4 := HP5.out.look 4
        have f0 := HP5.out.free 0; have f1 := HP5.out.free 1; have f2 := HP5.out.free 2; have f3 := HP5.out.free 3; have f4 := HP5.out.free 4
        simp at x0 x1 x2 x3 x4
        have hQ := fun j e => show j ≠ w2.heap.size from by have := HQ.out j e; omega
        have h7 := ((((H6.out.far w2.heap.size 0 (.string ⟨#[108, 100]⟩) bw hQ).far w2.heap.size 1 (.int .i64 y) bw hQ).far w2.heap.size 2 (.int .i64 z) bw hQ).far w2.heap.size 3 (.int .i64 0) bw hQ).far w2.heap.size 4 (.int .i64 u) bw hQ
        have hP7 := HP5.out.five (.string ⟨#[108, 100]⟩) (.int .i64 y) (.int .i64 z) (.int .i64 0) (.int .i64 u)
        have H7 := shade h7
        have HP7 := shade hP7
        clear h7 hP7 hQ H6 HP5
        go_upto_region 7 with (fail)
        obtain ⟨W7, hW7⟩ : ∃ W7, ((((w5.setCell ⟨w2.heap.size, 0, none⟩ (.string ⟨#[108, 100]⟩)).setCell ⟨w2.heap.size, 1, none⟩ (.int .i64 y)).setCell ⟨w2.heap.size, 2, none⟩ (.int .i64 z)).setCell ⟨w2.heap.size, 3, none⟩ (.int .i64 0)).setCell ⟨w2.heap.size, 4, none⟩ (.int .i64 u) = W7 := ⟨_, rfl⟩
        rw [hW7] at H7 HP7 ⊢
        clear hW7 x0 x1 x2 x3 x4 f0 f1 f2 f3 f4
        have x0 := HP7.out.look 0; have x1 := HP7.out.look 1; have x2 := HP7.out.look 2; have x3 := HP7.out.look 3; have x4 := HP7.out.look 4
        simp at x0 x1 x2 x3 x4
        obtain ⟨i0, hi, hz0, hz1, hz2⟩ := info_parts info24
        go_wp2_with (first
          | (at_builtin; refine wpList_append_own _ rfl _ _ 23 rfl w.heap.size 32 i0 (.agg #[.string ⟨#[]⟩, .int .i64 0, .int .i64 0, .int .i64 0, .int .i64 0]) 5 48 Tryd.underlying23 hi hz0 hz1 hz2 rfl (by decide) _ _ _ rfl (H7.out.on (World.grownBy_alloc _ _ _)).own ⟨W7.heap.size, 0, none⟩ 1 1 [.string ⟨#[108, 100]⟩, .int .i64 y, .int .i64 z, .int .i64 0, .int .i64 u] rfl rfl (cells_new _ _ _ _ _ _ _) (one_cells _ _ _ _ _) (by unfold maxLen; omega) (by omega) (by have := H7.out.low.size; simp; omega) ?_)
          | go_in)
        intro v' w8 hown8 hgr8 hnil8
        rw [codeL_snoc k f ⟨⟨#[108, 100]⟩, y, z, 0, u⟩] at hown8
        have H8 := shade (H7.out.snoc (World.grownBy_alloc _ _ _) hown8 hgr8 hnil8)
        clear hown8 hgr8 hnil8 hi hz0 hz1 hz2
        go_wp2
        go_roundw
        case rel => exact ⟨k + 1, _, _, by omega, by omega, H8.out⟩
        case measure =>
          obtain ⟨A8, c8, e8, _⟩ := H8.out.val
          obtain ⟨A6, c6, e6, _⟩ := H7.out.val
          subst e8
          simp [lenOf]
          omega
    · have hkn2 : k = nn := by omega
      subst hkn2
      have hkc := HKC.out
      by_cases h0 : k = 0
      · subst h0
        go_wp2_with fail
        go_ret
        exact ⟨g', 0, c', f, rfl, by omega, hkc, .inl rfl, HS.out.low, hg', _, by omega, HS.out.rd⟩
      · have h0' : (0 : Int) < k := by omega
        go_wp2_with fail
        refine (pick_rel 40 HS.out.rd (by omega)).mono ?_
        rintro e w5 ⟨y, ⟨y0, y1, _⟩, rfl, hR, hG⟩
        have H5 := shade (HS.out.step hR hG)
        clear hR hG HS
        by_cases hy : y = 0
        · subst hy
          go_wp2_with fail
          have H5a := shade (H5.out.on (World.grownBy_alloc w5 (.cells #[.string ⟨#[104, 108, 116]⟩, .string ⟨#[110, 111, 112]⟩] 9) none))
          have hsz := H5.out.rd.blk.inside
          refine (of_rel (fun _ => True) H5a.out.rd (by omega) _ _ _ (by omega) (by omega) (by omega) (by omega) (by
            intro j hj
            rw [World.cell?_alloc_new]
            rcases (show j = 0 ∨ j = 1 by omega) with rfl | rfl <;> exact ⟨_, trivial, rfl⟩)).mono ?_
          rintro e w6 ⟨ox, -, rfl, hR, hG⟩
          have H6 := shade (H5a.out.step hR hG)
          clear hR hG H5 H5a
          have ho : OwnC w6 w.heap.size (some ⟨g', 0, none⟩) k c' f := H6.out.own
          obtain ⟨p0, p1, p2, p3, p4⟩ := (OwnC.code ho).five (show 0 < k by omega)
          have t0 := World.ownsRow.frozenAt ho 0; have t1 := World.ownsRow.frozenAt ho 1; have t2 := World.ownsRow.frozenAt ho 2; have t3 := World.ownsRow.frozenAt ho 3; have t4 := World.ownsRow.frozenAt ho 4
          simp only [Nat.zero_add, Nat.zero_mul] at p0 p1 p2 p3 p4
          have hput := OwnC.put ho 0 ⟨ox, 0, 0, 0, 0⟩
          simp only [Nat.zero_add, Nat.zero_mul] at hput
          have HO := shade hput
          have hL := only_row (only_row (only_row (only_row (only_row H6.out.low (grown_set g' 0 (.string ox)) (by intro _ e; injection e; omega)) (grown_set g' 1 (.int .i64 0)) (by intro _ e; injection e; omega)) (grown_set g' 2 (.int .i64 0)) (by intro _ e; injection e; omega)) (grown_set g' 3 (.int .i64 0)) (by intro _ e; injection e; omega)) (grown_set g' 4 (.int .i64 0)) (by intro _ e; injection e; omega)
          have HL := shade hL
          have HRD := shade (((((H6.out.rd.far (q := ⟨g', 0, none⟩) (.string ox) (by show g ≠ g'; have := H6.out.sep.1; omega) (fun b off hA hn => by show b ≠ g'; have := H6.out.sep.2 b off hA hn; omega)).far (q := ⟨g', 1, none⟩) (.int .i64 0) (by show g ≠ g'; have := H6.out.sep.1; omega) (fun b off hA hn => by show b ≠ g'; have := H6.out.sep.2 b off hA hn; omega)).far (q := ⟨g', 2, none⟩) (.int .i64 0) (by show g ≠ g'; have := H6.out.sep.1; omega) (fun b off hA hn => by show b ≠ g'; have := H6.out.sep.2 b off hA hn; omega)).far (q := ⟨g', 3, none⟩) (.int .i64 0) (by show g ≠ g'; have := H6.out.sep.1; omega) (fun b off hA hn => by show b ≠ g'; have := H6.out.sep.2 b off hA hn; omega)).far (q := ⟨g', 4, none⟩) (.int .i64 0) (by show g ≠ g'; have := H6.out.sep.1; omega) (fun b off hA hn => by show b ≠ g'; have := H6.out.sep.2 b off hA hn; omega))
          clear ho hput hL
          go_wp2_with fail
          go_ret
          exact ⟨_, k, c', _, rfl, by omega, hkc, OwnC.code HO.out, HL.out, hg', _, by omega, HRD.out⟩
        · have hy : (y == 0) = false := by rw [beq_eq_false_iff_ne]; exact hy
          go_wp2_with fail
          go_ret
          exact ⟨_, k, c', f, rfl, by omega, hkc, OwnC.code H5.out.own, H5.out.low, hg', _, by omega, H5.out.rd⟩

end Go.Proofs.YtblnchcgeepemaaDoor
