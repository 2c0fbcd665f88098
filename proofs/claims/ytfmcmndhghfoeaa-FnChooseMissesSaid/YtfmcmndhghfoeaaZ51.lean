/- Some jumps, drawn. -/
import Derived.Test.YtfmcmndhghfoeaaZ50
namespace Go.Proofs.Ytfmcmndhghfoeaa
open Go.RowKit
set_option linter.unusedSimpArgs false
set_option maxRecDepth 100000 in
set_option maxHeartbeats 8000000 in
theorem someJumps_any {g : Nat} {A : Option Addr} {n cap : Nat} {zs : List Int} {p : Nat} {w : World} (h : Rd w g A n cap zs p) (hp : p ≤ 10) :
    Calls Try.prog 32 #[.pointer (some ⟨g, 0, none⟩)] w (JmD w g A n cap zs) := by
  have hgin := h.blk.inside
  have hain : ∀ b off, A = some ⟨b, off, none⟩ → 0 < n → b < w.heap.size := fun b off e hn => h.low e hn
  obtain ⟨j0, hi4, hy0, hy1, hy2⟩ := info_parts info4b
  have H0 := shade (h.alloc (.cells #[] 4))
  have HA := shade hain
  clear h hain
  have hl : Holds5 ((w.alloc (.cells #[] 4)).alloc (.cells #[.int .i64 3, .int .i64 2, .int .i64 5, .int .i64 1] 3)) (w.heap.size + 1) 3 #[.int .i64 3, .int .i64 2, .int .i64 5, .int .i64 1] := by
    have := Holds5.fresh (w.alloc (.cells #[] 4)) 3 #[.int .i64 3, .int .i64 2, .int .i64 5, .int .i64 1]
    rwa [World.size_alloc] at this
  go_enter Try.func32, Try.ntmps32
  go_wp2_with fail
  refine (one_rel (fun x => x = 1 ∨ x = 2 ∨ x = 3 ∨ x = 5) (H0.out.alloc _) (by omega) _ _ _ (by omega) (by omega) (by omega) (by have := H0.out.blk.inside; simp at this ⊢; omega) (by
    intro j hj
    rw [hl.look j]
    rcases (show j = 0 ∨ j = 1 ∨ j = 2 ∨ j = 3 by omega) with rfl | rfl | rfl | rfl <;> exact ⟨_, by omega, rfl⟩)).mono ?_
  rintro e w1 ⟨kd, hkd, rfl, hR, hG⟩
  have HR1 := shade hR
  have HG1 := shade (show w.grownBy w1 (some g) from only_trans (only_trans (only_of (World.grownBy_alloc _ _ none)) (only_of (World.grownBy_alloc _ _ none))) hG)
  have HE1 := shade (show Holds5 w1 w.heap.size 4 #[] from ((Holds5.fresh w 4 #[]).alloc _).grown hG (by intro e; injection e; omega))
  clear hR hG H0 hl
  go_wp2_with fail
  refine (one_rel (fun x => 0 ≤ x ∧ x ≤ 40) (HR1.out.alloc _) (by omega) _ _ _ (by omega) (by omega) (by omega) (by have := HR1.out.blk.inside; omega) (by
    intro j hj
    rw [(Holds5.fresh w1 3 #[.int .i64 12, .int .i64 20, .int .i64 8, .int .i64 40, .int .i64 4, .int .i64 1, .int .i64 0]).look j]
    rcases (show j = 0 ∨ j = 1 ∨ j = 2 ∨ j = 3 ∨ j = 4 ∨ j = 5 ∨ j = 6 by omega) with rfl | rfl | rfl | rfl | rfl | rfl | rfl <;> exact ⟨_, by constructor <;> omega, rfl⟩)).mono ?_
  rintro e w2 ⟨nn, ⟨hn0, hn1⟩, rfl, hR, hG⟩
  obtain ⟨N, rfl⟩ := Int.eq_ofNat_of_zero_le hn0
  have hN : N ≤ 40 := by omega
  have HG2 := shade (only_trans HG1.out (only_trans (only_of (World.grownBy_alloc _ _ none)) hG))
  have hE2 : Holds5 w2 w.heap.size 4 #[] := (HE1.out.alloc _).grown hG (by intro e; injection e; omega)
  have HS := shade (show SJm w w2 g A n cap zs (p + 1 + 1) 0 (fun _ => false) (.slice (some ⟨w.heap.size, 0, none⟩) 0 0) from ⟨hR, ⟨rfl, .inr ⟨w.heap.size, 0, #[], rfl, Nat.le_refl _, hE2, Nat.le_refl _, by unfold maxLen; omega, rfl, rfl⟩⟩, HG2.out, hgin, HA.out⟩)
  clear hR hG hE2 HG2 HE1 HG1 HR1 hn0 hn1 HA
  go_wp2_with fail
  go_loopw [3] (fun v wr => ∃ (kk : Nat) (f : Nat → Bool) (q : Nat), kk ≤ N ∧ q ≤ 12 + 2 * kk ∧ SJm w wr g A n cap zs q kk f v) (fun v _ => N - lenV v)
  case atStart => exact ⟨0, _, _, Nat.zero_le _, by omega, HS.out⟩
  case round =>
    clear HS
    obtain ⟨kk, f, q, hk, hq, hS⟩ := hrel
    obtain ⟨A4, c4, rfl, hlow⟩ := ownsRow_slice hS.out
    have HS0 := shade hS
    by_cases hlt : kk < N
    · have i1 : (kk : Int) < (N : Int) := by omega
      have i2 : (0 : Int) ≤ (kk : Int) := by omega
      clear hS
      by_cases h1 : kd = 1
      · subst h1
        go_wp2_with fail
        refine (pick_rel 2 HS0.out.rd (by omega)).mono ?_
        rintro e w3 ⟨y, -, rfl, hR, hG⟩
        have HK := shade (HS0.out.keep hR hG)
        have HGK := shade hG
        have HLW := shade (show w.heap.size ≤ w3.heap.size from HK.out.low.size)
        clear hR hG hlow
        go_wp2_with (first
          | (at_builtin; refine wpList_append_own _ rfl _ _ 23 rfl w.heap.size 4 j0 (.bool false) 1 1 Try.underlying23 hi4 hy0 hy1 hy2 rfl (by decide) _ _ _ rfl (World.ownsRow.alloc HK.out.out _) ⟨w3.heap.size, 0, none⟩ 1 1 [.bool (y == 0)] rfl rfl (bool_new _ _ _) (bool_one _) (by unfold maxLen; omega) (by omega) (by have := HLW.out; simp; omega) ?_)
          | fail)
        intro v' w8 hown8 hgr8 hnil8
        have HN := shade (HS0.out.app (y == 0) HK.out.rd HGK.out _ hown8 hgr8)
        obtain ⟨A5, c5, rfl, -⟩ := ownsRow_slice HN.out.out
        clear hown8 hgr8 hnil8 hi4 hy0 hy1 hy2 HK HGK HS0 HLW
        go_wp2_with fail
        go_roundw
        case rel =>
          refine ⟨kk + 1, _, _, by omega, ?_, HN.out⟩
          omega
        case measure => simp [lenV]; omega
      · have h1' : (kd == 1) = false := by rw [beq_eq_false_iff_ne]; exact h1
        go_wp2_with fail
        refine (pick_rel 10 HS0.out.rd (by omega)).mono ?_
        rintro e w3 ⟨y, -, rfl, hR, hG⟩
        have HK := shade (HS0.out.keep hR hG)
        have HGK := shade hG
        have HLW := shade (show w.heap.size ≤ w3.heap.size from HK.out.low.size)
        clear hR hG hlow
        by_cases hy : y = 0
        · subst hy
          go_wp2_with fail
          refine (pick_rel 2 HK.out.rd (by omega)).mono ?_
          rintro e w4 ⟨z, -, rfl, hR, hG⟩
          have HK2 := shade (HK.out.keep hR hG)
          have HGK2 := shade (only_trans HGK.out hG)
          have HLW2 := shade (show w.heap.size ≤ w4.heap.size from HK2.out.low.size)
          clear hR hG HK HGK HLW
          have HK := shade HK2.out; have HGK := shade HGK2.out; have HLW := shade HLW2.out
          clear HK2 HGK2 HLW2
          go_wp2_with (first
            | (at_builtin; refine wpList_append_own _ rfl _ _ 23 rfl w.heap.size 4 j0 (.bool false) 1 1 Try.underlying23 hi4 hy0 hy1 hy2 rfl (by decide) _ _ _ rfl (World.ownsRow.alloc HK.out.out _) ⟨w4.heap.size, 0, none⟩ 1 1 [.bool (z == 0)] rfl rfl (bool_new _ _ _) (bool_one _) (by unfold maxLen; omega) (by omega) (by have := HLW.out; simp; omega) ?_)
            | fail)
          intro v' w8 hown8 hgr8 hnil8
          have HN := shade (HS0.out.app (z == 0) HK.out.rd HGK.out _ hown8 hgr8)
          obtain ⟨A5, c5, rfl, -⟩ := ownsRow_slice HN.out.out
          clear hown8 hgr8 hnil8 hi4 hy0 hy1 hy2 HK HGK HS0 HLW
          go_wp2_with fail
          go_roundw
          case rel =>
            refine ⟨kk + 1, _, _, by omega, ?_, HN.out⟩
            omega
          case measure => simp [lenV]; omega
        · have hy' : (y == 0) = false := by rw [beq_eq_false_iff_ne]; exact hy
          have hk0 : 0 < kd := by omega
          go_wp2_with (first
            | (at_builtin; refine wpList_append_own _ rfl _ _ 23 rfl w.heap.size 4 j0 (.bool false) 1 1 Try.underlying23 hi4 hy0 hy1 hy2 rfl (by decide) _ _ _ rfl (World.ownsRow.alloc HK.out.out _) ⟨w3.heap.size, 0, none⟩ 1 1 [.bool (decide (0 < (kk : Int) % kd))] rfl rfl (bool_new _ _ _) (bool_one _) (by unfold maxLen; omega) (by omega) (by have := HLW.out; simp; omega) ?_)
            | fail)
          intro v' w8 hown8 hgr8 hnil8
          have HN := shade (HS0.out.app (decide (0 < (kk : Int) % kd)) HK.out.rd HGK.out _ hown8 hgr8)
          obtain ⟨A5, c5, rfl, -⟩ := ownsRow_slice HN.out.out
          clear hown8 hgr8 hnil8 hi4 hy0 hy1 hy2 HK HGK HS0 HLW
          go_wp2_with fail
          go_roundw
          case rel =>
            refine ⟨kk + 1, _, _, by omega, ?_, HN.out⟩
            omega
          case measure => simp [lenV]; omega
    · obtain rfl : kk = N := by omega
      go_wp2_with fail
      go_ret
      rcases hS.out.2 with ⟨e', h0⟩ | ⟨g', cap', cur, e', hb, _⟩
      · injection e' with e1 e2 e3
        subst e1
        exact ⟨none, kk, c4, f, q, rfl, by omega, .inl (by omega), (fun b off e => by cases e), hS.rd, by omega, hS.low⟩
      · have ho := hS.out
        injection e' with e1 e2 e3
        subst e1
        exact ⟨some ⟨g', 0, none⟩, kk, c4, f, q, rfl, by omega, OwnB.bols ho, (fun b off e => by injection e with e; injection e with e1 e2; omega), hS.rd, by omega, hS.low⟩
end Go.Proofs.Ytfmcmndhghfoeaa
