/- The numbers of wide instructions, by the program. -/
import Derived.Test.YtehjfnfpebdidaaDoorW830
namespace Go.Proofs.YtehjfnfpebdidaaDoor
open Go.RowKit
set_option linter.unusedSimpArgs false
theorem workOut_word (op : ByteArray) (x y : Int) (w : World) (hm : wordN op.toList = 1 ∨ wordN op.toList = 2 ∨ wordN op.toList = 3 ∨ wordN op.toList = 4) (x0 : 0 ≤ x) (x1 : x ≤ 255) (y0 : 0 ≤ y) (y1 : y ≤ 255) :
    Calls Tryd.prog 28 #[.int .i64 (wordN op.toList), .int .i64 x, .int .i64 y] w fun e w' => e = .returned (.int .i64 (opVal (wordN op.toList).toNat x y)) ∧ w = w' := by
  have := workOut_any (wordN op.toList).toNat x y w (by omega) x0 x1 y0 y1
  rwa [Int.toNat_of_nonneg (by omega)] at this
attribute [local go_sem ↓] Go.wp_at_zero Go.wp_at_succ
set_option maxRecDepth 100000 in
set_option maxHeartbeats 8000000 in
theorem RunWide_at (b off n c : Nat) (F : Nat → Wid) (w : World) (hg : WT w) (hv : vwB n F = true) (h : Wds w (some ⟨b, off, none⟩) n F) :
    Calls Tryd.prog 11 #[.slice (some ⟨b, off, none⟩) n c] w (NumRes n (num F) w) := by
  have hn := (vwB_iff.1 hv).2
  have H := shade h
  have HG := shade hg
  have HVW := shade (ValidWide_any (some ⟨b, off, none⟩) n c F w hg (by omega) h)
  rw [hv] at HVW
  have HV := shade (vwB_iff.1 hv).1
  clear h hv hg
  obtain ⟨i0, hi0, hz0, hz1, hz2⟩ := info_parts info3
  go_enter Tryd.func11, Tryd.ntmps11
  go_wp2_with fail
  refine HVW.out.mono ?_
  rintro e w1 ⟨rfl, hg1⟩
  have H1 := shade (H.out.on hg1)
  have HG1 := shade (HG.out.below (below_of_grown hg1) (wt_lt HG.out))
  have HR1 := shade hg1
  clear hg1 HVW
  go_wp2
  go_loopw [3, 13] (fun v q wr => ∃ i : Nat, i ≤ n ∧ q = .int .i64 i ∧ w.grownBy wr none ∧ wr.ownsRow w.heap.size 3 1 v i (numL i (num F))) (fun _ q _ => n - (intOf q).toNat)
  case atStart => exact ⟨0, Nat.zero_le _, rfl, HR1.out, World.ownsRow_nil _ _ _ _⟩
  case round =>
    obtain ⟨i, hi, rfl, hgr, hown⟩ := hrel
    obtain ⟨A4, c4, rfl, -⟩ := ownsRow_slice hown
    have HR := shade hgr
    have HO := shade hown
    clear hgr hown
    by_cases hin : i < n
    · obtain ⟨q0, q1, q2, q3⟩ := (H.out.on HR.out).four hin
      have hok := HV.out i hin
      have hnum := num_eq F i hok
      have hgl := HR.out.size
      have HGW := shade (HG.out.below (below_of_grown HR.out) (wt_lt HG.out))
      generalize F i = cc at *
      obtain ⟨op, a, b', kk⟩ := cc
      simp only [] at q0 q1 q2 q3
      have hok2 := (okW_told op a b' kk i).symm.trans hok
      rw [decide_eq_true_iff] at hok2
      clear hok
      have HW := shade (fun W (hW : WT W) => wordOf_any op W hW)
      by_cases e0 : wordN op.toList = 0
      · have HNM := shade (show num F i = kk by rw [hnum]; exact if_pos e0)
        rw [e0] at HW
        clear hnum hok2 e0
        go_wp2_with (first
          | (go_at_call 27; refine (HW.out _ (HGW.out.alloc _)).mono ?_; rintro e w' ⟨rfl, rfl⟩)
          | (at_builtin; refine wpList_append_own _ rfl _ _ 25 rfl w.heap.size 3 i0 (.int .i64 0) 1 8 Tryd.underlying25 hi0 hz0 hz1 hz2 rfl (by decide) _ _ _ rfl (World.ownsRow.alloc (World.ownsRow.alloc HO.out _) _) ⟨wr.heap.size + 1, 0, none⟩ 1 1 [.int .i64 kk] rfl rfl (int_new2 _ _ _ _) (int_one _) (by unfold maxLen; omega) (by omega) (by simp at hgl ⊢; omega) ?_)
          | go_in)
        intro v8 w8 hown8 hgr8 hnil8
        have HO8 := shade (row_more hown8 HNM.out)
        have HZ8 := shade (grown_row (grown_same HR.out (grown_same (World.grownBy_alloc _ (.cells #[.string op, .int .i64 a, .int .i64 b', .int .i64 kk] 43) none) (World.grownBy_alloc _ (.cells #[.int .i64 kk] 3) none))) hgr8 (fun j e => (World.ownsRow.lt HO.out j e).1))
        clear hown8 hgr8 hnil8 HNM
        go_wp2
        go_roundw
        case rel => exact ⟨i + 1, by omega, by go_num, HZ8.out, HO8.out⟩
        case measure => simp [intOf]; omega
      · have hm : wordN op.toList = 1 ∨ wordN op.toList = 2 ∨ wordN op.toList = 3 ∨ wordN op.toList = 4 := by omega
        obtain ⟨a, rfl⟩ := Int.eq_ofNat_of_zero_le (show 0 ≤ a by omega)
        obtain ⟨b', rfl⟩ := Int.eq_ofNat_of_zero_le (show 0 ≤ b' by omega)
        have ha : a < i := by omega
        have hb : b' < i := by omega
        obtain rfl : kk = 0 := by omega
        have HNM := shade (show num F i = opVal (wordN op.toList).toNat (num F a) (num F b') by rw [hnum]; exact if_neg e0)
        have r1 := num_range F a (HV.out a (by omega))
        have r2 := num_range F b' (HV.out b' (by omega))
        have HCP := shade (fun W => workOut_word op (num F a) (num F b') W hm r1.1 r1.2 r2.1 r2.2)
        obtain ⟨g, rfl⟩ : ∃ g, A4 = some ⟨g, 0, none⟩ := by
          rcases HO.out.2 with ⟨e, h0⟩ | ⟨g', c', cur, e, _⟩
          · omega
          · injection e with e
            exact ⟨g', e⟩
        have hc0 := (Holds5.fresh wr 43 #[.string op, .int .i64 (a : Int), .int .i64 (b' : Int), .int .i64 0])
        have hS0 : RunS w wr.heap.size g i c4 op a b' (num F) (wr.alloc (.cells #[.string op, .int .i64 (a : Int), .int .i64 (b' : Int), .int .i64 0] 43)) := ⟨grown_alloc HR.out _, World.ownsRow.alloc HO.out _, hc0.look 0, hc0.look 1, hc0.look 2⟩
        have S0 := shade hS0
        have HSC := shade (fun W (h : RunS w wr.heap.size g i c4 op a b' (num F) W) => (h.cells ha hb).2)
        have hS : ∀ W, RunS w wr.heap.size g i c4 op a b' (num F) W → w.heap.size ≤ W.heap.size := fun W h => h.low.size
        have HSZ := shade hS
        have hne : (wordN op.toList == 0) = false := beq_eq_false_iff_ne.2 e0
        clear hnum hok2 hm r1 r2 hc0 hS0 hS e0
        have hxa : ∃ xa, num F a = xa := ⟨_, rfl⟩
        obtain ⟨xa, hxa⟩ := hxa
        have hxb : ∃ xb, num F b' = xb := ⟨_, rfl⟩
        obtain ⟨xb, hxb⟩ := hxb
        rw [hxa, hxb] at HSC HCP HNM
        clear hxa hxb
        generalize opVal (wordN op.toList).toNat xa xb = xo at *
        generalize wordN op.toList = m at *
        have iA : (a : Int) < (i : Int) := by omega
        have iB : (b' : Int) < (i : Int) := by omega
        have iA0 : (0 : Int) ≤ (a : Int) := by omega
        have iB0 : (0 : Int) ≤ (b' : Int) := by omega
        go_wp2_with (first
          | (go_at_call 27; refine (HW.out _ (HGW.out.alloc _)).mono ?_; rintro e w' ⟨rfl, rfl⟩)
          | go_in)
        obtain ⟨W0, hW0⟩ : ∃ W0, wr.alloc (.cells #[.string op, .int .i64 (a : Int), .int .i64 (b' : Int), .int .i64 0] 43) = W0 := ⟨_, rfl⟩
        rw [hW0] at S0 ⊢
        clear hW0
        go_region_held3 (fun w' => w'.cell? ⟨wr.heap.size, 1, none⟩ = some (.int .i64 (a : Int)) ∧ w'.cell? ⟨wr.heap.size, 2, none⟩ = some (.int .i64 (b' : Int)) ∧ w'.cell? ⟨g, a, none⟩ = some (.int .i64 xa) ∧ w'.cell? ⟨g, b', none⟩ = some (.int .i64 xb))
          (first | exact HSC.out _ S0.out | exact HSC.out _ S0.out.drew)
          ((go_at_call 28; refine (HCP.out _).mono ?_; rintro e w2 ⟨rfl, rfl⟩))
        rename_i hHeld
        clear hHeld
        have hwz := HSZ.out _ S0.out
        go_wp2_with (first
          | (at_builtin; refine wpList_append_own _ rfl _ _ 25 rfl w.heap.size 3 i0 (.int .i64 0) 1 8 Tryd.underlying25 hi0 hz0 hz1 hz2 rfl (by decide) _ _ _ rfl (World.ownsRow.alloc S0.out.drew.own _) ⟨W0.heap.size, 0, none⟩ 1 1 [.int .i64 xo] rfl rfl (int_new W0.drew _ _) (int_one _) (by unfold maxLen; omega) (by omega) (by simp; omega) ?_)
          | go_in)
        intro v8 w8 hown8 hgr8 hnil8
        have HO8 := shade (row_more hown8 HNM.out)
        have HZ8 := shade (grown_row (grown_alloc S0.out.drew.low (.cells #[.int .i64 xo] 3)) hgr8 (fun j e => (World.ownsRow.lt S0.out.own j e).1))
        clear hown8 hgr8 hnil8 HNM hwz
        go_wp2
        go_roundw
        case rel => exact ⟨i + 1, by omega, by go_num, HZ8.out, HO8.out⟩
        case measure => simp [intOf]; omega
    · have e : i = n := by omega
      subst e
      go_wp2
      go_ret
      exact ⟨_, rfl, HO.out, HR.out⟩
theorem RunWide_zero (A : Option Addr) (c : Nat) (F : Nat → Wid) (w : World) (hg : WT w) : Calls Tryd.prog 11 #[.slice A 0 c] w (NumRes 0 (num F) w) := by
  have HVW := shade (ValidWide_any A 0 c F w hg (by omega) (.inl rfl))
  rw [show vwB 0 F = true from rfl] at HVW
  go_enter Tryd.func11, Tryd.ntmps11
  go_wp2_with fail
  refine HVW.out.mono ?_
  rintro e w1 ⟨rfl, hg1⟩
  have HR1 := shade hg1
  clear hg1 HVW
  go_wp2
  refine wp_loop_rounds 1 ?_
  rw [rounds_succ]
  go_wp2
  go_ret
  exact NumRes.nil _ _ _ HR1.out
theorem RunWide_no (A : Option Addr) (n c : Nat) (F : Nat → Wid) (w : World) (hg : WT w) (hn : n ≤ 9223372036854775807) (hv : vwB n F = false) (h : Wds w A n F) : Calls Tryd.prog 11 #[.slice A n c] w (NumRes 0 (num F) w) := by
  have HVW := shade (ValidWide_any A n c F w hg hn h)
  rw [hv] at HVW
  clear hv h hg
  go_enter Tryd.func11, Tryd.ntmps11
  go_wp2_with fail
  refine HVW.out.mono ?_
  rintro e w1 ⟨rfl, hg1⟩
  have HR1 := shade hg1
  clear hg1 HVW
  go_wp2
  go_ret
  exact NumRes.nil _ _ _ HR1.out
theorem RunWide_any (A : Option Addr) (n c : Nat) (F : Nat → Wid) (w : World) (hg : WT w) (hn : n ≤ 9223372036854775807) (h : Wds w A n F) :
    Calls Tryd.prog 11 #[.slice A n c] w (NumRes (nW n F) (num F) w) := by
  unfold nW
  rcases hv : vwB n F with _ | _
  · exact RunWide_no A n c F w hg hn hv h
  · rw [if_pos rfl]
    by_cases h0 : n = 0
    · subst h0
      exact RunWide_zero A c F w hg
    · obtain ⟨b, off, rfl, _⟩ := h.resolve_left h0
      exact RunWide_at b off n c F w hg hv h
theorem nW_le (n : Nat) (F : Nat → Wid) : nW n F ≤ 8 := by
  unfold nW
  rcases hv : vwB n F with _ | _
  · exact Nat.zero_le _
  · rw [if_pos rfl]
    exact (vwB_iff.1 hv).2
end Go.Proofs.YtehjfnfpebdidaaDoor
