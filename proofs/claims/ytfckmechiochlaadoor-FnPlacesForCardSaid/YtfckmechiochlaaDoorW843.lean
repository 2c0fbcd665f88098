/- The numbers that are needed, by the model. -/
import Derived.Test.YtfckmechiochlaaDoorW841
namespace Go.Proofs.YtfckmechiochlaaDoor
open Go.RowKit
set_option linter.unusedSimpArgs false
set_option maxRecDepth 100000 in
set_option maxHeartbeats 8000000 in
theorem liveWide_at (b off n c x : Nat) (F : Nat → Wid) (w : World) (hv : vwB n F = true) (hx : x < 2 ^ n) (h : Wds w (some ⟨b, off, none⟩) n F) :
    Calls Tryd.prog 89 #[.slice (some ⟨b, off, none⟩) n c, .int .i64 x] w (NumRes n (fun j => (rowW F x n j : Int)) w) := by
  have hn := (vwB_iff.1 hv).2
  have H := shade h
  have HV := shade (vwB_iff.1 hv).1
  have HX := shade hx
  have HP := shade (pow8 hn)
  clear h hv hx
  obtain ⟨i0, hi, hz0, hz1, hz2⟩ := info_parts info3
  go_enter Tryd.func89, Tryd.ntmps89
  go_wp2_with (first
    | (at_make; refine wpList_make_full _ rfl _ _ 27 rfl w.heap.size 3 i0 (.int .i64 0) 1 Tryd.underlying27 hi hz0 hz1 .i64 .i64 n n n rfl rfl rfl rfl (by rw [hz2]; omega) (by unfold maxLen; omega) (Nat.le_refl _) ?_)
    | go_in)
  intro w1 hown1 hgr1
  have HS1 := shade (show SetR w w1 3 w.heap.size n n (fun _ => 0) from ⟨by
    rw [made_nums] at hown1
    exact hown1, hgr1⟩)
  clear hown1 hgr1
  go_wp2
  go_loopw [6, 7] (fun y q wr => ∃ (i : Nat) (f : Nat → Nat), i ≤ n ∧ q = .int .i64 ((i : Int) - 1) ∧ y = .int .i64 ((lvl F x n (n - i) : Nat) : Int) ∧ SetR w wr 3 w.heap.size n n f ∧ ∀ j, i ≤ j → j < n → f j = rowW F x n j) (fun _ q _ => (intOf q + 1).toNat)
  case atStart => exact ⟨n, fun _ => 0, Nat.le_refl _, by simp, by rw [Nat.sub_self]; rfl, HS1.out, fun j h1 h2 => by omega⟩
  case round =>
    obtain ⟨i, f, hi, rfl, rfl, hS, hf⟩ := hrel
    have HS := shade hS
    have HF := shade hf
    clear hS hf HS1
    rcases i with _ | q
    · go_wp2
      go_ret
      exact ⟨_, rfl, (HS.out.congr (fun j hj => HF.out j (by omega) hj)).own, HS.out.low⟩
    · have hqn : q < n := by omega
      rw [show ((q + 1 : Nat) : Int) - 1 = (q : Int) by omega, show n - (q + 1) = n - 1 - q by omega]
      obtain ⟨q0, q1, q2, q3⟩ := (H.out.on HS.out.low).four hqn
      have hok := HV.out q hqn
      have hL := lvl_at HV.out HX.out q hqn
      have hL8 := lt256 hL (by omega)
      have hR := rowW_lt HV.out HX.out q hqn
      have hP : 2 ^ q < 256 := lt256 (pow_lt (show q < q + 1 by omega)) (by omega)
      have e1 := or63 (lvl F x n (n - 1 - q)) (2 ^ q) hL8 hP
      have e2 := sets_without_nat ⟨lvl F x n (n - 1 - q), hL8⟩ ⟨q, by omega⟩ hL
      simp only [] at e2
      have hM : lvl F x n (n - 1 - q) % 2 ^ q < 256 := Nat.lt_of_le_of_lt (Nat.mod_le _ _) hL8
      have HN := shade (lvl_step F x n q hqn)
      have HRW := shade (show rowW F x n q = lvl F x n (n - 1 - q) ||| 2 ^ q from rfl)
      have HPW := shade (fun W => power_nat q (by omega) W)
      have HPA := shade (fun (a : Nat) (ha : a < q) W => power_nat a (by omega) W)
      have HLA := shade (fun (a : Nat) (ha : a < q) => show 2 ^ a < 256 from lt256 (pow_lt ha) (by omega))
      clear hL hR hL8 hP
      generalize lvl F x n (n - 1 - q) % 2 ^ q = M at *
      generalize lvl F x n (n - 1 - q) ||| 2 ^ q = R at *
      generalize lvl F x n (n - 1 - q) = L at *
      generalize 2 ^ q = P at *
      have fr := HS.out.free q
      have HS2 := shade (HS.out.set q R)
      have HF2 := shade (show ∀ j, q ≤ j → j < n → (if j = q then R else f j) = rowW F x n j from fun j h1 h2 => by
        by_cases e : j = q
        · rw [if_pos e, e, HRW.out]
        · rw [if_neg e]
          exact HF.out j (by omega) h2)
      have hcell := HS.out.cell q hqn
      have bl := HS.out.blk
      have HRD := shade (fun W => reads_any (F q).op W)
      have htk : tk (F q) = if wordN (F q).op.toList = 0 then 0 else 2 ^ (F q).a.toNat ||| 2 ^ (F q).b.toNat := rfl
      generalize F q = cc at *
      obtain ⟨op, a, b', kk⟩ := cc
      simp only [] at q0 q1 q2 q3 HRD htk
      have hok2 := (okW_told op a b' kk q).symm.trans hok
      rw [decide_eq_true_iff] at hok2
      clear hok
      have hbne : b ≠ w.heap.size := by
        rcases H.out with h | ⟨b1, o1, e, hb1, h⟩
        · omega
        · injection e with e
          injection e with ea eb
          omega
      have hbne2 : w.heap.size ≠ b := fun e => hbne e.symm
      have iq0 : (0 : Int) ≤ (q : Int) := by omega
      have iq : (q : Int) < (n : Int) := by omega
      by_cases e0 : wordN op.toList = 0
      · have HT := shade (show lvl F x n (n - q) = M by rw [HN.out, htk, if_pos e0, Nat.or_zero])
        have hr : (if wordN op.toList = 0 then (0 : Int) else 2) = 0 := if_pos e0
        rw [hr] at HRD
        clear htk HN e0 hr hok2
        go_wp2_with (first
          | (go_at_call 46; refine (HPW.out _).mono ?_; rintro e w' ⟨rfl, rfl⟩)
          | (go_at_call 104; refine (HRD.out _).mono ?_; rintro e w' ⟨rfl, rfl⟩)
          | go_in)
        exact ⟨⟨q, _, by omega, rfl, by rw [HT.out], HS2.out, HF2.out⟩, by simp [intOf]⟩
      · have hr : (if wordN op.toList = 0 then (0 : Int) else 2) = 2 := if_neg e0
        rw [hr] at HRD
        obtain ⟨a, rfl⟩ := Int.eq_ofNat_of_zero_le (show 0 ≤ a by omega)
        obtain ⟨b', rfl⟩ := Int.eq_ofNat_of_zero_le (show 0 ≤ b' by omega)
        have ha : a < q := by omega
        have hb : b' < q := by omega
        rw [if_neg e0] at htk
        simp only [Int.toNat_natCast] at htk
        have hA8 := HLA.out a ha
        have hB8 := HLA.out b' hb
        have hMA : M ||| 2 ^ a < 256 := Nat.or_lt_two_pow (n := 8) hM hA8
        have e3 := or63 M (2 ^ a) hM hA8
        have e4 := or63 (M ||| 2 ^ a) (2 ^ b') hMA hB8
        have HT := shade (show lvl F x n (n - q) = M ||| 2 ^ a ||| 2 ^ b' by rw [HN.out, htk, Nat.or_assoc])
        have HA := shade (fun W => HPA.out a ha W)
        have HB := shade (fun W => HPA.out b' hb W)
        clear htk HN e0 hr hok2 HPA HLA hA8 hB8 hMA hM
        generalize M ||| 2 ^ a ||| 2 ^ b' = N at *
        generalize M ||| 2 ^ a = M1 at *
        generalize 2 ^ a = PA at *
        generalize 2 ^ b' = PB at *
        go_wp2_with (first
          | (go_at_call 46; refine (HPW.out _).mono ?_; rintro e w' ⟨rfl, rfl⟩)
          | (go_at_call 104; refine (HRD.out _).mono ?_; rintro e w' ⟨rfl, rfl⟩)
          | go_in)
        go_quiet (first
          | (go_at_call 46; with_reducible exact Calls.quiet_of_same ((HA.out _).mono fun _ _ h => ⟨h.1, h.2.symm⟩))
          | (go_at_call 46; with_reducible exact Calls.quiet_of_same ((HB.out _).mono fun _ _ h => ⟨h.1, h.2.symm⟩)))
        go_wp2
        go_roundw
        case rel => exact ⟨q, _, by omega, rfl, by rw [HT.out], HS2.out.on (grown_drewN (grown_refl _ _) _), HF2.out⟩
        case measure => simp [intOf]
set_option maxHeartbeats 4000000 in
theorem liveWide_zero (A : Option Addr) (c : Nat) (x : Nat) (F : Nat → Wid) (w : World) : Calls Tryd.prog 89 #[.slice A 0 c, .int .i64 x] w (NumRes 0 (fun j => (rowW F x 0 j : Int)) w) := by
  obtain ⟨i0, hi, hz0, hz1, hz2⟩ := info_parts info3
  go_enter Tryd.func89, Tryd.ntmps89
  go_wp2_with (first
    | (at_make; refine wpList_make_full _ rfl _ _ 27 rfl w.heap.size 3 i0 (.int .i64 0) 1 Tryd.underlying27 hi hz0 hz1 .i64 .i64 0 0 0 rfl rfl rfl rfl (by rw [hz2]; omega) (by unfold maxLen; omega) (Nat.le_refl _) ?_)
    | go_in)
  intro w1 hown1 hgr1
  have HO := shade hown1
  have HG := shade hgr1
  clear hown1 hgr1
  go_wp2
  refine wp_loop_rounds 1 ?_
  rw [rounds_succ]
  go_wp2
  go_ret
  exact ⟨_, rfl, by rw [made_nums] at HO; exact HO.out, HG.out⟩
theorem liveWide_any (A : Option Addr) (n c x : Nat) (F : Nat → Wid) (w : World) (hv : vwB n F = true) (hx : x < 2 ^ n) (h : Wds w A n F) :
    Calls Tryd.prog 89 #[.slice A n c, .int .i64 x] w (NumRes n (fun j => (rowW F x n j : Int)) w) := by
  by_cases h0 : n = 0
  · subst h0
    exact liveWide_zero A c x F w
  · obtain ⟨b, off, rfl, _⟩ := h.resolve_left h0
    exact liveWide_at b off n c x F w hv hx h
theorem inRange_v (x lo hi : Int) (v : Bool) (hv : inB x lo hi = v) (w : World) : Calls Tryd.prog 82 #[.int .i64 x, .int .i64 lo, .int .i64 hi] w fun e w' => e = .returned (.bool v) ∧ w = w' := by
  rw [← hv]
  exact inRange_any x lo hi w
set_option maxHeartbeats 4000000 in
theorem validKept_any (A : Option Addr) (n c : Nat) (x : Int) (F : Nat → Wid) (w : World) (hn : n ≤ 9223372036854775807) (h : Wds w A n F) :
    Calls Tryd.prog 50 #[.slice A n c, .int .i64 x] w fun e w' => e = .returned (.bool (vkB n F x)) ∧ w.grownBy w' none := by
  have HV := shade (validWide_any A n c F w hn h)
  clear h
  unfold vkB
  rcases hv : vwB n F with _ | _
  · rw [hv] at HV
    clear hv
    go_enter Tryd.func50, Tryd.ntmps50
    go_wp2_with fail
    refine HV.out.mono ?_
    rintro e w2 ⟨rfl, hg⟩
    have HG := shade hg
    clear hg
    go_wp2
    go_ret
    exact ⟨rfl, HG.out⟩
  · rw [hv] at HV
    have hn8 := (vwB_iff.1 hv).2
    have hp8 := pow8 hn8
    have hk : ktB n x = inB x 0 (((2 ^ n : Nat) : Int) - 1) := by
      unfold ktB inB
      congr 1
      exact decide_eq_decide.2 (by omega)
    have HP := shade (fun W => power_nat n (by omega) W)
    have HI := shade (fun W => inRange_v x 0 (((2 ^ n : Nat) : Int) - 1) _ hk.symm W)
    clear hv hk
    generalize (2 ^ n : Nat) = p at *
    generalize ktB n x = v at *
    go_enter Tryd.func50, Tryd.ntmps50
    go_wp2_with fail
    refine HV.out.mono ?_
    rintro e w2 ⟨rfl, hg⟩
    have HG := shade hg
    clear hg
    go_wp2_with (first
      | (go_at_call 46; refine (HP.out _).mono ?_; rintro e w' ⟨rfl, rfl⟩)
      | (go_at_call 82; refine (HI.out _).mono ?_; rintro e w' ⟨rfl, rfl⟩)
      | go_in)
    go_ret
    exact ⟨rfl, HG.out⟩
end Go.Proofs.YtfckmechiochlaaDoor
