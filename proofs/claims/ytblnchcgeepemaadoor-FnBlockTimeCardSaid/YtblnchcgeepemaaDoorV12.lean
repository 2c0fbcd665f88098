/- The longest ways to the end, by the model. -/
import Derived.Test.YtblnchcgeepemaaDoorV11
import Derived.Test.YtblnchcgeepemaaDoorW968
namespace Go.Proofs.YtblnchcgeepemaaDoor
open Go.RowKit
set_option linter.unusedSimpArgs false
/-- A row of numbers of the call's own in which one is put. -/
theorem own_put {W : World} {B g n cap : Nat} {f : Nat → Int} (h : Own W B (some ⟨g, 0, none⟩) n cap f) (k : Nat) (x : Int) : Own (W.setCell ⟨g, k, none⟩ (.int .i64 x)) B (some ⟨g, 0, none⟩) n cap (fun j => if j = k then x else f j) := by
  have h1 := (World.ownsRow.stored h k (.int .i64 x)).1
  rw [numL_set n _ (fun j => if j = k then x else f j) k x (by simp) (fun j _ hne => by
    show _ = (if j = k then _ else _)
    rw [if_neg hne])] at h1
  exact h1
theorem made_zeros (n : Nat) : (madeCells #[Value.int .i64 0] n).toList = numL n (fun _ => 0) := by
  unfold madeCells numL
  simp
  intro a _
  rw [Nat.mod_one]
  rfl
/-- Heights while they are made. -/
structure Hts (w wr : World) (g n : Nat) (f : Nat → Int) : Prop where
  own : Own wr w.heap.size (some ⟨g, 0, none⟩) n n f
  low : w.grownBy wr none
theorem Hts.on {w wr w2 : World} {g n : Nat} {f : Nat → Int} (h : Hts w wr g n f) (hg : wr.grownBy w2 none) : Hts w w2 g n f := ⟨ownsRow_on h.own hg, grown_same h.low hg⟩
theorem Hts.put {w wr : World} {g n : Nat} {f : Nat → Int} (h : Hts w wr g n f) (k : Nat) (x : Int) : Hts w (wr.setCell ⟨g, k, none⟩ (.int .i64 x)) g n (fun j => if j = k then x else f j) :=
  ⟨own_put h.own k x, grown_then h.low (grown_set g k _) h.own.lt.1⟩
set_option maxRecDepth 100000 in
set_option maxHeartbeats 8000000 in
theorem sHeights_at (b off n c : Nat) (F : Nat → Ins) (w : World) (hn : n ≤ 6) (hv : ∀ j, j < n → vI (F j) = true) (h : Code w (some ⟨b, off, none⟩) n F) :
    Calls Tryd.prog 21 #[.slice (some ⟨b, off, none⟩) n c] w (NumRes n (hgt F n) w) := by
  have HB := shade hv
  have H := shade h
  clear h hv
  obtain ⟨i1, hi1, hy0, hy1, hy2⟩ := info_parts info3p
  have HJ := shade (And.intro hi1 (And.intro hy0 (And.intro hy1 hy2)))
  clear hi1 hy0 hy1 hy2
  go_enter Tryd.func21, Tryd.ntmps21
  go_wp2_with (first
    | (at_make; refine wpList_make_full _ rfl _ _ 25 rfl w.heap.size 3 i1 (.int .i64 0) 1 Tryd.underlying25 HJ.out.1 HJ.out.2.1 HJ.out.2.2.1 .i64 .i64 n n n rfl rfl rfl rfl (by rw [HJ.out.2.2.2]; omega) (by unfold maxLen; omega) (Nat.le_refl _) ?_)
    | go_in)
  intro w3 hown3 hgr3
  rw [made_zeros] at hown3
  have hL : b < w.heap.size ∨ n = 0 := by
    rcases H.out with h0 | ⟨b', o', e, hb, _⟩
    · exact .inr h0
    · injection e with e
      injection e with e1 e2
      exact .inl (by omega)
  have K0 := shade (show Hts w w3 w.heap.size n (fun _ => 0) from ⟨hown3, hgr3⟩)
  obtain ⟨g, hg⟩ : ∃ g, w.heap.size = g := ⟨_, rfl⟩
  have HGE := shade hg
  rw [hg] at K0 hL
  clear hown3 hgr3
  go_wp2_with fail
  try rw [hg]
  clear hg
  go_loopw [4] (fun v wr => ∃ (t : Nat) (f : Nat → Int), t ≤ n ∧ v = .int .i64 ((n : Int) - 1 - (t : Int)) ∧ (∀ j, n ≤ j + t → j < n → f j = hgt F n j) ∧ Hts w wr g n f) (fun v _ => (intOf v + 1).toNat)
  case atStart => exact ⟨0, _, Nat.zero_le _, by simp, fun j h1 h2 => by omega, K0.out⟩
  case round =>
    clear K0
    obtain ⟨t, f, ht, rfl, hf, hh⟩ := hrel
    have HF := shade hf; have HH := shade hh
    clear hf hh
    by_cases htn : t < n
    · obtain ⟨q, hq1, hq2⟩ : ∃ q : Nat, n ≤ q + t + 1 ∧ q + t + 1 ≤ n := ⟨n - 1 - t, by omega, by omega⟩
      have e1 : (n : Int) - 1 - (t : Int) = (q : Int) := by omega
      rw [e1]
      have HE1 := shade e1
      clear e1
      have hqn : q < n := by omega
      obtain ⟨q0, -, -, -, -⟩ := (H.out.on HH.out.low).five hqn
      have HLA := shade (fun W => latency_any (F q).op W)
      have hlr := hgt_rng F hn
      have HSX := shade (hgt_spec (F := F) hqn)
      have HS0 := shade (show sx (latF F q) (fun j => wtR F (q + 1 + j) q) (fun j => hgt F n (q + 1 + j)) 0 = lat (F q).op.toList from rfl)
      obtain ⟨SX, hSX⟩ : ∃ SX, sx (latF F q) (fun j => wtR F (q + 1 + j) q) (fun j => hgt F n (q + 1 + j)) = SX := ⟨_, rfl⟩
      have HST := shade (show ∀ m, SX (m + 1) = if 0 < wtR F (q + 1 + m) q then max (SX m) (hgt F n (q + 1 + m) + wtR F (q + 1 + m) q) else SX m from fun m => by rw [← hSX]; rfl)
      have HPT := shade (show ∀ m, m ≤ t → 1 ≤ SX m ∧ SX m ≤ 21 from fun m hm => by
        rw [← hSX]
        have h1 := sx_mono (a := latF F q) (w := fun j => wtR F (q + 1 + j) q) (g := fun j => hgt F n (q + 1 + j)) (show m ≤ n - 1 - q by omega)
        rw [HSX.out] at h1
        have h2 := (sx_le.1 (Int.le_refl (sx (latF F q) (fun j => wtR F (q + 1 + j) q) (fun j => hgt F n (q + 1 + j)) m))).1
        have h3 := lat_rng (F q).op.toList
        have h4 : latF F q = lat (F q).op.toList := rfl
        have h5 := hlr q
        omega)
      rw [hSX] at HSX HS0
      clear hSX
      obtain ⟨x, hx⟩ : ∃ x, lat (F q).op.toList = x := ⟨_, rfl⟩
      rw [hx] at HLA HS0
      clear hx
      have hgl := HH.out.own.lt
      have o0 := HH.out.own.nums.cell hqn
      rw [Nat.zero_add] at o0
      have f0 := World.ownsRow.frozenAt HH.out.own q
      have HP0 := shade (HH.out.put q x)
      have iq : (q : Int) < (n : Int) := by omega
      have iq0 : (0 : Int) ≤ (q : Int) := by omega
      go_wp2_with fail
      refine (HLA.out _).mono ?_
      rintro e w4 ⟨rfl, rfl⟩
      go_wp2_with fail
      obtain ⟨W5, hW5⟩ : ∃ W5, wr.setCell ⟨g, q, none⟩ (.int .i64 x) = W5 := ⟨_, rfl⟩
      rw [hW5] at HP0 ⊢
      clear hW5 o0 f0 q0
      have HF0 := shade (show ∀ j, q < j → j < n → (fun j => if j = q then x else f j) j = hgt F n j from fun j h1 h2 => by
        show (if j = q then x else f j) = _
        rw [if_neg (by omega)]
        exact HF.out j (by omega) h2)
      have HX0 := shade (show (fun j => if j = q then x else f j) q = SX 0 from by
        show (if q = q then x else f q) = _
        rw [if_pos rfl, HS0.out])
      clear HF HS0 HLA
      go_loopw [5] (fun v wq => ∃ (m : Nat) (f' : Nat → Int), m ≤ t ∧ v = .int .i64 ((q : Int) + 1 + (m : Int)) ∧ (∀ j, q < j → j < n → f' j = hgt F n j) ∧ f' q = SX m ∧ Hts w wq g n f') (fun v _ => (n - intOf v).toNat)
      case atStart => exact ⟨0, _, Nat.zero_le _, by simp, HF0.out, HX0.out, HP0.out⟩
      case round =>
        clear HF0 HX0 HP0 HH
        obtain ⟨m, f', hm, rfl, hf', hq', hh⟩ := hrel
        have HF := shade hf'; have HH := shade hh
        clear hf' hh
        by_cases hmt : m < t
        · obtain ⟨y, hy⟩ : ∃ y, SX m = y := ⟨_, rfl⟩
          rw [hy] at hq'
          have hkn : q + 1 + m < n := by omega
          obtain ⟨q0, q1, q2, q3, q4⟩ := (H.out.on HH.out.low).five hqn
          obtain ⟨r0, r1, r2, r3, r4⟩ := (H.out.on HH.out.low).five hkn
          have HW := shade (fun W => waits_any (F q) (F (q + 1 + m)) (HB.out q hqn) (HB.out (q + 1 + m) hkn) W)
          have hwr := wtI_rng (F q) (F (q + 1 + m))
          have hst := HST.out m
          have hww : wtR F (q + 1 + m) q = wtI (F q) (F (q + 1 + m)) := rfl
          rw [hww, hy] at hst
          have p1 := HPT.out m (by omega)
          have p2 := HPT.out (m + 1) (by omega)
          rw [hy] at p1
          have hz := HF.out (q + 1 + m) (by omega) hkn
          have hzr := hlr (q + 1 + m)
          obtain ⟨z, hz2⟩ : ∃ z, hgt F n (q + 1 + m) = z := ⟨_, rfl⟩
          rw [hz2] at hz hzr hst
          obtain ⟨y', hy'⟩ : ∃ y', SX (m + 1) = y' := ⟨_, rfl⟩
          rw [hy'] at hst p2
          have HY := shade hy'; have HQ := shade hq'; have HZ := shade hz
          clear hww hy hz2 hy' hq' hz
          generalize wtI (F q) (F (q + 1 + m)) = xx at *
          generalize F q = cc at *
          obtain ⟨op, d, a, b', kk⟩ := cc
          generalize F (q + 1 + m) = dd at *
          obtain ⟨op2, d2, a2, b2', kk2⟩ := dd
          simp only [] at q0 q1 q2 q3 q4 r0 r1 r2 r3 r4 HW
          obtain ⟨k, hk⟩ : ∃ k, q + 1 + m = k := ⟨_, rfl⟩
          have hki : (q : Int) + 1 + (m : Int) = (k : Int) := by omega
          rw [hki]
          rw [hk] at r0 r1 r2 r3 r4 HZ hkn
          have HC := shade (ten_row (grown_drew1 wr) (by intro e; cases e) (by intro e; cases e) ⟨q0, q1, q2, q3, q4, r0, r1, r2, r3, r4⟩)
          have HH := shade (HH.out.on (grown_drew1 wr))
          have kq : (k : Int) < (n : Int) := by omega
          have kq0 : (0 : Int) ≤ (k : Int) := by omega
          have HK := shade hk
          have HKI := shade hki
          have HSTX := shade hst
          clear q0 q1 q2 q3 q4 r0 r1 r2 r3 r4 hk hki hst
          go_wp2_with fail
          go_region_held3 (fun w' => w'.cell? ⟨b, off + q * 5, none⟩ = some (.string op) ∧ w'.cell? ⟨b, off + q * 5 + 1, none⟩ = some (.int .i64 d) ∧ w'.cell? ⟨b, off + q * 5 + 2, none⟩ = some (.int .i64 a) ∧ w'.cell? ⟨b, off + q * 5 + 3, none⟩ = some (.int .i64 b') ∧ w'.cell? ⟨b, off + q * 5 + 4, none⟩ = some (.int .i64 kk) ∧ w'.cell? ⟨b, off + k * 5, none⟩ = some (.string op2) ∧ w'.cell? ⟨b, off + k * 5 + 1, none⟩ = some (.int .i64 d2) ∧ w'.cell? ⟨b, off + k * 5 + 2, none⟩ = some (.int .i64 a2) ∧ w'.cell? ⟨b, off + k * 5 + 3, none⟩ = some (.int .i64 b2') ∧ w'.cell? ⟨b, off + k * 5 + 4, none⟩ = some (.int .i64 kk2))
            (exact HC.out)
            ((go_at_call 40; refine (HW.out _).mono ?_; rintro e w3 ⟨rfl, hg3⟩; have HC := shade (ten_row hg3 (by intro e; cases e) (by intro e; cases e) HC.out); have HH := shade (HH.out.on hg3); clear hg3))
          rename_i hHeld
          clear hHeld
          have o1 := HH.out.own.nums.cell hqn
          have o2 := HH.out.own.nums.cell hkn
          rw [Nat.zero_add, HQ.out] at o1
          rw [Nat.zero_add, HZ.out] at o2
          have f0 := World.ownsRow.frozenAt HH.out.own q
          have HPU := shade (fun v : Int => (HH.out.on (grown_drew1 _)).put q v)
          have HFN := shade (show ∀ (v : Int) j, q < j → j < n → (fun j => if j = q then v else f' j) j = hgt F n j from fun v j h1 h2 => by
            show (if j = q then v else f' j) = _
            rw [if_neg (by omega)]
            exact HF.out j h1 h2)
          by_cases hx : 0 < xx
          · have hwz : IntKind.i64.wrap (xx + z) = xx + z := by rw [IntKind.wrap_i64]; omega
            go_wp2_with fail
            go_region_with (fail)
            all_goals
              go_wp2_with fail
              go_roundw
              case rel => exact ⟨m + 1, _, by omega, by rw [← HKI.out]; go_num, HFN.out _, (by
                show (if q = q then _ else _) = _
                rw [if_pos rfl, HY.out, HSTX.out, if_pos hx]
                (try rw [hwz])
                split <;> omega), HPU.out _⟩
              case measure => simp [intOf]; omega
          · go_wp2_with fail
            go_roundw
            case rel => exact ⟨m + 1, f', by omega, by rw [← HKI.out]; go_num, HF.out, (by rw [HQ.out, HY.out, HSTX.out, if_neg hx]), HH.out⟩
            case measure => simp [intOf]; omega
        · obtain rfl : m = t := by omega
          have HFN := shade (show ∀ j, n ≤ j + (m + 1) → j < n → f' j = hgt F n j from fun j h1 h2 => by
            by_cases e : j = q
            · rw [e, hq', ← HSX.out, show n - 1 - q = m by omega]
            · exact HF.out j (by omega) h2)
          have hki : (q : Int) + 1 + (m : Int) = (n : Int) := by omega
          rw [hki]
          clear hq'
          have HQI := shade (show (q : Int) - 1 = (n : Int) - 1 - ((m : Int) + 1) by omega)
          clear hki
          go_wp2_with fail
          go_roundw
          case rel => exact ⟨m + 1, f', by omega, by rw [HQI.out]; go_num, HFN.out, HH.out⟩
          case measure => simp [intOf]
    · obtain rfl : t = n := by omega
      have HR := shade (show numL t f = numL t (hgt F t) from numL_congr _ _ _ (fun j hj => HF.out j (by omega) hj))
      have e1 : (t : Int) - 1 - (t : Int) = -1 := by omega
      rw [e1]
      go_wp2_with fail
      go_ret
      exact ⟨_, rfl, (by rw [← HR.out]; exact HH.out.own), HH.out.low⟩

end Go.Proofs.YtblnchcgeepemaaDoor
