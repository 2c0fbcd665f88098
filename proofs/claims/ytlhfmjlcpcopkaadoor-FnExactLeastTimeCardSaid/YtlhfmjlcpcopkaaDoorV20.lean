/- The least time, by the model and by the program. -/
import Derived.Test.YtlhfmjlcpcopkaaDoorV16
import Derived.Test.YtlhfmjlcpcopkaaDoorV19
namespace Go.Proofs.YtlhfmjlcpcopkaaDoor
open Go.RowKit
set_option linter.unusedSimpArgs false
/-- What LeastTime tells. -/
def ltB (n : Nat) (F : Nat → Ins) : Int := if blB n F = true then (match n with | 0 => 0 | m + 1 => max (mxN (hgt F (m + 1)) m) ((m : Int) + mnN (latF F) m)) else -1
theorem ltB_no {n : Nat} {F : Nat → Ins} (h : blB n F = false) : ltB n F = -1 := by
  unfold ltB
  rw [h]
  rfl
theorem ltB_zero {F : Nat → Ins} (h : blB 0 F = true) : ltB 0 F = 0 := by
  unfold ltB
  rw [h]
  rfl
theorem ltB_pos {m : Nat} {F : Nat → Ins} (h : blB (m + 1) F = true) : ltB (m + 1) F = max (mxN (hgt F (m + 1)) m) ((m : Int) + mnN (latF F) m) := by
  unfold ltB
  rw [h]
  rfl
def oS (f : Nat → Int) : Nat → Int
  | 0 => 0
  | k + 1 => mxN f k
def lS (f : Nat → Int) : Nat → Int
  | 0 => 0
  | k + 1 => mnN f k
theorem oS_next {f : Nat → Int} (h : ∀ j, 1 ≤ f j) : ∀ k, oS f (k + 1) = max (oS f k) (f k)
  | 0 => by
    have := h 0
    show f 0 = max 0 (f 0)
    omega
  | k + 1 => rfl
theorem lS_next (f : Nat → Int) : ∀ k, lS f (k + 1) = if k = 0 ∨ f k < lS f k then f k else lS f k
  | 0 => by
    rw [if_pos (.inl rfl)]
    rfl
  | k + 1 => by
    show min (mnN f k) (f (k + 1)) = if k + 1 = 0 ∨ f (k + 1) < mnN f k then f (k + 1) else mnN f k
    split <;> omega
theorem oS_rng {f : Nat → Int} (h : ∀ j, 1 ≤ f j ∧ f j ≤ 21) : ∀ k, 0 ≤ oS f k ∧ oS f k ≤ 21
  | 0 => by
    show (0 : Int) ≤ 0 ∧ (0 : Int) ≤ 21
    omega
  | k + 1 => by
    have := mxN_rng h k
    show 0 ≤ mxN f k ∧ mxN f k ≤ 21
    omega
theorem lS_rng {f : Nat → Int} (h : ∀ j, 1 ≤ f j ∧ f j ≤ 3) : ∀ k, 0 ≤ lS f k ∧ lS f k ≤ 3
  | 0 => by
    show (0 : Int) ≤ 0 ∧ (0 : Int) ≤ 3
    omega
  | k + 1 => by
    have := mnN_rng h k
    show 0 ≤ mnN f k ∧ mnN f k ≤ 3
    omega
theorem latF_rng (F : Nat → Ins) (j : Nat) : 1 ≤ latF F j ∧ latF F j ≤ 3 := lat_rng (F j).op.toList
set_option maxRecDepth 100000 in
set_option maxHeartbeats 4000000 in
theorem SLeastTime_any (A : Option Addr) (n c : Nat) (F : Nat → Ins) (w : World) (hn : n ≤ 9223372036854775807) (h : Code w A n F) :
    Calls Tryd.prog 37 #[.slice A n c] w fun e w' => e = .returned (.int .i64 (ltB n F)) ∧ w.grownBy w' none := by
  have HV := shade (validBlock_any A n c F w hn h)
  rcases hv : blB n F with _ | _
  · rw [ltB_no hv]
    rw [hv] at HV
    clear h hv
    go_enter Tryd.func37, Tryd.ntmps37
    go_wp2_with fail
    refine HV.out.mono ?_
    rintro e w1 ⟨rfl, hg⟩
    have HG := shade hg
    clear hg
    go_wp2_with fail
    go_ret
    exact ⟨rfl, HG.out⟩
  · rw [hv] at HV
    have h6 := blB_6 hv
    rcases n with _ | m
    · rw [ltB_zero hv]
      have HH := shade (fun W => sHeights_zero A c (fun _ => 0) W)
      clear h hv
      go_enter Tryd.func37, Tryd.ntmps37
      go_wp2_with fail
      refine HV.out.mono ?_
      rintro e w1 ⟨rfl, hg⟩
      have HG := shade hg
      clear hg
      go_wp2_with fail
      refine (HH.out _).mono ?_
      rintro e w2 h2
      obtain ⟨v, rfl, hR, hg2⟩ := NumRes.row h2
      obtain ⟨A3, c3, rfl, -⟩ := hR.nums
      have HG2 := shade (grown_same HG.out hg2)
      clear h2 hR hg2
      go_wp2_with fail
      refine wp_loop_rounds 1 ?_
      rw [rounds_succ]
      go_wp2_with fail
      refine wp_loop_rounds 1 ?_
      rw [rounds_succ]
      go_wp2_with fail
      go_ret
      exact ⟨rfl, HG2.out⟩
    · rw [ltB_pos hv]
      obtain ⟨b, off, rfl, -⟩ := h.resolve_left (by omega)
      have HH := shade (fun W (hC : Code W (some ⟨b, off, none⟩) (m + 1) F) => sHeights_at b off (m + 1) c F W h6 (fun j hj => blI_v (blB_at hv hj)) hC)
      have HC := shade h
      have hrg := hgt_rng F (n := m + 1) (by omega)
      have HN1 := shade (oS_next (f := hgt F (m + 1)) (fun j => (hrg j).1))
      have HR1 := shade (oS_rng hrg)
      have HR2 := shade (lS_rng (latF_rng F))
      have HLA := shade (fun j W => latency_any (F j).op W)
      clear h hv hrg
      go_enter Tryd.func37, Tryd.ntmps37
      go_wp2_with fail
      refine HV.out.mono ?_
      rintro e w1 ⟨rfl, hg⟩
      have HG := shade hg
      clear hg
      go_wp2_with fail
      refine (HH.out _ (HC.out.on HG.out)).mono ?_
      rintro e w2 h2
      obtain ⟨v, rfl, hR, hg2⟩ := NumRes.row h2
      obtain ⟨A3, c3, rfl, hN⟩ := hR.nums
      obtain ⟨b3, off3, rfl, -⟩ := hN.resolve_left (by omega)
      have HG2 := shade (grown_same HG.out hg2); have HN := shade hN
      clear h2 hR hg2 hN
      go_wp2_with fail
      go_loopw [3, 5] (fun u i wr => ∃ q : Nat, q ≤ m + 1 ∧ u = .int .i64 (oS (hgt F (m + 1)) q) ∧ i = .int .i64 (q : Int) ∧ wr = w2) (fun _ i _ => m + 1 - (intOf i).toNat)
      case atStart => exact ⟨0, Nat.zero_le _, rfl, rfl, rfl⟩
      case round =>
        obtain ⟨q, hq, rfl, rfl, rfl⟩ := hrel
        by_cases hqm : q < m + 1
        · have c1 := HN.out.cell hqm
          have i0 : (q : Int) < (m : Int) + 1 := by omega
          have i1 : (0 : Int) ≤ (q : Int) := by omega
          have HX := shade (HN1.out q)
          obtain ⟨x, hx⟩ : ∃ x, oS (hgt F (m + 1)) q = x := ⟨_, rfl⟩
          obtain ⟨y, hy⟩ : ∃ y, hgt F (m + 1) q = y := ⟨_, rfl⟩
          rw [hx, hy] at HX
          rw [hy] at c1
          rw [hx]
          clear hx hy
          go_wp2_with fail
          all_goals
            go_roundw
            case rel => exact ⟨q + 1, by omega, by rw [HX.out]; first | done | (congr 1 <;> (first | omega | (split <;> omega))), by go_num, trivial⟩
            case measure => simp [intOf]; omega
        · obtain rfl : q = m + 1 := by omega
          have HTOP := shade (HR1.out (m + 1))
          obtain ⟨top, htop⟩ : ∃ top, oS (hgt F (m + 1)) (m + 1) = top := ⟨_, rfl⟩
          rw [htop] at HTOP ⊢
          have HTO := shade htop
          clear htop
          go_wp2_with fail
          go_loopw [6, 7] (fun u i wr => ∃ q : Nat, q ≤ m + 1 ∧ u = .int .i64 (lS (latF F) q) ∧ i = .int .i64 (q : Int) ∧ w.grownBy wr none) (fun _ i _ => m + 1 - (intOf i).toNat)
          case atStart => exact ⟨0, Nat.zero_le _, rfl, rfl, HG2.out⟩
          case round =>
            obtain ⟨q, hq, rfl, rfl, hgw⟩ := hrel
            have HGW := shade hgw
            clear hgw
            by_cases hqm : q < m + 1
            · obtain ⟨q0, -, -, -, -⟩ := (HC.out.on HGW.out).five hqm
              have i0 : (q : Int) < (m : Int) + 1 := by omega
              have i1 : (0 : Int) ≤ (q : Int) := by omega
              have HX := shade (lS_next (latF F) q)
              have HLQ := shade (fun W => HLA.out q W)
              have hly : latF F q = lat (F q).op.toList := rfl
              rw [← hly] at HLQ
              obtain ⟨x, hx⟩ : ∃ x, lS (latF F) q = x := ⟨_, rfl⟩
              obtain ⟨y, hy⟩ : ∃ y, latF F q = y := ⟨_, rfl⟩
              rw [hy] at HLQ
              rw [hx, hy] at HX
              rw [hx]
              clear hx hy hly
              by_cases hq0 : q = 0
              · subst hq0
                simp only [Nat.zero_mul, Nat.add_zero] at q0
                go_wp2_with (first | (refine (HLQ.out _).mono ?_; rintro e w9 ⟨rfl, rfl⟩) | fail)
                all_goals
                  go_roundw
                  case rel =>
                    refine ⟨_, _, _, _, _, _, _, _, _, _, _, _, _, _, _, _, _, _, _, _, _, _, _, _, _, _, ?_, rfl⟩
                    exact ⟨1, by omega, by rw [HX.out]; first | done | (congr 1 <;> (first | omega | (split <;> omega))), by go_num, HGW.out⟩
                  case measure => simp [intOf]
              · have e0 : ((q : Int) == 0) = false := beq_eq_false_iff_ne.2 (by omega)
                by_cases hyx : y < x
                · go_wp2_with (first | (refine (HLQ.out _).mono ?_; rintro e w9 ⟨rfl, rfl⟩) | fail)
                  all_goals
                    go_roundw
                    case rel =>
                      refine ⟨_, _, _, _, _, _, _, _, _, _, _, _, _, _, _, _, _, _, _, _, _, _, _, _, _, _, ?_, rfl⟩
                      exact ⟨q + 1, by omega, by rw [HX.out]; first | done | (congr 1 <;> (first | omega | (split <;> omega))), by go_num, HGW.out⟩
                    case measure => simp [intOf]; omega
                · go_wp2_with (first | (refine (HLQ.out _).mono ?_; rintro e w9 ⟨rfl, rfl⟩) | fail)
                  all_goals
                    go_roundw
                    case rel =>
                      refine ⟨_, _, _, _, _, _, _, _, _, _, _, _, _, _, _, _, _, _, _, _, _, _, _, _, _, _, ?_, rfl⟩
                      exact ⟨q + 1, by omega, by rw [HX.out]; first | done | (congr 1 <;> (first | omega | (split <;> omega))), by go_num, HGW.out⟩
                    case measure => simp [intOf]; omega
            · obtain rfl : q = m + 1 := by omega
              have HLO := shade (HR2.out (m + 1))
              obtain ⟨low, hlow⟩ : ∃ low, lS (latF F) (m + 1) = low := ⟨_, rfl⟩
              rw [hlow] at HLO ⊢
              have HL2 := shade hlow
              have h1 := HLO.out
              have h2 := HTOP.out
              clear hlow
              go_wp2_with fail
              all_goals
                have e1 : mxN (hgt F (m + 1)) m = top := HTO.out
                have e2 : mnN (latF F) m = low := HL2.out
                rw [e1, e2]
                (first | rw [show max top ((m : Int) + low) = top by omega] | rw [show max top ((m : Int) + low) = (m : Int) + low by omega])
                go_ret
                exact ⟨rfl, HGW.out⟩
set_option maxRecDepth 100000 in
set_option maxHeartbeats 4000000 in
theorem ILeastTime_any (A : Option Addr) (n c : Nat) (F : Nat → Ins) (w : World) (hw : WT w) (hn : n ≤ 9223372036854775807) (hcap : n ≤ c) (h : Code w A n F) :
    Calls Tryd.prog 38 #[.slice A n c] w fun e w' => e = .returned (.int .i64 (ltB n F)) ∧ w.grownBy w' none := by
  rcases hv : blB n F with _ | _
  · rw [ltB_no hv]
    have HB := shade (IBlockOf_no A n c F w hw hv hn h)
    clear h hv
    go_enter Tryd.func38, Tryd.ntmps38
    go_wp2_with fail
    refine HB.out.mono ?_
    rintro e w1 ⟨rfl, hg⟩
    have HG := shade (grown_same hg (World.grownBy_alloc w1 (.cells #[.slice none 0 0, .slice none 0 0] 61) none))
    clear hg
    go_wp2_with fail
    go_ret
    exact ⟨rfl, HG.out⟩
  · have h6 := blB_6 hv
    have HB := shade (IBlockOf_any A n c F w hw hcap hv h)
    rcases n with _ | m
    · rw [ltB_zero hv]
      clear h hv
      go_enter Tryd.func38, Tryd.ntmps38
      go_wp2_with fail
      refine HB.out.mono ?_
      rintro e w1 ⟨tv, wv, AS, rfl, ht, hr, -, hg⟩
      have HG := shade (grown_same hg (World.grownBy_alloc w1 (.cells #[tv, wv] 61) none))
      obtain ⟨A1, c1, rfl, -⟩ := ownsRow_slice ht
      obtain ⟨A2, c2, rfl, -⟩ := hr.shape
      clear hg ht hr
      go_wp2_with fail
      go_ret
      exact ⟨rfl, HG.out⟩
    · rw [ltB_pos hv]
      have HH := shade (fun W (hg : w.grownBy W none) => IHeightsOf_any A (m + 1) c F W (hw.below (below_of_grown hg) (wt_lt hw)) hn hcap (h.on hg))
      rw [nB_yes hv] at HH
      have hrg := hgt_rng F (n := m + 1) (by omega)
      have HR1 := shade (mxN_rng hrg m)
      have HR2 := shade (mnN_rng (latF_rng F) m)
      clear h hv hrg
      go_enter Tryd.func38, Tryd.ntmps38
      go_wp2_with fail
      refine HB.out.mono ?_
      rintro e w1 ⟨tv, wv, AS, rfl, ht, hr, -, hg⟩
      have HTR := shade (show RowO w1 w.heap.size w1.heap.size 3 tv (m + 1) (numL (m + 1) (latF F)) from ⟨ht, fun b hb => (World.ownsRow.lt ht b hb).2⟩)
      obtain ⟨A1, c1, rfl, -⟩ := ownsRow_slice ht
      obtain ⟨A2, c2, rfl, -⟩ := hr.shape
      have HG := shade (grown_same hg (World.grownBy_alloc w1 (.cells #[.slice A1 (m + 1) c1, .slice A2 (m + 1) c2] 61) none))
      have HX := shade (Holds5.fresh w1 61 #[.slice A1 (m + 1) c1, .slice A2 (m + 1) c2])
      have HT1 := shade (HTR.out.grown (World.grownBy_alloc w1 (.cells #[.slice A1 (m + 1) c1, .slice A2 (m + 1) c2] 61) none))
      clear hg ht hr
      go_wp2_with fail
      obtain ⟨W1, hW1⟩ : ∃ W1, w1.alloc (.cells #[.slice A1 (m + 1) c1, .slice A2 (m + 1) c2] 61) = W1 := ⟨_, rfl⟩
      obtain ⟨Bb, hBb⟩ : ∃ Bb, w1.heap.size = Bb := ⟨_, rfl⟩
      rw [hW1] at HG HX HT1
      rw [hBb] at HX HT1
      simp only [hW1, hBb]
      clear hW1 hBb
      have HX3 := shade HX.out.drew
      have HG3 := shade (grown_same HG.out (grown_drew1 W1))
      have HT3 := shade (HT1.out.grown (grown_drew1 W1))
      have h1 := HR1.out; have h2 := HR2.out
      obtain ⟨top, htop⟩ : ∃ top, mxN (hgt F (m + 1)) m = top := ⟨_, rfl⟩
      obtain ⟨low, hlow⟩ : ∃ low, mnN (latF F) m = low := ⟨_, rfl⟩
      rw [htop] at h1
      rw [hlow] at h2
      have HTO := shade htop; have HLO := shade hlow
      clear htop hlow
      have hws : IntKind.i64.wrap ((m : Int) + low) = m + low := by rw [IntKind.wrap_i64]; omega
      go_region_held3 (fun w' => w'.cell? ⟨Bb, 0, none⟩ = some (.slice A1 (m + 1) c1) ∧ w'.cell? ⟨Bb, 1, none⟩ = some (.slice A2 (m + 1) c2))
        (exact ⟨HX3.out.look 0, HX3.out.look 1⟩)
        (first
          | (go_at_call 36; refine (HH.out _ HG3.out).mono ?_; rintro e w3 h3; obtain ⟨v3, rfl, hR3, hg3⟩ := NumRes.row h3; obtain ⟨A4, c4, rfl, -⟩ := hR3.nums; have HX3 := shade (HX3.out.grown hg3 (by intro e; cases e)); have HG3 := shade (grown_same HG3.out hg3); have HT3 := shade (HT3.out.grown hg3); have HR3 := shade hR3; clear h3 hR3 hg3)
          | (go_at_call 69; refine (maxNums_any _ _ _ m _ _ (by omega) HR3.out).mono ?_; rw [HTO.out]; rintro e w4 ⟨rfl, hg4⟩; have HX3 := shade (HX3.out.grown hg4 (by intro e; cases e)); have HG3 := shade (grown_same HG3.out hg4); have HT3 := shade (HT3.out.grown hg4); clear hg4)
          | (go_at_call 70; refine (minNums_any _ _ _ m _ _ (by omega) HT3.out).mono ?_; rw [HLO.out]; rintro e w5 ⟨rfl, hg5⟩; have HX3 := shade (HX3.out.grown hg5 (by intro e; cases e)); have HG3 := shade (grown_same HG3.out hg5); clear hg5))
      all_goals
        rename_i hHeld
        clear hHeld
        go_wp2_with fail
      all_goals
        rw [HTO.out, HLO.out]
        have hw2 : IntKind.i64.wrap (IntKind.i64.wrap (m : Int) + low) = m + low := by rw [show IntKind.i64.wrap (m : Int) = m by rw [IntKind.wrap_i64]; omega, hws]
        obtain ⟨z2, hz2⟩ : ∃ z2, IntKind.i64.wrap (IntKind.i64.wrap (m : Int) + low) = z2 := ⟨_, rfl⟩
        simp only [hz2] at *
        subst hw2
        (first | rw [show max top ((m : Int) + low) = top by omega] | rw [show max top ((m : Int) + low) = (m : Int) + low by omega])
        go_ret
        exact ⟨rfl, HG3.out⟩

end Go.Proofs.YtlhfmjlcpcopkaaDoor
