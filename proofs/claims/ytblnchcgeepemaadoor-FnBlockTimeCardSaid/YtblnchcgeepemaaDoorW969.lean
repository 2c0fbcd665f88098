/- When the instructions of an order begin and when all are done, by the program. -/
import Derived.Test.YtblnchcgeepemaaDoorW963
import Derived.Test.YtblnchcgeepemaaDoorW968
namespace Go.Proofs.YtblnchcgeepemaaDoor
open Go.RowKit
set_option linter.unusedSimpArgs false
/-- The ticks and waits of a block, as the world has them. -/
structure Blk (wr : World) (lo hi : Nat) (tv wv : Value) (AS : Nat → Value) (n : Nat) (F : Nat → Ins) : Prop where
  tk : RowO wr lo hi 3 tv n (numL n (latF F))
  ws : Rws wr lo hi wv n AS lnW (wtR F)
theorem Blk.grown {wr w2 : World} {lo hi n : Nat} {tv wv : Value} {AS : Nat → Value} {F : Nat → Ins} (h : Blk wr lo hi tv wv AS n F) (hg : wr.grownBy w2 none) : Blk w2 lo hi tv wv AS n F := ⟨h.tk.grown hg, h.ws.grown hg⟩
/-- An order of instructions of a row of n. -/
def Ord (n m : Nat) (o : Nat → Nat) : Prop := ∀ j, j < m → o j < n
theorem mx_mono {a : Int} {g : Nat → Int} {i k : Nat} (h : i ≤ k) : mx a g i ≤ mx a g k := mx_le.2 ⟨(mx_ge a g k).1, fun j hj => (mx_ge a g k).2 j (by omega)⟩
set_option maxRecDepth 100000 in
set_option maxHeartbeats 8000000 in
theorem iBegins_any (lo hi : Nat) (tv wv : Value) (AS : Nat → Value) (n : Nat) (F : Nat → Ins) (Ao : Option Addr) (m co : Nat) (ord : Nat → Nat) (w : World) (hm : m ≤ 6) (hb : Blk w lo hi tv wv AS n F) (ho : Nums w Ao m (fun j => (ord j : Int))) (hl : Ord n m ord) :
    Calls Tryd.prog 25 #[.agg #[tv, wv], .slice Ao m co] w (NumRes m (bg F ord) w) := by
  obtain ⟨At, ct, rfl, -⟩ := hb.tk.nums
  obtain ⟨Aw, cw, rfl, -⟩ := hb.ws.shape
  have HB := shade hb; have HO := shade ho; have HL := shade hl
  clear hb ho hl
  obtain ⟨i1, hi1, hy0, hy1, hy2⟩ := info_parts info3p
  have HJ := shade (And.intro hi1 (And.intro hy0 (And.intro hy1 hy2)))
  clear hi1 hy0 hy1 hy2
  have HX := shade (Holds5.fresh w 41 #[.slice At n ct, .slice Aw n cw])
  have G0 := shade (World.grownBy_alloc w (.cells #[.slice At n ct, .slice Aw n cw] 41) none)
  go_enter Tryd.func25, Tryd.ntmps25
  go_wp2_with fail
  go_loopw [5, 15] (fun v q wr => ∃ k : Nat, k ≤ m ∧ q = .int .i64 (k : Int) ∧ wr.ownsRow w.heap.size 3 1 v k (numL k (bg F ord)) ∧ Holds5 wr w.heap.size 41 #[.slice At n ct, .slice Aw n cw] ∧ w.grownBy wr none) (fun _ q _ => m - (intOf q).toNat)
  case atStart => exact ⟨0, Nat.zero_le _, rfl, World.ownsRow_nil _ _ _ _, HX.out, G0.out⟩
  case round =>
    clear HX G0
    obtain ⟨k, hk, rfl, hv, hx, hg⟩ := hrel
    have HV := shade hv; have HX := shade hx; have HG := shade hg
    clear hv hx hg
    obtain ⟨Av, cv, rfl, -⟩ := ownsRow_slice HV.out
    by_cases hkm : k < m
    · have hNV := (show RowO wr w.heap.size wr.heap.size 3 (.slice Av k cv) k (numL k (bg F ord)) from ⟨HV.out, fun i hi => (World.ownsRow.lt HV.out i hi).2⟩).nums
      obtain ⟨Av', cv', e1, hNV⟩ := hNV
      injection e1 with e1 _ e2
      subst e1 e2
      have HN := shade hNV
      clear hNV
      obtain ⟨ob, oo, rfl, -⟩ := HO.out.resolve_left (by omega)
      have r0 := (HO.out.grown HG.out (by intro _ _ _ e; cases e)).cell hkm
      have iq : (k : Int) < (m : Int) := by omega
      have iq0 : (0 : Int) ≤ (k : Int) := by omega
      have hlk := HL.out k hkm
      have hkb : bg F ord k = mx 0 (fun j => bg F ord j + wI F (ord k) (ord j)) k := bg_eq F ord k
      have HPT := shade (show ∀ j, j ≤ k → 0 ≤ mx 0 (fun j => bg F ord j + wI F (ord k) (ord j)) j ∧ mx 0 (fun j => bg F ord j + wI F (ord k) (ord j)) j ≤ 15 from fun j hj => by
        have h1 := mx_mono (a := 0) (g := fun j => bg F ord j + wI F (ord k) (ord j)) hj
        rw [← hkb] at h1
        have h2 := bg_le F ord k
        have h3 := (mx_ge 0 (fun j => bg F ord j + wI F (ord k) (ord j)) j).1
        omega)
      have HMS := shade (fun j => show mx 0 (fun j => bg F ord j + wI F (ord k) (ord j)) (j + 1) = max (mx 0 (fun j => bg F ord j + wI F (ord k) (ord j)) j) (bg F ord j + wI F (ord k) (ord j)) from rfl)
      have HBR := shade (fun j (hj : j < k) => show 0 ≤ bg F ord j ∧ bg F ord j ≤ 15 from by
        have h1 := bg_pos F ord j
        have h2 := bg_le F ord j
        omega)
      have HKB := shade hkb
      have hM0 : mx 0 (fun j => bg F ord j + wI F (ord k) (ord j)) 0 = 0 := rfl
      generalize mx 0 (fun j => bg F ord j + wI F (ord k) (ord j)) = M at *
      obtain ⟨wo, hwo⟩ : ∃ wo : World, wo = wr := ⟨_, rfl⟩
      subst hwo
      obtain ⟨A2, c2, e3, s2⟩ := (HB.out.grown HG.out).ws.shape
      injection e3 with e3a e3b e3c
      subst e3a e3c
      obtain ⟨g2, e2g, q2⟩ := s2.resolve_left (by omega)
      have x2 := q2 (ord k) hlk
      obtain ⟨B1, d1, f1, nb⟩ := (HB.out.grown HG.out).ws.nums hlk
      rw [f1] at x2
      subst e2g
      have y1 := HX.out.look 1
      simp at y1
      have HNB := shade nb
      have HOW := shade (HO.out.grown HG.out (by intro _ _ _ e; cases e))
      clear f1 nb s2 q2 e3b hkb
      obtain ⟨ok, hok⟩ : ∃ ok, ord k = ok := ⟨_, rfl⟩
      rw [hok] at x2 r0 hlk HMS HNB
      have HOK := shade hok
      clear hok
      have lk : (ok : Int) < (n : Int) := by omega
      have lk0 : (0 : Int) ≤ (ok : Int) := by omega
      go_wp2_with fail
      go_loopw [8, 21] (fun v q wq => ∃ j : Nat, j ≤ k ∧ q = .int .i64 (j : Int) ∧ v = .int .i64 (M j) ∧ wo = wq) (fun _ q _ => k - (intOf q).toNat)
      case atStart => exact ⟨0, Nat.zero_le _, rfl, by rw [hM0], rfl⟩
      case round =>
        obtain ⟨j, hj, rfl, rfl, rfl⟩ := hrel
        by_cases hjk : j < k
        · obtain ⟨bb, bo, rfl, -⟩ := HN.out.resolve_left (by omega)
          have b0 := HN.out.cell hjk
          have o0 := HOW.out.cell (show j < m by omega)
          have p1 := HPT.out j (by omega)
          have p2 := HPT.out (j + 1) (by omega)
          have ms := HMS.out j
          have br := HBR.out j hjk
          have jq : (j : Int) < (k : Int) := by omega
          have jq0 : (0 : Int) ≤ (j : Int) := by omega
          have jm : (j : Int) < (m : Int) := by omega
          obtain ⟨oj, hoj⟩ : ∃ oj, ord j = oj := ⟨_, rfl⟩
          rw [hoj] at o0 ms
          clear hoj
          have wr1 := wI_rng F ok oj
          by_cases hlt : oj < ok
          · have hwi : wI F ok oj = max 1 (wtI (F oj) (F ok)) := if_pos hlt
            obtain ⟨hb1, ho1, rfl, -⟩ := HNB.out.resolve_left (show ¬ lnW ok = 0 by unfold lnW; omega)
            have z0 := HNB.out.cell (show oj < lnW ok from hlt)
            have hz : wtR F ok oj = wtI (F oj) (F ok) := rfl
            rw [hz] at z0
            rw [hwi] at ms wr1
            have hxr := wtI_rng (F oj) (F ok)
            obtain ⟨x, hx⟩ : ∃ x, wtI (F oj) (F ok) = x := ⟨_, rfl⟩
            rw [hx] at z0 ms wr1 hxr
            have il : (oj : Int) < (ok : Int) := by omega
            have il0 : (0 : Int) ≤ (oj : Int) := by omega
            have il2 : (oj : Int) < (lnW ok : Int) := by unfold lnW; omega
            obtain ⟨y, hy⟩ : ∃ y, M j = y := ⟨_, rfl⟩
            rw [hy] at p1 ms ⊢
            obtain ⟨y', hy'⟩ : ∃ y', M (j + 1) = y' := ⟨_, rfl⟩
            rw [hy'] at p2 ms
            obtain ⟨z, hz2⟩ : ∃ z, bg F ord j = z := ⟨_, rfl⟩
            rw [hz2] at b0 ms br
            have HY := shade hy'
            have HMSX := shade ms
            clear hy hy' hz2 ms hx hwi hz
            by_cases hx1 : 1 < x
            · go_wp2_with fail
              go_roundw
              case rel => exact ⟨j + 1, by omega, by go_num, (by rw [HY.out, HMSX.out]; congr 1; split <;> omega), trivial⟩
              case measure => simp [intOf]; omega
            · have hx1' : x ≤ 1 := by omega
              go_wp2_with fail
              go_roundw
              case rel => exact ⟨j + 1, by omega, by go_num, (by rw [HY.out, HMSX.out]; congr 1; split <;> omega), trivial⟩
              case measure => simp [intOf]; omega
          · have hwi : wI F ok oj = 1 := if_neg hlt
            rw [hwi] at ms
            have il : (ok : Int) ≤ (oj : Int) := by omega
            obtain ⟨y, hy⟩ : ∃ y, M j = y := ⟨_, rfl⟩
            rw [hy] at p1 ms ⊢
            obtain ⟨y', hy'⟩ : ∃ y', M (j + 1) = y' := ⟨_, rfl⟩
            rw [hy'] at p2 ms
            obtain ⟨z, hz2⟩ : ∃ z, bg F ord j = z := ⟨_, rfl⟩
            rw [hz2] at b0 ms br
            have HY := shade hy'
            have HMSX := shade ms
            clear hy hy' hz2 ms hwi
            go_wp2_with fail
            go_roundw
            case rel => exact ⟨j + 1, by omega, by go_num, (by rw [HY.out, HMSX.out]; congr 1; split <;> omega), trivial⟩
            case measure => simp [intOf]; omega
        · obtain rfl : j = k := by omega
          rw [← HKB.out]
          obtain ⟨z, hz⟩ : ∃ z, bg F ord j = z := ⟨_, rfl⟩
          rw [hz]
          have HZ := shade hz
          clear hz
          go_wp2_with (first
            | (at_builtin; refine wpList_append_own _ rfl _ _ 25 rfl w.heap.size 3 i1 (.int .i64 0) 1 8 Tryd.underlying25 HJ.out.1 HJ.out.2.1 HJ.out.2.2.1 HJ.out.2.2.2 rfl (by decide) _ _ _ rfl (World.ownsRow.alloc HV.out _) ⟨wo.heap.size, 0, none⟩ 1 1 [.int .i64 z] rfl rfl (int_new _ _ _) (int_one _) (by unfold maxLen; omega) (by omega) (by have := HG.out.size; simp; omega) ?_)
            | go_in)
          intro v8 w8 hown8 hgr8 hnil8
          rw [numL_snoc' _ (bg F ord) _ HZ.out] at hown8
          have HO8 := shade hown8
          have HX8 := shade ((HX.out.alloc (.cells #[.int .i64 z] 3)).grown hgr8 (fun e => own_not_held HV.out HX.out (by decide) e.symm))
          have HG8 := shade (grown_row' (grown_same HG.out (World.grownBy_alloc _ _ none)) hgr8 (fun r e => (World.ownsRow.lt HV.out r e).1))
          clear hown8 hgr8 hnil8
          go_wp2_with fail
          go_roundw
          case rel => exact ⟨j + 1, by omega, by go_num, HO8.out, HX8.out, HG8.out⟩
          case measure => simp [intOf]; omega
    · obtain rfl : k = m := by omega
      go_wp2_with fail
      go_ret
      exact ⟨_, rfl, HV.out, HG.out⟩

set_option maxRecDepth 100000 in
set_option maxHeartbeats 8000000 in
theorem iStands_any (lo hi : Nat) (tv wv : Value) (AS : Nat → Value) (n : Nat) (F : Nat → Ins) (w : World) (hn : n ≤ 6) (hb : Blk w lo hi tv wv AS n F) :
    Calls Tryd.prog 24 #[.agg #[tv, wv]] w (NumRes n (fun j => (j : Int)) w) := by
  obtain ⟨At, ct, rfl, -⟩ := hb.tk.nums
  obtain ⟨Aw, cw, rfl, -⟩ := hb.ws.shape
  clear hb
  obtain ⟨i1, hi1, hy0, hy1, hy2⟩ := info_parts info3p
  have HJ := shade (And.intro hi1 (And.intro hy0 (And.intro hy1 hy2)))
  clear hi1 hy0 hy1 hy2
  have G0 := shade (World.grownBy_alloc w (.cells #[.slice At n ct, .slice Aw n cw] 41) none)
  go_enter Tryd.func24, Tryd.ntmps24
  go_wp2_with fail
  go_loopw [3, 8] (fun v q wr => ∃ k : Nat, k ≤ n ∧ q = .int .i64 (k : Int) ∧ wr.ownsRow w.heap.size 3 1 v k (numL k (fun j => (j : Int))) ∧ w.grownBy wr none) (fun _ q _ => n - (intOf q).toNat)
  case atStart => exact ⟨0, Nat.zero_le _, rfl, World.ownsRow_nil _ _ _ _, G0.out⟩
  case round =>
    clear G0
    obtain ⟨k, hk, rfl, hv, hg⟩ := hrel
    have HV := shade hv; have HG := shade hg
    clear hv hg
    obtain ⟨Av, cv, rfl, -⟩ := ownsRow_slice HV.out
    by_cases hkm : k < n
    · go_wp2_with (first
        | (at_builtin; refine wpList_append_own _ rfl _ _ 25 rfl w.heap.size 3 i1 (.int .i64 0) 1 8 Tryd.underlying25 HJ.out.1 HJ.out.2.1 HJ.out.2.2.1 HJ.out.2.2.2 rfl (by decide) _ _ _ rfl (World.ownsRow.alloc HV.out _) ⟨wr.heap.size, 0, none⟩ 1 1 [.int .i64 (k : Int)] rfl rfl (int_new _ _ _) (int_one _) (by unfold maxLen; omega) (by omega) (by have := HG.out.size; simp; omega) ?_)
        | go_in)
      intro v8 w8 hown8 hgr8 hnil8
      rw [numL_snoc' k (fun j => (j : Int)) _ rfl] at hown8
      have HO8 := shade hown8
      have HG8 := shade (grown_row' (grown_same HG.out (World.grownBy_alloc _ _ none)) hgr8 (fun r e => (World.ownsRow.lt HV.out r e).1))
      clear hown8 hgr8 hnil8
      go_wp2_with fail
      go_roundw
      case rel => exact ⟨k + 1, by omega, by go_num, HO8.out, HG8.out⟩
      case measure => simp [intOf]; omega
    · obtain rfl : k = n := by omega
      go_wp2_with fail
      go_ret
      exact ⟨_, rfl, HV.out, HG.out⟩
set_option maxRecDepth 100000 in
set_option maxHeartbeats 8000000 in
theorem iEnd_any (lo hi : Nat) (tv wv : Value) (AS : Nat → Value) (n : Nat) (F : Nat → Ins) (Ao : Option Addr) (m co : Nat) (ord : Nat → Nat) (w : World) (hm : m ≤ 6) (hb : Blk w lo hi tv wv AS n F) (ho : Nums w Ao m (fun j => (ord j : Int))) (hl : Ord n m ord) :
    Calls Tryd.prog 26 #[.agg #[tv, wv], .slice Ao m co] w fun e w' => e = .returned (.int .i64 (eF F ord m)) ∧ w.grownBy w' none := by
  have HBG := shade (fun W (hg : w.grownBy W none) => iBegins_any lo hi tv wv AS n F Ao m co ord W hm (hb.grown hg) (ho.grown hg (by intro _ _ _ e; cases e)) hl)
  have HR := shade (show ∀ k, k < m → 0 ≤ bg F ord k ∧ bg F ord k ≤ 18 from fun k hk => ⟨bg_pos F ord k, by have := bg_le F ord k; omega⟩)
  obtain ⟨At, ct, rfl, ht⟩ := hb.tk.nums
  obtain ⟨Aw, cw, rfl, -⟩ := hb.ws.shape
  have HT := shade ht
  have HO := shade ho; have HL := shade hl
  clear hb ho hl ht
  have HX := shade (Holds5.fresh w 41 #[.slice At n ct, .slice Aw n cw])
  have G0 := shade (World.grownBy_alloc w (.cells #[.slice At n ct, .slice Aw n cw] 41) none)
  go_enter Tryd.func26, Tryd.ntmps26
  go_wp2_with fail
  refine (HBG.out _ G0.out).mono ?_
  rintro e w1 h1
  obtain ⟨v, rfl, hR, hg⟩ := NumRes.row h1
  obtain ⟨A1, c1, rfl, hN⟩ := hR.nums
  have HN := shade hN; have HG := shade (grown_same G0.out hg)
  have HX1 := shade (HX.out.grown hg (by intro e; cases e))
  clear h1 hR hN hg HBG HX G0
  have y1 := HX1.out.look 0
  simp at y1
  go_wp2_with fail
  go_loopw [5, 12] (fun v q wr => ∃ k : Nat, k ≤ m ∧ q = .int .i64 (k : Int) ∧ v = .int .i64 (dn (bg F ord) (fun i => latF F (ord i)) k) ∧ w1.grownBy wr none) (fun _ q _ => m - (intOf q).toNat)
  case atStart => exact ⟨0, Nat.zero_le _, rfl, rfl, grown_refl _ _⟩
  case round =>
    obtain ⟨k, hk, rfl, rfl, hgq⟩ := hrel
    have HGQ := shade hgq
    have HGA := shade (grown_same HG.out hgq)
    clear hgq y1
    have y1 := (HX1.out.grown HGQ.out (by intro e; cases e)).look 0
    simp at y1
    by_cases hkm : k < m
    · obtain ⟨ob, oo, rfl, -⟩ := HO.out.resolve_left (by omega)
      have o0 := (HO.out.grown HGA.out (by intro _ _ _ e; cases e)).cell hkm
      obtain ⟨bb, bo, rfl, -⟩ := HN.out.resolve_left (by omega)
      have b0 := (HN.out.grown HGQ.out (by intro _ _ _ e; cases e)).cell hkm
      have hlk := HL.out k hkm
      obtain ⟨tb, tq, rfl, -⟩ := HT.out.resolve_left (by omega)
      have t0 := (HT.out.grown HGA.out (by intro _ _ _ e; cases e)).cell hlk
      have hs := dn_succ (bg F ord) (fun i => latF F (ord i)) k
      have hd := dn_small HR.out (l := fun i => latF F (ord i)) (fun k _ => lat_rng _) (show k ≤ m by omega)
      have hfi := HR.out k hkm
      have hll : 1 ≤ latF F (ord k) ∧ latF F (ord k) ≤ 3 := lat_rng _
      obtain ⟨x, hx⟩ : ∃ x, latF F (ord k) = x := ⟨_, rfl⟩
      rw [hx] at hs t0 hll
      obtain ⟨y, hy⟩ : ∃ y, dn (bg F ord) (fun i => latF F (ord i)) k = y := ⟨_, rfl⟩
      rw [hy] at hs hd ⊢
      obtain ⟨z, hz⟩ : ∃ z, bg F ord k = z := ⟨_, rfl⟩
      rw [hz] at hs hfi b0
      obtain ⟨ok, hok⟩ : ∃ ok, ord k = ok := ⟨_, rfl⟩
      rw [hok] at o0 t0 hlk
      have HS := shade hs
      have iq : (k : Int) < (m : Int) := by omega
      have iq0 : (0 : Int) ≤ (k : Int) := by omega
      have lk : (ok : Int) < (n : Int) := by omega
      have lk0 : (0 : Int) ≤ (ok : Int) := by omega
      have hwz : IntKind.i64.wrap (z + x) = z + x := by rw [IntKind.wrap_i64]; omega
      clear hs hx hy hz hok
      go_wp2_with fail
      go_region_held3 (fun w' => w'.cell? ⟨w.heap.size, 0, none⟩ = some (.slice (some ⟨tb, tq, none⟩) n ct) ∧ w'.cell? ⟨ob, oo + k, none⟩ = some (.int .i64 (ok : Int)) ∧ w'.cell? ⟨tb, tq + ok, none⟩ = some (.int .i64 x))
        (exact ⟨y1, o0, t0⟩) (fail)
      rename_i hHeld
      clear hHeld
      go_wp2_with fail
      go_roundw
      case rel => exact ⟨k + 1, by omega, by go_num, (by rw [HS.out]; congr 1; (try rw [hwz]); split <;> omega), grown_same HGQ.out (grown_drew1 _)⟩
      case measure => simp [intOf]; omega
    · obtain rfl : k = m := by omega
      go_wp2_with fail
      go_ret
      exact ⟨rfl, HGA.out⟩

end Go.Proofs.YtblnchcgeepemaaDoor
