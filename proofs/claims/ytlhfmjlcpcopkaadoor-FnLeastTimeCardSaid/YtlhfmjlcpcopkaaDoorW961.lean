/- WaitsOf, by the model. -/
import Derived.Test.YtlhfmjlcpcopkaaDoorW952
import Derived.Test.YtlhfmjlcpcopkaaDoorW958
import Derived.Deep.RegionHeld3
namespace Go.Proofs.YtlhfmjlcpcopkaaDoor
open Go.RowKit
set_option linter.unusedSimpArgs false
theorem info41 : (Tryd.prog.info? 41).map (fun i => (i.zero, i.size, i.bytes)) = some (some (.slice none 0 0), 1, 24) := by kernel_rfl
theorem info3p : (Tryd.prog.info? 3).map (fun i => (i.zero, i.size, i.bytes)) = some (some (.int .i64 0), 1, 8) := by kernel_rfl
/-- What WaitsOf tells. -/
def wtR (F : Nat → Ins) (k i : Nat) : Int := wtI (F i) (F k)
def lnW (j : Nat) : Nat := j
theorem SWaitsOf_no (A : Option Addr) (n c : Nat) (F : Nat → Ins) (w : World) (hv : blB n F = false) (hn : n ≤ 9223372036854775807) (h : Code w A n F) :
    Calls Tryd.prog 24 #[.slice A n c] w (RwsRes 0 lnW (wtR F) w) := by
  have HV := shade (validBlock_any A n c F w hn h)
  rw [hv] at HV
  clear h hv
  go_enter Tryd.func24, Tryd.ntmps24
  go_wp2_with fail
  refine HV.out.mono ?_
  rintro e w1 ⟨rfl, hg⟩
  have HG := shade hg
  clear hg HV
  go_wp2_with fail
  go_ret
  exact RwsRes.nil _ _ _ _ HG.out
theorem slice_new (w : World) (t : TypeId) (u : Value) : ∀ j x, ([u] : List Value)[j]? = some x → (w.alloc (.cells #[u] t)).cell? ((⟨w.heap.size, 0, none⟩ : Addr).add j) = some x := by
  intro j x hx
  have : j = 0 := by
    have := (List.getElem?_eq_some_iff.1 hx).1
    simpa using this
  subst this
  rw [Addr.add_lit, World.cell?_alloc_new]
  simpa using hx
/-- The rows so far. -/
structure Wos (w wr : World) (v : Value) (k : Nat) (AS : Nat → Value) (F : Nat → Ins) : Prop where
  rws : Rws wr w.heap.size wr.heap.size v k AS lnW (wtR F)
  low : w.grownBy wr none
set_option maxRecDepth 100000 in
set_option maxHeartbeats 8000000 in
theorem SWaitsOf_yes (b off n c : Nat) (F : Nat → Ins) (w : World) (hv : blB n F = true) (h : Code w (some ⟨b, off, none⟩) n F) :
    Calls Tryd.prog 24 #[.slice (some ⟨b, off, none⟩) n c] w (RwsRes n lnW (wtR F) w) := by
  have hn := blB_6 hv
  have HB := shade (fun j (hj : j < n) => blI_v (blB_at hv hj))
  have HV := shade (validBlock_any (some ⟨b, off, none⟩) n c F w (by omega) h)
  rw [hv] at HV
  have H := shade h
  clear h hv
  obtain ⟨i0, hi0, hz0, hz1, hz2⟩ := info_parts info41
  obtain ⟨i1, hi1, hy0, hy1, hy2⟩ := info_parts info3p
  have HI := shade (And.intro hi0 (And.intro hz0 (And.intro hz1 hz2)))
  have HJ := shade (And.intro hi1 (And.intro hy0 (And.intro hy1 hy2)))
  clear hi0 hz0 hz1 hz2 hi1 hy0 hy1 hy2
  go_enter Tryd.func24, Tryd.ntmps24
  go_wp2_with fail
  refine HV.out.mono ?_
  rintro e w1 ⟨rfl, hg⟩
  have HG := shade hg
  have L0 := shade (show (w1.alloc (.cells #[] 41)).ownsRow w1.heap.size 41 1 (.slice (some ⟨w1.heap.size, 0, none⟩) 0 0) 0 [] from World.ownsRow_lit (base := w1.heap.size) (e := 41) (size := 1) w1 #[] 0 (by omega) (by decide) rfl)
  have G0 := shade (grown_same HG.out (World.grownBy_alloc w1 (.cells #[] 41) none))
  clear hg HV
  go_wp2_with fail
  go_loopw [3, 4] (fun v k wr => ∃ (kk : Nat) (AS : Nat → Value), kk ≤ n ∧ k = .int .i64 kk ∧ Wos w wr v kk AS F) (fun _ k _ => n - (intOf k).toNat)
  case atStart => exact ⟨0, fun _ => .slice none 0 0, Nat.zero_le _, rfl, ⟨⟨World.ownsRow.mono L0.out HG.out.size, fun b hb => (World.ownsRow.lt L0.out b hb).2⟩, fun j hj => absurd hj (Nat.not_lt_zero j), fun i _ _ hi => absurd hi (Nat.not_lt_zero i)⟩, G0.out⟩
  case round =>
    clear L0 G0 HG
    obtain ⟨wo, hwo⟩ : ∃ wo : World, wo = wr := ⟨_, rfl⟩
    subst hwo
    obtain ⟨k, AS, hk, rfl, ho⟩ := hrel
    have HO := shade ho
    obtain ⟨A1, c1, rfl, -⟩ := ho.rws.shape
    clear ho
    by_cases hkn : k < n
    · have N0 := shade (show (wo.alloc (.cells #[] 3)).ownsRow wo.heap.size 3 1 (.slice (some ⟨wo.heap.size, 0, none⟩) 0 0) 0 [] from World.ownsRow_lit (base := wo.heap.size) (e := 3) (size := 1) wo #[] 0 (by omega) (by decide) rfl)
      go_wp2_with fail
      go_loopw [5, 6] (fun u i wq => ∃ ii : Nat, ii ≤ k ∧ i = .int .i64 ii ∧ wq.ownsRow wo.heap.size 3 1 u ii (numL ii (wtR F k)) ∧ wo.grownBy wq none) (fun _ i _ => k - (intOf i).toNat)
      case atStart => exact ⟨0, Nat.zero_le _, rfl, N0.out, World.grownBy_alloc wo _ none⟩
      case round =>
        clear N0
        obtain ⟨i, hik, rfl, hu, hgq⟩ := hrel
        have HU := shade hu; have HGQ := shade hgq
        obtain ⟨A2, c2, rfl, -⟩ := ownsRow_slice hu
        clear hu hgq
        by_cases hlt : i < k
        · obtain ⟨q0, q1, q2, q3, q4⟩ := (H.out.on (grown_same HO.out.low HGQ.out)).five (show i < n by omega)
          obtain ⟨r0, r1, r2, r3, r4⟩ := (H.out.on (grown_same HO.out.low HGQ.out)).five hkn
          have HW := shade (fun W => waits_any (F i) (F k) (HB.out i (by omega)) (HB.out k hkn) W)
          have hwr := wtI_rng (F i) (F k)
          have hww : wtI (F i) (F k) = wtR F k i := rfl
          rw [hww] at HW hwr
          generalize hx : wtR F k i = x at *
          have HX := shade hx
          clear hww hx
          generalize F i = cc at *
          obtain ⟨op, d, a, b', kk⟩ := cc
          generalize F k = dd at *
          obtain ⟨op2, d2, a2, b2', kk2⟩ := dd
          simp only [] at q0 q1 q2 q3 q4 r0 r1 r2 r3 r4 HW
          have HC := shade (ten_row (grown_drew1 wr) (by intro e; cases e) (by intro e; cases e) ⟨q0, q1, q2, q3, q4, r0, r1, r2, r3, r4⟩)
          have hbl : b < wo.heap.size := World.block_lt_of_cell? _ _ ((H.out.on HO.out.low).five hkn).1
          have hbr : some b ≠ (Value.slice A2 i c2).ownBlock := fun e => by
            have := (World.ownsRow.lt HU.out b e.symm).1
            omega
          have HBR := shade hbr
          have hA2 : ∀ r, (Value.slice A2 i c2).ownBlock = some r → wo.heap.size ≤ r := fun r e => (World.ownsRow.lt HU.out r e).1
          have HA2 := shade hA2
          have HU := shade (ownsRow_on HU.out (grown_drew1 wr))
          have HGQ := shade (grown_same HGQ.out (grown_drew1 wr))
          have iq : (i : Int) < (n : Int) := by omega
          have kq : (k : Int) < (n : Int) := by omega
          have iq0 : (0 : Int) ≤ (i : Int) := by omega
          have kq0 : (0 : Int) ≤ (k : Int) := by omega
          clear q0 q1 q2 q3 q4 r0 r1 r2 r3 r4 hbr hA2
          go_wp2_with fail
          go_region_held3 (fun w' => w'.cell? ⟨b, off + i * 5, none⟩ = some (.string op) ∧ w'.cell? ⟨b, off + i * 5 + 1, none⟩ = some (.int .i64 d) ∧ w'.cell? ⟨b, off + i * 5 + 2, none⟩ = some (.int .i64 a) ∧ w'.cell? ⟨b, off + i * 5 + 3, none⟩ = some (.int .i64 b') ∧ w'.cell? ⟨b, off + i * 5 + 4, none⟩ = some (.int .i64 kk) ∧ w'.cell? ⟨b, off + k * 5, none⟩ = some (.string op2) ∧ w'.cell? ⟨b, off + k * 5 + 1, none⟩ = some (.int .i64 d2) ∧ w'.cell? ⟨b, off + k * 5 + 2, none⟩ = some (.int .i64 a2) ∧ w'.cell? ⟨b, off + k * 5 + 3, none⟩ = some (.int .i64 b2') ∧ w'.cell? ⟨b, off + k * 5 + 4, none⟩ = some (.int .i64 kk2))
            (first | exact HC.out | exact ten_row (World.grownBy_alloc _ _ none) (by intro e; cases e) (by intro e; cases e) HC.out)
            (first
              | (go_at_call 58; refine (HW.out _).mono ?_; rintro e w3 ⟨rfl, hg3⟩; have HC := shade (ten_row hg3 (by intro e; cases e) (by intro e; cases e) HC.out); have HU := shade (ownsRow_on HU.out hg3); have HGQ := shade (grown_same HGQ.out hg3); clear hg3)
              | ((with_reducible refine at_append ?_); refine step_append_lies _ (by rfl) (.tmp 23) (.tmp 33) 41 (by rfl) wo.heap.size 3 i1 (.int .i64 0) 1 8 Tryd.underlying41 HJ.out.1 HJ.out.2.1 HJ.out.2.2.1 HJ.out.2.2.2 rfl (by decide) (.slice A2 i c2) i (numL i (wtR F k)) (by rfl) (World.ownsRow.alloc HU.out _) ⟨w3.heap.size, 0, none⟩ 1 1 [.int .i64 x] (by rfl) (by rfl) (int_new _ _ _) (int_one _) (by omega) (by unfold maxLen; omega) (by omega) (by have := HGQ.out.size; simp; omega) _ rfl ?_; intro g8 c8 w8 hown8 hgr8 hat8 hlt8; have HC := shade (ten_row hgr8 HBR.out HBR.out (ten_row (World.grownBy_alloc _ _ none) (by intro e; cases e) (by intro e; cases e) HC.out))))
          rename_i hHeld
          clear hHeld hat8 hlt8
          rw [numL_snoc' i _ x HX.out] at hown8
          have HU8 := shade hown8
          have HG8 := shade (grown_row' (grown_same HGQ.out (World.grownBy_alloc _ _ none)) hgr8 HA2.out)
          clear hown8 hgr8
          go_wp2_with fail
          go_roundw
          case rel => exact ⟨i + 1, by omega, by go_num, HU8.out, HG8.out⟩
          case measure => simp [intOf]; omega
        · obtain rfl : i = k := by omega
          have HG9 := shade (grown_same HO.out.low HGQ.out)
          go_wp2_with (first
            | (at_builtin; refine wpList_append_own _ rfl _ _ 36 rfl w.heap.size 41 i0 (.slice none 0 0) 1 24 Tryd.underlying36 HI.out.1 HI.out.2.1 HI.out.2.2.1 HI.out.2.2.2 rfl (by decide) _ _ _ rfl (World.ownsRow.alloc (ownsRow_on HO.out.rws.out.own HGQ.out) _) ⟨wr.heap.size, 0, none⟩ 1 1 [.slice A2 i c2] rfl rfl (slice_new _ _ _) (fun u hu => by rw [List.mem_singleton.1 hu]; rfl) (by unfold maxLen; omega) (by omega) (by have := HG9.out.size; simp; omega) ?_)
            | go_in)
          intro v8 w8 hown8 hgr8 hnil8
          have HN := shade (HO.out.rws.snoc (AS' := fun j => if j = i then .slice A2 i c2 else AS j) (R' := wtR F) (Nat.le_refl _) HO.out.low.size (World.ownsRow.alloc HU.out (.cells #[.slice A2 i c2] 41)) (grown_same HGQ.out (World.grownBy_alloc _ _ none)) hown8 hgr8 (fun _ _ => rfl) (fun j hj => if_neg (by omega)) (if_pos rfl))
          have HL := shade (grown_row' (grown_same HG9.out (World.grownBy_alloc _ _ none)) hgr8 (fun r e => (World.ownsRow.lt HO.out.rws.out.own r e).1))
          clear hown8 hgr8 hnil8
          go_wp2_with fail
          go_roundw
          case rel => exact ⟨i + 1, _, by omega, by go_num, HN.out, HL.out⟩
          case measure => simp [intOf]; omega
    · obtain rfl : k = n := by omega
      go_wp2_with fail
      go_ret
      exact ⟨_, AS, rfl, HO.out.rws, HO.out.low⟩

theorem SWaitsOf_zero (A : Option Addr) (c : Nat) (F : Nat → Ins) (w : World) :
    Calls Tryd.prog 24 #[.slice A 0 c] w (RwsRes 0 lnW (wtR F) w) := by
  have HV := shade (validBlock_zero A c F w)
  rw [show blB 0 F = true from rfl] at HV
  go_enter Tryd.func24, Tryd.ntmps24
  go_wp2_with fail
  refine HV.out.mono ?_
  rintro e w1 ⟨rfl, hg⟩
  have L0 := shade (show (w1.alloc (.cells #[] 41)).ownsRow w1.heap.size 41 1 (.slice (some ⟨w1.heap.size, 0, none⟩) 0 0) 0 [] from World.ownsRow_lit (base := w1.heap.size) (e := 41) (size := 1) w1 #[] 0 (by omega) (by decide) rfl)
  have G0 := shade (grown_same hg (World.grownBy_alloc w1 (.cells #[] 41) none))
  have HG := shade hg.size
  clear hg HV
  go_wp2_with fail
  refine wp_loop_rounds 1 ?_
  rw [rounds_succ]
  go_wp2_with fail
  go_ret
  exact ⟨_, fun _ => .slice none 0 0, rfl, ⟨⟨World.ownsRow.mono L0.out HG.out, fun b hb => (World.ownsRow.lt L0.out b hb).2⟩, fun j hj => absurd hj (Nat.not_lt_zero j), fun i _ _ hi => absurd hi (Nat.not_lt_zero i)⟩, G0.out⟩
/-- How many rows. -/
def nB (n : Nat) (F : Nat → Ins) : Nat := if blB n F = true then n else 0
theorem nB_yes {n : Nat} {F : Nat → Ins} (h : blB n F = true) : nB n F = n := if_pos h
theorem nB_no {n : Nat} {F : Nat → Ins} (h : blB n F = false) : nB n F = 0 := if_neg (by rw [h]; simp)
theorem SWaitsOf_any (A : Option Addr) (n c : Nat) (F : Nat → Ins) (w : World) (hn : n ≤ 9223372036854775807) (h : Code w A n F) :
    Calls Tryd.prog 24 #[.slice A n c] w (RwsRes (nB n F) lnW (wtR F) w) := by
  rcases hv : blB n F with _ | _
  · rw [nB_no hv]
    exact SWaitsOf_no A n c F w hv hn h
  · rw [nB_yes hv]
    by_cases h0 : n = 0
    · subst h0
      exact SWaitsOf_zero A c F w
    · obtain ⟨b, off, rfl, _⟩ := h.resolve_left h0
      exact SWaitsOf_yes b off n c F w hv h

end Go.Proofs.YtlhfmjlcpcopkaaDoor
