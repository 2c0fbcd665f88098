/- The ticks of instructions in a pipe, by the model. Ticks, time and stalls of a pipe, by the model. -/
import Derived.Test.YtlmjbflnfpccdaaDoorG10
import Derived.Test.YtlmjbflnfpccdaaDoorW958
import Derived.Test.YtlmjbflnfpccdaaDoorW400d
namespace Go.Proofs.YtlmjbflnfpccdaaDoor
open Go.RowKit
set_option linter.unusedSimpArgs false
theorem info3p : (Tryd.prog.info? 3).map (fun i => (i.zero, i.size, i.bytes)) = some (some (.int .i64 0), 1, 8) := by kernel_rfl
theorem sPipe_zero (A : Option Addr) (c : Nat) (AJ : Option Addr) (cj : Nat) (f : Nat → Int) (fw : Bool) (w : World) : Calls Tryd.prog 41 #[.slice A 0 c, .slice AJ 0 cj, .bool fw] w (NumRes 0 f w) := by
  have L0 := shade (show (w.alloc (.cells #[] 3)).ownsRow w.heap.size 3 1 (.slice (some ⟨w.heap.size, 0, none⟩) 0 0) 0 [] from World.ownsRow_lit (base := w.heap.size) (e := 3) (size := 1) w #[] 0 (by omega) (by decide) rfl)
  go_enter Tryd.func41, Tryd.ntmps41
  go_wp2_with fail
  refine wp_loop_rounds 1 ?_
  rw [rounds_succ]
  go_wp2_with fail
  go_ret
  exact ⟨_, rfl, L0.out, World.grownBy_alloc _ _ _⟩
set_option maxRecDepth 100000 in
set_option maxHeartbeats 16000000 in
theorem sPipe_at (b off m c : Nat) (G : Nat → Ins) (AJ : Option Addr) (cj : Nat) (J : Nat → Bool) (fw : Bool) (w : World) (hm : m ≤ 300) (hv : ∀ j, j < m → vI (G j) = true) (h : Code w (some ⟨b, off, none⟩) m G) (hj : Bols w AJ m J) :
    Calls Tryd.prog 41 #[.slice (some ⟨b, off, none⟩) m c, .slice AJ m cj, .bool fw] w (NumRes m (pk G J fw) w) := by
  have HB := shade hv
  have H := shade h
  have HBJ := shade hj
  clear h hv hj
  have HR := shade (pk_rng G J fw)
  have HEQ := shade (pk_eq G J fw)
  obtain ⟨f, hf⟩ : ∃ f, pk G J fw = f := ⟨_, rfl⟩
  rw [hf] at HR HEQ ⊢
  clear hf
  obtain ⟨i1, hi1, hy0, hy1, hy2⟩ := info_parts info3p
  have HJ := shade (And.intro hi1 (And.intro hy0 (And.intro hy1 hy2)))
  clear hi1 hy0 hy1 hy2
  have L0 := shade (show (w.alloc (.cells #[] 3)).ownsRow w.heap.size 3 1 (.slice (some ⟨w.heap.size, 0, none⟩) 0 0) 0 [] from World.ownsRow_lit (base := w.heap.size) (e := 3) (size := 1) w #[] 0 (by omega) (by decide) rfl)
  have G0 := shade (World.grownBy_alloc w (.cells #[] 3) none)
  go_enter Tryd.func41, Tryd.ntmps41
  go_wp2_with fail
  go_loopw [7, 8] (fun v k wr => ∃ kk : Nat, kk ≤ m ∧ k = .int .i64 kk ∧ wr.ownsRow w.heap.size 3 1 v kk (numL kk f) ∧ w.grownBy wr none) (fun _ k _ => m - (intOf k).toNat)
  case atStart => exact ⟨0, Nat.zero_le _, rfl, L0.out, G0.out⟩
  case round =>
    clear L0 G0
    obtain ⟨wo, hwo⟩ : ∃ wo : World, wo = wr := ⟨_, rfl⟩
    subst hwo
    obtain ⟨k, hk, rfl, ho, hg⟩ := hrel
    have HO := shade ho; have HG := shade hg
    obtain ⟨A1, c1, rfl, -⟩ := ownsRow_slice ho
    clear ho hg
    by_cases hkm : k < m
    · have HN := shade (show RowO wo w.heap.size wo.heap.size 3 (.slice A1 k c1) k (numL k f) from ⟨HO.out, fun i hi => (World.ownsRow.lt HO.out i hi).2⟩)
      obtain ⟨A1', c1', e1, hN⟩ := HN.out.nums
      injection e1 with e1 _ e2
      subst e1 e2
      have HNN := shade hN
      clear hN HN
      rcases k with _ | q
      · have hf0 : f 0 = 2 := (HEQ.out 0).symm
        have hz : (0 : Nat) < m := hkm
        have HGA := shade HG.out
        go_wp2_with fail
        refine wp_loop_rounds 1 ?_
        rw [rounds_succ]
        go_wp2_with (first
          | (at_builtin; refine wpList_append_own _ rfl _ _ 25 rfl w.heap.size 3 i1 (.int .i64 0) 1 8 Tryd.underlying25 HJ.out.1 HJ.out.2.1 HJ.out.2.2.1 HJ.out.2.2.2 rfl (by decide) _ _ _ rfl (World.ownsRow.alloc HO.out _) ⟨wo.heap.size, 0, none⟩ 1 1 [.int .i64 2] rfl rfl (int_new _ _ _) (int_one _) (by unfold maxLen; omega) (by omega) (by have := HGA.out.size; simp; omega) ?_)
          | go_in)
        intro v8 w8 hown8 hgr8 hnil8
        rw [numL_snoc' _ f _ hf0] at hown8
        have HO8 := shade hown8
        have HG8 := shade (grown_row' (grown_same HG.out (World.grownBy_alloc _ _ none)) hgr8 (fun r e => (World.ownsRow.lt HO.out r e).1))
        clear hown8 hgr8 hnil8
        go_wp2_with fail
        go_roundw
        case rel => exact ⟨0 + 1, by omega, by go_num, HO8.out, HG8.out⟩
        case measure => simp [intOf]; omega
      · obtain ⟨ob, oo, rfl, -⟩ := HNN.out.resolve_left (by omega)
        obtain ⟨jb, jo, rfl, -⟩ := HBJ.out.resolve_left (by omega)
        have hq := HNN.out.cell (show q < q + 1 by omega)
        have hjq := (HBJ.out.grown HG.out (by intro _ _ _ e; cases e)).cell (show q < m by omega)
        have hrq := HR.out q
        obtain ⟨lo, mm, hlo, hmm, hlm⟩ : ∃ lo mm : Nat, q + 1 - 3 = lo ∧ q + 1 - lo = mm ∧ lo + mm = q + 1 := ⟨_, _, rfl, rfl, by omega⟩
        have hst : st J f (q + 1) = f q + 1 + (if J q = true then 2 else 0) := if_neg (by omega)
        obtain ⟨SX, hSX⟩ : ∃ SX, sx (st J f (q + 1)) (fun j => wg G fw (q + 1) (q + 1 - 3 + j)) (fun j => f (q + 1 - 3 + j)) = SX := ⟨_, rfl⟩
        have hE0 : SX 0 = f q + 1 + (if J q = true then 2 else 0) := by rw [← hSX]; exact hst
        have hAT : SX mm = f (q + 1) := by rw [← hSX, ← hmm, ← hlo]; exact HEQ.out (q + 1)
        have HST := shade (show ∀ i, SX (i + 1) = if 0 < wg G fw (q + 1) (lo + i) then max (SX i) (f (lo + i) + wg G fw (q + 1) (lo + i)) else SX i from fun i => by rw [← hSX, ← hlo]; rfl)
        have HPT := shade (show ∀ i, i ≤ mm → 2 ≤ SX i ∧ SX i ≤ 3 * (q : Int) + 5 from fun i hi => by
          have h1 := sx_mono' (a := st J f (q + 1)) (w := fun j => wg G fw (q + 1) (q + 1 - 3 + j)) (g := fun j => f (q + 1 - 3 + j)) hi
          have h2 := sx_mono' (a := st J f (q + 1)) (w := fun j => wg G fw (q + 1) (q + 1 - 3 + j)) (g := fun j => f (q + 1 - 3 + j)) (Nat.zero_le i)
          rw [hSX] at h1 h2
          rw [hAT] at h1
          rw [hE0] at h2
          have h3 := HR.out (q + 1)
          have h4 : (0 : Int) ≤ (if J q = true then 2 else 0) := by split <;> omega
          omega)
        have HAT := shade hAT
        have HLM := shade hlm
        clear hSX hst hmm hAT
        have hlo3 : (q : Int) + 1 - 3 = lo ∨ ((q : Int) + 1 - 3 < 0 ∧ lo = 0) := by omega
        rcases hjj : J q with _ | _
        all_goals
          rw [hjj] at hjq hE0
          simp only [if_true, if_neg Bool.false_ne_true, Int.add_zero] at hE0
          have HE := shade hE0
          clear hE0 hjj
          obtain ⟨z0, hz0⟩ : ∃ z0, f q = z0 := ⟨_, rfl⟩
          rw [hz0] at hq hrq HE
          clear hz0
          have kq1 : (q : Int) < (m : Int) := by omega
          have kq2 : (0 : Int) ≤ (q : Int) := by omega
          by_cases hl3 : (q : Int) + 1 - 3 < 0
        all_goals
          go_wp2_with fail
          go_loopw [9, 10] (fun v i wq => ∃ t : Nat, t ≤ mm ∧ i = .int .i64 ((lo : Int) + (t : Int)) ∧ v = .int .i64 (SX t) ∧ wo.grownBy wq none) (fun _ i _ => (((q : Int) + 1) - intOf i).toNat)
          case atStart => exact ⟨0, Nat.zero_le _, by congr 1; omega, by rw [HE.out], grown_refl _ _⟩
          case round =>
            clear HE hq hrq hjq
            obtain ⟨t, hik, rfl, rfl, hgq⟩ := hrel
            have HGQ := shade hgq
            clear hgq
            have hlm := HLM.out
            by_cases hlt : t < mm
            · obtain ⟨i, hi⟩ : ∃ i, lo + t = i := ⟨_, rfl⟩
              have hii : (lo : Int) + (t : Int) = (i : Int) := by omega
              rw [hii]
              obtain ⟨q0, q1, q2, q3, q4⟩ := (H.out.on (grown_same HG.out HGQ.out)).five (show i < m by omega)
              obtain ⟨r0, r1, r2, r3, r4⟩ := (H.out.on (grown_same HG.out HGQ.out)).five hkm
              have HW := shade (fun W => gap_any (G i) (G (q + 1)) fw (HB.out i (by omega)) (HB.out (q + 1) hkm) W)
              have HLW := shade (fun W (hW : w.grownBy W none) => lastWriter_at b off m c G i (q + 1) W hm (by omega) (by omega) (by omega) HB.out (H.out.on hW))
              have hwr := gpI_rng (G i) (G (q + 1)) fw
              have hst := HST.out t
              rw [hi] at hst
              have p1 := HPT.out t (by omega)
              have p2 := HPT.out (t + 1) (by omega)
              have hfi := HR.out i
              have HC0 := shade (HNN.out.grown HGQ.out (by intro _ _ _ e; cases e))
              have hwg : wg G fw (q + 1) i = if lwB G i (q + 1) = true then gpI (G i) (G (q + 1)) fw else 0 := rfl
              rw [hwg] at hst
              clear hwg
              generalize gpI (G i) (G (q + 1)) fw = x at *
              generalize lwB G i (q + 1) = lb at *
              generalize G i = cc at *
              obtain ⟨op, d, a, b', kk⟩ := cc
              generalize G (q + 1) = dd at *
              obtain ⟨op2, d2, a2, b2', kk2⟩ := dd
              simp only [] at q0 q1 q2 q3 q4 r0 r1 r2 r3 r4 HW
              have HC := shade (ten_row (grown_drew1 wr) (by intro e; cases e) (by intro e; cases e) ⟨q0, q1, q2, q3, q4, r0, r1, r2, r3, r4⟩)
              have HGQ := shade (grown_same HGQ.out (grown_drew1 wr))
              have iq : (i : Int) < (m : Int) := by omega
              have kq : (q : Int) + 1 < (m : Int) := by omega
              have iq0 : (0 : Int) ≤ (i : Int) := by omega
              have kq0 : (0 : Int) ≤ (q : Int) + 1 := by omega
              have hik2 : (i : Int) < (q : Int) + 1 := by omega
              have HII := shade (show (i : Int) + 1 = (lo : Int) + ((t : Int) + 1) by omega)
              obtain ⟨y, hy⟩ : ∃ y, SX t = y := ⟨_, rfl⟩
              obtain ⟨y', hy'⟩ : ∃ y', SX (t + 1) = y' := ⟨_, rfl⟩
              obtain ⟨z, hz⟩ : ∃ z, f i = z := ⟨_, rfl⟩
              rw [hy, hy', hz] at hst
              rw [hy] at p1 ⊢
              rw [hy'] at p2
              rw [hz] at hfi
              have HY := shade hy'
              have HZ := shade hz
              clear hy hy' hz q0 q1 q2 q3 q4 r0 r1 r2 r3 r4 hi hii hlo3
              go_wp2_with fail
              go_region_held3 (fun w' => w'.cell? ⟨b, off + i * 5, none⟩ = some (.string op) ∧ w'.cell? ⟨b, off + i * 5 + 1, none⟩ = some (.int .i64 d) ∧ w'.cell? ⟨b, off + i * 5 + 2, none⟩ = some (.int .i64 a) ∧ w'.cell? ⟨b, off + i * 5 + 3, none⟩ = some (.int .i64 b') ∧ w'.cell? ⟨b, off + i * 5 + 4, none⟩ = some (.int .i64 kk) ∧ w'.cell? ⟨b, off + (q + 1) * 5, none⟩ = some (.string op2) ∧ w'.cell? ⟨b, off + (q + 1) * 5 + 1, none⟩ = some (.int .i64 d2) ∧ w'.cell? ⟨b, off + (q + 1) * 5 + 2, none⟩ = some (.int .i64 a2) ∧ w'.cell? ⟨b, off + (q + 1) * 5 + 3, none⟩ = some (.int .i64 b2') ∧ w'.cell? ⟨b, off + (q + 1) * 5 + 4, none⟩ = some (.int .i64 kk2))
                (exact HC.out)
                ((go_at_call 53; refine (HW.out _).mono ?_; rintro e w3 ⟨rfl, hg3⟩; have HC := shade (ten_row hg3 (by intro e; cases e) (by intro e; cases e) HC.out); have HGQ := shade (grown_same HGQ.out hg3); have HC0 := shade (HC0.out.grown (grown_same (grown_drew1 wr) hg3) (by intro _ _ _ e; cases e)); clear hg3))
              rename_i hHeld
              clear hHeld
              have HST2 := shade hst
              clear hst
              by_cases hx : 0 < x
              · go_wp2_with fail
                refine (HLW.out _ (grown_same HG.out HGQ.out)).mono ?_
                rintro e w4 ⟨rfl, hg4⟩
                have HGQ := shade (grown_same HGQ.out hg4)
                have HC0 := shade (HC0.out.grown hg4 (by intro _ _ _ e; cases e))
                clear hg4
                have hcz := HC0.out.cell (show i < q + 1 by omega)
                rw [HZ.out] at hcz
                rcases lb with _ | _
                · go_wp2_with fail
                  go_roundw
                  case rel => exact ⟨t + 1, by omega, by congr 1 <;> (have := HII.out; omega), (by rw [HY.out, HST2.out]; simp), HGQ.out⟩
                  case measure => simp [intOf]; omega
                · go_wp2_with fail
                  go_roundw
                  case rel => exact ⟨t + 1, by omega, by congr 1 <;> (have := HII.out; omega), (by rw [HY.out, HST2.out]; simp only [if_true, hx]; congr 1; split <;> omega), HGQ.out⟩
                  case measure => simp [intOf]; omega
              · obtain rfl : x = 0 := by omega
                go_wp2_with fail
                go_roundw
                case rel => exact ⟨t + 1, by omega, by congr 1 <;> (have := HII.out; omega), (by rw [HY.out, HST2.out]; simp), HGQ.out⟩
                case measure => simp [intOf]; omega
            · obtain rfl : t = mm := by omega
              have hii : (lo : Int) + (t : Int) = (q : Int) + 1 := by omega
              rw [HAT.out, hii]
              obtain ⟨z, hz⟩ : ∃ z, f (q + 1) = z := ⟨_, rfl⟩
              rw [hz]
              have HZ := shade hz
              clear hz hii
              have HGA := shade (grown_same HG.out HGQ.out)
              go_wp2_with (first
                | (at_builtin; refine wpList_append_own _ rfl _ _ 25 rfl w.heap.size 3 i1 (.int .i64 0) 1 8 Tryd.underlying25 HJ.out.1 HJ.out.2.1 HJ.out.2.2.1 HJ.out.2.2.2 rfl (by decide) _ _ _ rfl (World.ownsRow.alloc (ownsRow_on HO.out HGQ.out) _) ⟨wr.heap.size, 0, none⟩ 1 1 [.int .i64 z] rfl rfl (int_new _ _ _) (int_one _) (by unfold maxLen; omega) (by omega) (by have := HGA.out.size; simp; omega) ?_)
                | go_in)
              intro v8 w8 hown8 hgr8 hnil8
              rw [numL_snoc' _ f _ HZ.out] at hown8
              have HO8 := shade hown8
              have HG8 := shade (grown_row' (grown_same HGA.out (World.grownBy_alloc _ _ none)) hgr8 (fun r e => (World.ownsRow.lt HO.out r e).1))
              clear hown8 hgr8 hnil8
              go_wp2_with fail
              go_roundw
              case rel => exact ⟨q + 1 + 1, by omega, by go_num, HO8.out, HG8.out⟩
              case measure => simp [intOf]; omega
    · obtain rfl : k = m := by omega
      go_wp2_with fail
      go_ret
      exact ⟨_, rfl, HO.out, HG.out⟩
theorem sPipe_any (A : Option Addr) (m c : Nat) (G : Nat → Ins) (AJ : Option Addr) (cj : Nat) (J : Nat → Bool) (fw : Bool) (w : World) (hm : m ≤ 300) (hv : ∀ j, j < m → vI (G j) = true) (h : Code w A m G) (hj : Bols w AJ m J) :
    Calls Tryd.prog 41 #[.slice A m c, .slice AJ m cj, .bool fw] w (NumRes m (pk G J fw) w) := by
  by_cases h0 : m = 0
  · subst h0
    exact sPipe_zero A c AJ cj _ fw w
  · obtain ⟨b, off, rfl, _⟩ := h.resolve_left h0
    exact sPipe_at b off m c G AJ cj J fw w hm hv h hj
end Go.Proofs.YtlmjbflnfpccdaaDoor

namespace Go.Proofs.YtlmjbflnfpccdaaDoor
open Go.RowKit
set_option linter.unusedSimpArgs false
/-- As many rows as instructions that may go through the pipe. -/
def nP (n : Nat) (F : Nat → Ins) (m : Nat) : Nat := if vpB n F m = true then n else 0
theorem nP_yes {n m : Nat} {F : Nat → Ins} (h : vpB n F m = true) : nP n F m = n := if_pos h
theorem nP_no {n m : Nat} {F : Nat → Ins} (h : vpB n F m = false) : nP n F m = 0 := if_neg (by rw [h]; simp)
theorem nP_le (n m : Nat) (F : Nat → Ins) : nP n F m ≤ 300 := by
  rcases h : vpB n F m with _ | _
  · rw [nP_no h]; omega
  · rw [nP_yes h]; exact (vpB_yes h).1
def tmP (n : Nat) (F : Nat → Ins) (m : Nat) (J : Nat → Bool) (fw : Bool) : Int := if vpB n F m = true then ptm n (pk F J fw) else -1
theorem tmP_yes {n m : Nat} {F : Nat → Ins} {J : Nat → Bool} {fw : Bool} (h : vpB n F m = true) : tmP n F m J fw = ptm n (pk F J fw) := if_pos h
theorem tmP_no {n m : Nat} {F : Nat → Ins} {J : Nat → Bool} {fw : Bool} (h : vpB n F m = false) : tmP n F m J fw = -1 := if_neg (by rw [h]; simp)
/-- What jumps cost. -/
def saP (n : Nat) (F : Nat → Ins) (m : Nat) (J : Nat → Bool) : Int := if vpB n F m = true then bub J (n - 1) else -1
def sbP (n : Nat) (F : Nat → Ins) (m : Nat) (J : Nat → Bool) (fw : Bool) : Int := if vpB n F m = true then (if n = 0 then 0 else ptm n (pk F J fw) - n - 4 - bub J (n - 1)) else -1
theorem saP_yes {n m : Nat} {F : Nat → Ins} {J : Nat → Bool} (h : vpB n F m = true) : saP n F m J = bub J (n - 1) := if_pos h
theorem saP_no {n m : Nat} {F : Nat → Ins} {J : Nat → Bool} (h : vpB n F m = false) : saP n F m J = -1 := if_neg (by rw [h]; simp)
theorem sbP_yes {n m : Nat} {F : Nat → Ins} {J : Nat → Bool} {fw : Bool} (h : vpB n F m = true) : sbP n F m J fw = if n = 0 then 0 else ptm n (pk F J fw) - n - 4 - bub J (n - 1) := if_pos h
theorem sbP_no {n m : Nat} {F : Nat → Ins} {J : Nat → Bool} {fw : Bool} (h : vpB n F m = false) : sbP n F m J fw = -1 := if_neg (by rw [h]; simp)
theorem bols_on {w w' : World} {A : Option Addr} {n : Nat} {f : Nat → Bool} (h : Bols w A n f) (hg : w.grownBy w' none) : Bols w' A n f := h.grown hg (by intro _ _ _ e; cases e)
theorem NumRes.after {k : Nat} {f : Nat → Int} {w w1 w2 : World} {e : Ending} (hg : w.grownBy w1 none) (h : NumRes k f w1 e w2) : NumRes k f w e w2 := by
  obtain ⟨v, he, ho, h2⟩ := h
  exact ⟨v, he, World.ownsRow.mono ho hg.size, grown_same hg h2⟩
set_option maxHeartbeats 2000000 in
theorem SPipeTicks_any (A : Option Addr) (n c : Nat) (F : Nat → Ins) (AJ : Option Addr) (m cj : Nat) (J : Nat → Bool) (fw : Bool) (w : World) (hn : n ≤ 9223372036854775807) (h : Code w A n F) (hj : Bols w AJ m J) :
    Calls Tryd.prog 12 #[.slice A n c, .slice AJ m cj, .bool fw] w (NumRes (nP n F m) (pk F J fw) w) := by
  have HV := shade (validPipe_any A n c F AJ m cj w hn h)
  rcases hv : vpB n F m with _ | _
  · rw [nP_no hv]
    rw [hv] at HV
    clear h hv hj
    go_enter Tryd.func12, Tryd.ntmps12
    go_wp2_with fail
    refine HV.out.mono ?_
    rintro e w1 ⟨rfl, hg⟩
    have HG := shade hg
    clear hg
    go_wp2_with fail
    go_ret
    exact ⟨_, rfl, World.ownsRow_nil _ _ _ _, HG.out⟩
  · rw [nP_yes hv]
    rw [hv] at HV
    obtain ⟨h3, rfl, hI⟩ := vpB_yes hv
    have HP := shade (fun W (hW : w.grownBy W none) => sPipe_any A m c F AJ cj J fw W h3 hI (h.on hW) (bols_on hj hW))
    clear h hv hj hI
    go_enter Tryd.func12, Tryd.ntmps12
    go_wp2_with fail
    refine HV.out.mono ?_
    rintro e w1 ⟨rfl, hg⟩
    have HG := shade hg
    clear hg
    go_wp2_with fail
    refine (HP.out _ HG.out).mono ?_
    rintro e w2 h2
    have h3 := NumRes.after HG.out h2
    clear h2
    obtain ⟨v, rfl, hR, hg⟩ := h3
    have HR := shade hR
    have HG2 := shade hg
    clear hR hg
    go_wp2_with fail
    go_ret
    exact ⟨_, rfl, HR.out, HG2.out⟩
set_option maxHeartbeats 2000000 in
theorem SPipeTime_any (A : Option Addr) (n c : Nat) (F : Nat → Ins) (AJ : Option Addr) (m cj : Nat) (J : Nat → Bool) (fw : Bool) (w : World) (hn : n ≤ 9223372036854775807) (h : Code w A n F) (hj : Bols w AJ m J) :
    Calls Tryd.prog 23 #[.slice A n c, .slice AJ m cj, .bool fw] w fun e w' => e = .returned (.int .i64 (tmP n F m J fw)) ∧ w.grownBy w' none := by
  have HV := shade (validPipe_any A n c F AJ m cj w hn h)
  rcases hv : vpB n F m with _ | _
  · rw [tmP_no hv]
    rw [hv] at HV
    clear h hv hj
    go_enter Tryd.func23, Tryd.ntmps23
    go_wp2_with fail
    refine HV.out.mono ?_
    rintro e w1 ⟨rfl, hg⟩
    have HG := shade hg
    clear hg
    go_wp2_with fail
    go_ret
    exact ⟨rfl, HG.out⟩
  · rw [tmP_yes hv]
    rw [hv] at HV
    obtain ⟨h3, rfl, hI⟩ := vpB_yes hv
    have HP := shade (fun W (hW : w.grownBy W none) => sPipe_any A m c F AJ cj J fw W h3 hI (h.on hW) (bols_on hj hW))
    clear h hv hj hI
    unfold ptm
    have hr := pk_rng F J fw (m - 1)
    rcases m with _ | q
    · rw [if_pos rfl]
      go_enter Tryd.func23, Tryd.ntmps23
      go_wp2_with fail
      refine HV.out.mono ?_
      rintro e w1 ⟨rfl, hg⟩
      have HG := shade hg
      clear hg
      go_wp2_with fail
      go_ret
      exact ⟨rfl, HG.out⟩
    · rw [if_neg (by omega), show q + 1 - 1 = q from rfl]
      rw [show q + 1 - 1 = q from rfl] at hr
      obtain ⟨z, hz⟩ : ∃ z, pk F J fw q = z := ⟨_, rfl⟩
      rw [hz] at hr ⊢
      have HZ := shade hz
      clear hz
      have i1 : (q : Int) < (q : Int) + 1 := by omega
      have i2 : (0 : Int) ≤ (q : Int) := by omega
      go_enter Tryd.func23, Tryd.ntmps23
      go_wp2_with fail
      refine HV.out.mono ?_
      rintro e w1 ⟨rfl, hg⟩
      have HG := shade hg
      clear hg
      go_wp2_with fail
      refine (HP.out _ HG.out).mono ?_
      rintro e w2 h2
      obtain ⟨v, rfl, hR, hg⟩ := NumRes.row h2
      obtain ⟨A1, c1, rfl, hN⟩ := hR.nums
      obtain ⟨ob, oo, rfl, -⟩ := hN.resolve_left (by omega)
      have hq := hN.cell (show q < q + 1 by omega)
      rw [HZ.out] at hq
      have HG2 := shade (grown_same HG.out hg)
      clear h2 hR hN hg
      go_wp2_with fail
      go_ret
      exact ⟨rfl, HG2.out⟩
set_option maxRecDepth 100000 in
set_option maxHeartbeats 4000000 in
theorem SStallsOf_any (A : Option Addr) (n c : Nat) (F : Nat → Ins) (AJ : Option Addr) (m cj : Nat) (J : Nat → Bool) (fw : Bool) (w : World) (hn : n ≤ 9223372036854775807) (h : Code w A n F) (hj : Bols w AJ m J) :
    Calls Tryd.prog 30 #[.slice A n c, .slice AJ m cj, .bool fw] w fun e w' => e = .returned (.tuple #[.int .i64 (saP n F m J), .int .i64 (sbP n F m J fw)]) ∧ w.grownBy w' none := by
  have HV := shade (validPipe_any A n c F AJ m cj w hn h)
  rcases hv : vpB n F m with _ | _
  · rw [saP_no hv, sbP_no hv]
    rw [hv] at HV
    clear h hv hj
    go_enter Tryd.func30, Tryd.ntmps30
    go_wp2_with fail
    refine HV.out.mono ?_
    rintro e w1 ⟨rfl, hg⟩
    have HG := shade hg
    clear hg
    go_wp2_with fail
    go_ret2
    exact ⟨rfl, HG.out⟩
  · rw [saP_yes hv, sbP_yes hv]
    rw [hv] at HV
    have HT := shade (fun W (hW : w.grownBy W none) => show Calls Tryd.prog 23 #[.slice A n c, .slice AJ m cj, .bool fw] W (fun e w' => e = .returned (.int .i64 (ptm n (pk F J fw))) ∧ W.grownBy w' none) from tmP_yes (J := J) (fw := fw) hv ▸ SPipeTime_any A n c F AJ m cj J fw W hn (h.on hW) (bols_on hj hW))
    obtain ⟨h3, rfl, hI⟩ := vpB_yes hv
    have HBJ := shade hj
    clear h hv hj hI
    rcases m with _ | q
    · rw [if_pos rfl]
      go_enter Tryd.func30, Tryd.ntmps30
      go_wp2_with fail
      refine HV.out.mono ?_
      rintro e w1 ⟨rfl, hg⟩
      have HG := shade hg
      clear hg
      go_wp2_with fail
      go_ret2
      exact ⟨rfl, HG.out⟩
    · rw [if_neg (by omega), show q + 1 - 1 = q from rfl]
      have hr := pk_rng F J fw q
      have hT : ptm (q + 1) (pk F J fw) = pk F J fw q + 3 := if_neg (by omega)
      rw [hT] at HT ⊢
      generalize pk F J fw q = z at *
      obtain ⟨jb, jo, rfl, -⟩ := HBJ.out.resolve_left (by omega)
      go_enter Tryd.func30, Tryd.ntmps30
      go_wp2_with fail
      refine HV.out.mono ?_
      rintro e w1 ⟨rfl, hg⟩
      have HG := shade hg
      clear hg
      go_wp2_with fail
      go_loopw [8, 9] (fun v k wr => ∃ j : Nat, j ≤ q ∧ k = .int .i64 (j : Int) ∧ v = .int .i64 (bub J j) ∧ w.grownBy wr none) (fun _ k _ => q - (intOf k).toNat)
      case atStart => exact ⟨0, Nat.zero_le _, rfl, rfl, HG.out⟩
      case round =>
        clear HG
        obtain ⟨j, hjq, rfl, rfl, hg⟩ := hrel
        have HG := shade hg
        clear hg
        have hb := bub_rng J j
        by_cases hlt : j < q
        · have hc := (bols_on HBJ.out HG.out).cell (show j < q + 1 by omega)
          have hs : bub J (j + 1) = bub J j + (if J j = true then 2 else 0) := rfl
          have i1 : (j : Int) < (q : Int) + 1 := by omega
          have i2 : (0 : Int) ≤ (j : Int) := by omega
          have i3 : (j : Int) + 1 < (q : Int) + 1 := by omega
          generalize bub J j = y at *
          have HS := shade hs
          rcases hjj : J j with _ | _
          · rw [hjj] at hc HS
            clear hs hjj
            go_wp2_with fail
            go_roundw
            case rel => exact ⟨j + 1, by omega, by go_num, (by rw [HS.out]; simp), HG.out⟩
            case measure => simp [intOf]; omega
          · rw [hjj] at hc HS
            clear hs hjj
            go_wp2_with fail
            go_roundw
            case rel => exact ⟨j + 1, by omega, by go_num, (by rw [HS.out]; simp), HG.out⟩
            case measure => simp [intOf]; omega
        · obtain rfl : j = q := by omega
          go_wp2_with fail
          refine (HT.out _ HG.out).mono ?_
          rintro e w2 ⟨rfl, hg2⟩
          have HG2 := shade (grown_same HG.out hg2)
          clear hg2
          go_wp2_with fail
          go_ret2
          exact ⟨rfl, HG2.out⟩
end Go.Proofs.YtlmjbflnfpccdaaDoor
