/- When instructions begin, by the model. -/
import Derived.Test.YtblnchcgeepemaaDoorW960
import Derived.Test.YtblnchcgeepemaaDoorW961
import Derived.Test.YtblnchcgeepemaaDoorW400d
namespace Go.Proofs.YtblnchcgeepemaaDoor
open Go.RowKit
set_option linter.unusedSimpArgs false
theorem sx_mono {a : Int} {w g : Nat → Int} : ∀ {i k : Nat}, i ≤ k → sx a w g i ≤ sx a w g k
  | i, 0, h => by
    obtain rfl : i = 0 := by omega
    exact Int.le_refl _
  | i, k + 1, h => by
    by_cases e : i = k + 1
    · rw [e]
      exact Int.le_refl _
    · have h1 := sx_mono (a := a) (w := w) (g := g) (show i ≤ k by omega)
      show _ ≤ (if 0 < w k then max (sx a w g k) (g k + w k) else sx a w g k)
      split
      · omega
      · exact h1
/-- Beginnings as the model has them. -/
structure Bgs (G : Nat → Ins) (f : Nat → Int) (m : Nat) : Prop where
  at' : ∀ k, k < m → sx (sa f k) (fun i => wtI (G i) (G k)) f k = f k
  rng : ∀ k, k < m → 0 ≤ f k ∧ f k ≤ 18
theorem Bgs.part {G : Nat → Ins} {f : Nat → Int} {m : Nat} (h : Bgs G f m) {i k : Nat} (hk : k < m) (hi : i ≤ k) : 0 ≤ sx (sa f k) (fun i => wtI (G i) (G k)) f i ∧ sx (sa f k) (fun i => wtI (G i) (G k)) f i ≤ 18 := by
  have h1 := sx_mono (a := sa f k) (w := fun i => wtI (G i) (G k)) (g := f) hi
  rw [h.at' k hk] at h1
  have h2 := (h.rng k hk).2
  have h3 : sa f k ≤ sx (sa f k) (fun i => wtI (G i) (G k)) f i := (sx_le.1 (Int.le_refl _)).1
  have h4 : 0 ≤ sa f k := by
    unfold sa
    split
    · omega
    · have := (h.rng (k - 1) (by omega)).1
      omega
  omega
set_option maxRecDepth 100000 in
set_option maxHeartbeats 8000000 in
theorem sBegins_at (b off m c : Nat) (G : Nat → Ins) (f : Nat → Int) (w : World) (hm : m ≤ 6) (hv : ∀ j, j < m → vI (G j) = true) (hf : Bgs G f m) (h : Code w (some ⟨b, off, none⟩) m G) :
    Calls Tryd.prog 27 #[.slice (some ⟨b, off, none⟩) m c] w (NumRes m f w) := by
  have HB := shade hv
  have HF := shade hf
  have H := shade h
  clear h hv hf
  obtain ⟨i1, hi1, hy0, hy1, hy2⟩ := info_parts info3p
  have HJ := shade (And.intro hi1 (And.intro hy0 (And.intro hy1 hy2)))
  clear hi1 hy0 hy1 hy2
  have L0 := shade (show (w.alloc (.cells #[] 3)).ownsRow w.heap.size 3 1 (.slice (some ⟨w.heap.size, 0, none⟩) 0 0) 0 [] from World.ownsRow_lit (base := w.heap.size) (e := 3) (size := 1) w #[] 0 (by omega) (by decide) rfl)
  have G0 := shade (World.grownBy_alloc w (.cells #[] 3) none)
  go_enter Tryd.func27, Tryd.ntmps27
  go_wp2_with fail
  go_loopw [3, 4] (fun v k wr => ∃ kk : Nat, kk ≤ m ∧ k = .int .i64 kk ∧ wr.ownsRow w.heap.size 3 1 v kk (numL kk f) ∧ w.grownBy wr none) (fun _ k _ => m - (intOf k).toNat)
  case atStart => exact ⟨0, Nat.zero_le _, rfl, L0.out, G0.out⟩
  case round =>
    clear L0 G0
    obtain ⟨wo, hwo⟩ : ∃ wo : World, wo = wr := ⟨_, rfl⟩
    subst hwo
    obtain ⟨k, hk, rfl, ho, hg⟩ := hrel
    have HO := shade ho; have HG := shade hg
    obtain ⟨A1, c1, rfl, -⟩ := ownsRow_slice ho
    clear ho hg
    by_cases hkm : k < m
    · have HR := shade (fun j (hj : j < k) => HF.out.rng j (by omega))
      have hp0 := HF.out.part hkm (Nat.zero_le k)
      have hsa : sx (sa f k) (fun i => wtI (G i) (G k)) f 0 = sa f k := rfl
      rw [hsa] at hp0
      clear hsa
      have HN := shade (show RowO wo w.heap.size wo.heap.size 3 (.slice A1 k c1) k (numL k f) from ⟨HO.out, fun i hi => (World.ownsRow.lt HO.out i hi).2⟩)
      obtain ⟨A1', c1', e1, hN⟩ := HN.out.nums
      injection e1 with e1 _ e2
      subst e1 e2
      have HNN := shade hN
      clear hN HN
      rcases k with _ | q
      · have hf0 : f 0 = 0 := (HF.out.at' 0 hkm).symm
        have hz : (0 : Nat) < m := hkm
        go_wp2_with fail
        refine wp_loop_rounds 1 ?_
        rw [rounds_succ]
        go_wp2_with (first
        | (at_builtin; refine wpList_append_own _ rfl _ _ 25 rfl w.heap.size 3 i1 (.int .i64 0) 1 8 Tryd.underlying25 HJ.out.1 HJ.out.2.1 HJ.out.2.2.1 HJ.out.2.2.2 rfl (by decide) _ _ _ rfl (World.ownsRow.alloc HO.out _) ⟨wo.heap.size, 0, none⟩ 1 1 [.int .i64 0] rfl rfl (int_new _ _ _) (int_one _) (by unfold maxLen; omega) (by omega) (by have := HG.out.size; simp; omega) ?_)
        | go_in)
        intro v8 w8 hown8 hgr8 hnil8
        rw [numL_snoc' _ f _ hf0] at hown8
        have HO8 := shade hown8
        have HG8 := shade (grown_row' (grown_same HG.out (World.grownBy_alloc _ _ none)) hgr8 (fun r e => (World.ownsRow.lt HO.out r e).1))
        clear hown8 hgr8 hnil8
        go_wp2_with fail
        go_roundw
        case rel => exact ⟨0 + 1, by omega, by go_num, HO8.out, HG8.out⟩
        case measure => simp [intOf]; omega
      · have q1 := HNN.out
        obtain ⟨ob, oo, rfl, -⟩ := HNN.out.resolve_left (by omega)
        have hq := HNN.out.cell (show q < q + 1 by omega)
        have hrq := HR.out q (by omega)
        have hsa : sa f (q + 1) = f q + 1 := if_neg (by omega)
        have hsa0 : sx (sa f (q + 1)) (fun i => wtI (G i) (G (q + 1))) f 0 = f q + 1 := hsa
        have HE := shade hsa0
        have HPT := shade (fun i (hi : i ≤ q + 1) => HF.out.part hkm hi)
        have HAT := shade (HF.out.at' (q + 1) hkm)
        obtain ⟨SX, hSX⟩ : ∃ SX, sx (sa f (q + 1)) (fun i => wtI (G i) (G (q + 1))) f = SX := ⟨_, rfl⟩
        have HST := shade (show ∀ i, SX (i + 1) = if 0 < wtI (G i) (G (q + 1)) then max (SX i) (f i + wtI (G i) (G (q + 1))) else SX i from fun i => by rw [← hSX]; rfl)
        rw [hSX] at HE HPT HAT
        clear hSX hsa hsa0 q1 hp0
        go_wp2_with fail
        go_loopw [5, 6] (fun v i wq => ∃ ii : Nat, ii ≤ q + 1 ∧ i = .int .i64 ii ∧ v = .int .i64 (SX ii) ∧ wo.grownBy wq none) (fun _ i _ => q + 1 - (intOf i).toNat)
        case atStart => exact ⟨0, Nat.zero_le _, rfl, by rw [HE.out], grown_refl _ _⟩
        case round =>
          clear HE hq hrq
          obtain ⟨i, hik, rfl, rfl, hgq⟩ := hrel
          have HGQ := shade hgq
          clear hgq
          by_cases hlt : i < q + 1
          · obtain ⟨q0, q1, q2, q3, q4⟩ := (H.out.on (grown_same HG.out HGQ.out)).five (show i < m by omega)
            obtain ⟨r0, r1, r2, r3, r4⟩ := (H.out.on (grown_same HG.out HGQ.out)).five hkm
            have HW := shade (fun W => waits_any (G i) (G (q + 1)) (HB.out i (by omega)) (HB.out (q + 1) hkm) W)
            have hwr := wtI_rng (G i) (G (q + 1))
            have hst := HST.out i
            have p1 := HPT.out i (by omega)
            have p2 := HPT.out (i + 1) (by omega)
            have hfi := HR.out i (by omega)
            have HC0 := shade (HNN.out.grown HGQ.out (by intro _ _ _ e; cases e))
            generalize wtI (G i) (G (q + 1)) = x at *
            generalize G i = cc at *
            obtain ⟨op, d, a, b', kk⟩ := cc
            generalize G (q + 1) = dd at *
            obtain ⟨op2, d2, a2, b2', kk2⟩ := dd
            simp only [] at q0 q1 q2 q3 q4 r0 r1 r2 r3 r4 HW
            have HC := shade (ten_row (grown_drew1 wr) (by intro e; cases e) (by intro e; cases e) ⟨q0, q1, q2, q3, q4, r0, r1, r2, r3, r4⟩)
            have HGQ := shade (grown_same HGQ.out (grown_drew1 wr))
            have iq : (i : Int) < (m : Int) := by omega
            have kq : (q : Int) + 1 < (m : Int) := by omega
            have iq0 : (0 : Int) ≤ (i : Int) := by omega
            have kq0 : (0 : Int) ≤ (q : Int) + 1 := by omega
            have hik2 : (i : Int) < (q : Int) + 1 := by omega
            obtain ⟨y, hy⟩ : ∃ y, SX i = y := ⟨_, rfl⟩
            obtain ⟨y', hy'⟩ : ∃ y', SX (i + 1) = y' := ⟨_, rfl⟩
            obtain ⟨z, hz⟩ : ∃ z, f i = z := ⟨_, rfl⟩
            rw [hy, hy', hz] at hst
            rw [hy] at p1 ⊢
            rw [hy'] at p2
            rw [hz] at hfi
            have HY := shade hy'
            have HZ := shade hz
            clear hy hy' hz q0 q1 q2 q3 q4 r0 r1 r2 r3 r4
            go_wp2_with fail
            go_region_held3 (fun w' => w'.cell? ⟨b, off + i * 5, none⟩ = some (.string op) ∧ w'.cell? ⟨b, off + i * 5 + 1, none⟩ = some (.int .i64 d) ∧ w'.cell? ⟨b, off + i * 5 + 2, none⟩ = some (.int .i64 a) ∧ w'.cell? ⟨b, off + i * 5 + 3, none⟩ = some (.int .i64 b') ∧ w'.cell? ⟨b, off + i * 5 + 4, none⟩ = some (.int .i64 kk) ∧ w'.cell? ⟨b, off + (q + 1) * 5, none⟩ = some (.string op2) ∧ w'.cell? ⟨b, off + (q + 1) * 5 + 1, none⟩ = some (.int .i64 d2) ∧ w'.cell? ⟨b, off + (q + 1) * 5 + 2, none⟩ = some (.int .i64 a2) ∧ w'.cell? ⟨b, off + (q + 1) * 5 + 3, none⟩ = some (.int .i64 b2') ∧ w'.cell? ⟨b, off + (q + 1) * 5 + 4, none⟩ = some (.int .i64 kk2))
              (exact HC.out)
              ((go_at_call 40; refine (HW.out _).mono ?_; rintro e w3 ⟨rfl, hg3⟩; have HC := shade (ten_row hg3 (by intro e; cases e) (by intro e; cases e) HC.out); have HGQ := shade (grown_same HGQ.out hg3); have HC0 := shade (HC0.out.grown (grown_same (grown_drew1 wr) hg3) (by intro _ _ _ e; cases e)); clear hg3))
            rename_i hHeld
            clear hHeld
            have hcz := HC0.out.cell (show i < q + 1 by omega)
            rw [HZ.out] at hcz
            have HST2 := shade hst
            clear hst
            by_cases hx : 0 < x
            · go_wp2_with fail
              go_roundw
              case rel => exact ⟨i + 1, by omega, by go_num, (by rw [HY.out, HST2.out, if_pos hx]; congr 1; split <;> omega), HGQ.out⟩
              case measure => simp [intOf]; omega
            · go_wp2_with fail
              go_roundw
              case rel => exact ⟨i + 1, by omega, by go_num, (by rw [HY.out, HST2.out, if_neg hx]), HGQ.out⟩
              case measure => simp [intOf]; omega
          · obtain rfl : i = q + 1 := by omega
            rw [HAT.out]
            obtain ⟨z, hz⟩ : ∃ z, f (q + 1) = z := ⟨_, rfl⟩
            rw [hz]
            have HZ := shade hz
            clear hz
            have HG9 := shade (grown_same HG.out HGQ.out)
            go_wp2_with (first
              | (at_builtin; refine wpList_append_own _ rfl _ _ 25 rfl w.heap.size 3 i1 (.int .i64 0) 1 8 Tryd.underlying25 HJ.out.1 HJ.out.2.1 HJ.out.2.2.1 HJ.out.2.2.2 rfl (by decide) _ _ _ rfl (World.ownsRow.alloc (ownsRow_on HO.out HGQ.out) _) ⟨wr.heap.size, 0, none⟩ 1 1 [.int .i64 z] rfl rfl (int_new _ _ _) (int_one _) (by unfold maxLen; omega) (by omega) (by have := HG9.out.size; simp; omega) ?_)
              | go_in)
            intro v8 w8 hown8 hgr8 hnil8
            rw [numL_snoc' _ f _ HZ.out] at hown8
            have HO8 := shade hown8
            have HG8 := shade (grown_row' (grown_same HG9.out (World.grownBy_alloc _ _ none)) hgr8 (fun r e => (World.ownsRow.lt HO.out r e).1))
            clear hown8 hgr8 hnil8
            go_wp2_with fail
            go_roundw
            case rel => exact ⟨q + 1 + 1, by omega, by go_num, HO8.out, HG8.out⟩
            case measure => simp [intOf]; omega
    · obtain rfl : k = m := by omega
      go_wp2_with fail
      go_ret
      exact ⟨_, rfl, HO.out, HG.out⟩

end Go.Proofs.YtblnchcgeepemaaDoor
