/- BlockTime, by the program. The greatest and the least of a row of numbers. The least time, by the model and by the program. The least time is not behind the end of a block as it stands. HeightsOf answers as its model for what is drawn; they are at least the ticks, and at least what one waits and the number of this one. BlockTime answers as its model for what is drawn; each one begins as it must wait, and all are done at the end, not ahead of the least time. -/
import Derived.Test.YtblnchcgeepemaaDoorW964
import Derived.Test.YtblnchcgeepemaaDoorW969
import Derived.Test.YtblnchcgeepemaaDoorV13
import Derived.Test.YtblnchcgeepemaaDoorV16
import Derived.Test.YtblnchcgeepemaaDoorW960
import Derived.Test.YtblnchcgeepemaaDoorV25
import Derived.Test.YtblnchcgeepemaaDoorW997
import Derived.Test.YtblnchcgeepemaaDoorW25
namespace Go.Proofs.YtblnchcgeepemaaDoor
open Go.RowKit
set_option linter.unusedSimpArgs false
set_option maxRecDepth 100000 in
set_option maxHeartbeats 4000000 in
theorem IBlockTime_any (A : Option Addr) (n c : Nat) (F : Nat → Ins) (w : World) (hw : WT w) (hn : n ≤ 9223372036854775807) (hcap : n ≤ c) (h : Code w A n F) :
    Calls Tryd.prog 12 #[.slice A n c] w (NumRes2 (nB n F) (bg F (fun i => i)) (btB n F) w) := by
  rcases hv : blB n F with _ | _
  · rw [nB_no hv, btB_no hv]
    have HB := shade (IBlockOf_no A n c F w hw hv hn h)
    clear h hv
    go_enter Tryd.func12, Tryd.ntmps12
    go_wp2_with fail
    refine HB.out.mono ?_
    rintro e w1 ⟨rfl, hg⟩
    have HG := shade (grown_same hg (World.grownBy_alloc w1 (.cells #[.slice none 0 0, .slice none 0 0] 41) none))
    clear hg
    go_wp2_with fail
    go_ret2
    exact ⟨_, rfl, ⟨World.ownsRow_nil _ _ _ _, fun _ h => (by cases h)⟩, HG.out⟩
  · rw [nB_yes hv, btB_yes hv]
    have h6 := blB_6 hv
    have HB := shade (IBlockOf_any A n c F w hw hcap hv h)
    clear h hv
    go_enter Tryd.func12, Tryd.ntmps12
    go_wp2_with fail
    refine HB.out.mono ?_
    rintro e w1 ⟨tv, wv, AS, rfl, ht, hr, -, hg⟩
    have hbk : Blk w1 w.heap.size w1.heap.size tv wv AS n F := ⟨⟨ht, fun b hb => (World.ownsRow.lt ht b hb).2⟩, hr⟩
    obtain ⟨A1, c1, rfl, -⟩ := ownsRow_slice ht
    obtain ⟨A2, c2, rfl, -⟩ := hr.shape
    have HG := shade (grown_same hg (World.grownBy_alloc w1 (.cells #[.slice A1 n c1, .slice A2 n c2] 41) none))
    have HX := shade (Holds5.fresh w1 41 #[.slice A1 n c1, .slice A2 n c2])
    have HK := shade (hbk.grown (World.grownBy_alloc w1 (.cells #[.slice A1 n c1, .slice A2 n c2] 41) none))
    have HBX := shade (show Hid (w.heap.size ≤ w1.heap.size) from shade hg.size)
    clear hg ht hr hbk
    go_wp2_with fail
    obtain ⟨W1, hW1⟩ : ∃ W1, w1.alloc (.cells #[.slice A1 n c1, .slice A2 n c2] 41) = W1 := ⟨_, rfl⟩
    obtain ⟨Bb, hBb⟩ : ∃ Bb, w1.heap.size = Bb := ⟨_, rfl⟩
    rw [hW1] at HG HX HK
    rw [hBb] at HX HK
    simp only [hW1, hBb]
    clear hW1 hBb
    have HST := shade (iStands_any _ _ _ _ AS n F _ h6 HK.out)
    refine HST.out.mono ?_
    rintro e w2 h2
    obtain ⟨v, rfl, hR, hg2⟩ := NumRes.row h2
    obtain ⟨A3, c3, rfl, hN⟩ := hR.nums
    have HG2 := shade (grown_same HG.out hg2); have HX2 := shade (HX.out.grown hg2 (by intro e; cases e)); have HK2 := shade (HK.out.grown hg2); have HN2 := shade hN
    clear h2 hR hN hg2 HST HG HX HK
    have x0 := HX2.out.look 0; have x1 := HX2.out.look 1
    simp at x0 x1
    have HBG := shade (fun W (hg : w2.grownBy W none) => iBegins_any _ _ _ _ AS n F A3 n c3 (fun i => i) W h6 (HK2.out.grown hg) (HN2.out.grown hg (by intro _ _ _ e; cases e)) (fun j hj => hj))
    have HEN := shade (fun W (hg : w2.grownBy W none) => iEnd_any _ _ _ _ AS n F A3 n c3 (fun i => i) W h6 (HK2.out.grown hg) (HN2.out.grown hg (by intro _ _ _ e; cases e)) (fun j hj => hj))
    go_wp2_with fail
    have HX3 := shade HX2.out.drew
    go_region_held3 (fun w' => w'.cell? ⟨Bb, 0, none⟩ = some (.slice A1 n c1) ∧ w'.cell? ⟨Bb, 1, none⟩ = some (.slice A2 n c2))
      (exact ⟨HX3.out.look 0, HX3.out.look 1⟩)
      (first
        | (go_at_call 25; refine (HBG.out _ (grown_drew1 _)).mono ?_; rintro e w3 h3; obtain ⟨v3, rfl, hR3, hg3⟩ := NumRes.row h3; obtain ⟨A4, c4, rfl, -⟩ := hR3.nums; have HX3 := shade (HX3.out.grown hg3 (by intro e; cases e)); have HG3 := shade (grown_same (grown_drew1 w2) hg3); have HR3 := shade hR3; clear h3 hR3 hg3)
        | (go_at_call 26; refine (HEN.out _ HG3.out).mono ?_; rintro e w4 ⟨rfl, hg4⟩; have HX3 := shade (HX3.out.grown hg4 (by intro e; cases e)); have HG4 := shade (grown_same HG3.out hg4); have HR4 := shade (HR3.out.grown hg4); have HS4 := shade hg4.size; clear hg4))
    rename_i hHeld
    clear hHeld
    go_wp2_with fail
    go_ret2
    exact ⟨_, rfl, ⟨World.ownsRow.mono HR4.out.own (Nat.le_trans HG2.out.size (Nat.le_refl _)), fun b hb => Nat.lt_of_lt_of_le (HR4.out.hib b hb) HS4.out⟩, grown_same HG2.out HG4.out⟩
theorem time_both (n : Nat) (F : Nat → Ins) (hn : n ≤ 9223372036854775807) :
    ∃ (K : Nat) (f : Nat → Int) (z : Int), K ≤ 300 ∧ (∀ (A : Option Addr) (c : Nat) (W : World), Code W A n F → Calls Tryd.prog 13 #[.slice A n c] W (NumRes2 K f z W)) ∧
      (∀ (A : Option Addr) (W : World), WT W → Code W A n F → Calls Tryd.prog 12 #[.slice A n n] W (NumRes2 K f z W)) ∧ True := by
  have h6 := nB_6 n F
  exact ⟨nB n F, _, btB n F, by omega, fun A c W h => SBlockTime_any A n c F W hn h, fun A W hW h => IBlockTime_any A n n F W hW hn (Nat.le_refl _) h, trivial⟩

end Go.Proofs.YtblnchcgeepemaaDoor

namespace Go.Proofs.YtblnchcgeepemaaDoor
open Go.RowKit
set_option linter.unusedSimpArgs false
def mxN (f : Nat → Int) : Nat → Int
  | 0 => f 0
  | k + 1 => max (mxN f k) (f (k + 1))
def mnN (f : Nat → Int) : Nat → Int
  | 0 => f 0
  | k + 1 => min (mnN f k) (f (k + 1))
theorem mxN_rng {f : Nat → Int} {lo hi : Int} (h : ∀ j, lo ≤ f j ∧ f j ≤ hi) : ∀ k, lo ≤ mxN f k ∧ mxN f k ≤ hi
  | 0 => h 0
  | k + 1 => by
    have h1 := mxN_rng h k
    have h2 := h (k + 1)
    show lo ≤ max (mxN f k) (f (k + 1)) ∧ max (mxN f k) (f (k + 1)) ≤ hi
    omega
theorem mnN_rng {f : Nat → Int} {lo hi : Int} (h : ∀ j, lo ≤ f j ∧ f j ≤ hi) : ∀ k, lo ≤ mnN f k ∧ mnN f k ≤ hi
  | 0 => h 0
  | k + 1 => by
    have h1 := mnN_rng h k
    have h2 := h (k + 1)
    show lo ≤ min (mnN f k) (f (k + 1)) ∧ min (mnN f k) (f (k + 1)) ≤ hi
    omega
theorem mxN_ge (f : Nat → Int) : ∀ {k j : Nat}, j ≤ k → f j ≤ mxN f k
  | 0, j, h => by
    obtain rfl : j = 0 := by omega
    exact Int.le_refl _
  | k + 1, j, h => by
    show f j ≤ max (mxN f k) (f (k + 1))
    by_cases e : j = k + 1
    · subst e
      omega
    · have := mxN_ge f (show j ≤ k by omega)
      omega
set_option maxRecDepth 100000 in
set_option maxHeartbeats 4000000 in
theorem maxNums_any (lo hi : Nat) (v : Value) (m : Nat) (f : Nat → Int) (w : World) (hn : m + 1 ≤ 40) (h : RowO w lo hi 3 v (m + 1) (numL (m + 1) f)) :
    Calls Tryd.prog 29 #[v] w fun e w' => e = .returned (.int .i64 (mxN f m)) ∧ w.grownBy w' none := by
  obtain ⟨A, c, rfl, hN⟩ := h.nums
  obtain ⟨b, off, rfl, hb, -⟩ := hN.resolve_left (by omega)
  have HC := shade hN
  have c0 := hN.cell (show 0 < m + 1 by omega)
  rw [Nat.add_zero] at c0
  clear h hN
  go_enter Tryd.func29, Tryd.ntmps29
  go_wp2_with fail
  clear c0
  go_loopw [3, 4] (fun u i wr => ∃ q : Nat, q ≤ m ∧ u = .int .i64 (mxN f q) ∧ i = .int .i64 ((q : Int) + 1) ∧ wr = w) (fun _ i _ => m + 1 - (intOf i).toNat)
  case atStart => exact ⟨0, Nat.zero_le _, rfl, rfl, rfl⟩
  case round =>
    obtain ⟨q, hq, rfl, rfl, rfl⟩ := hrel
    by_cases hqm : q < m
    · have c1 := HC.out.cell (show q + 1 < m + 1 by omega)
      have i0 : (q : Int) + 1 < (m : Int) + 1 := by omega
      have i1 : (0 : Int) ≤ (q : Int) + 1 := by omega
      have HX := shade (show mxN f (q + 1) = max (mxN f q) (f (q + 1)) from rfl)
      obtain ⟨x, hx⟩ : ∃ x, mxN f q = x := ⟨_, rfl⟩
      obtain ⟨y, hy⟩ : ∃ y, f (q + 1) = y := ⟨_, rfl⟩
      rw [hx, hy] at HX
      rw [hy] at c1
      rw [hx]
      clear hx hy
      go_wp2_with fail
      all_goals
        go_roundw
        case rel => exact ⟨q + 1, by omega, by rw [HX.out]; congr 1; (first | omega | (split <;> omega)), by go_num, trivial⟩
        case measure => simp [intOf]; omega
    · obtain rfl : q = m := by omega
      go_wp2_with fail
      go_ret
      exact ⟨rfl, grown_refl _ _⟩
set_option maxRecDepth 100000 in
set_option maxHeartbeats 4000000 in
theorem minNums_any (lo hi : Nat) (v : Value) (m : Nat) (f : Nat → Int) (w : World) (hn : m + 1 ≤ 40) (h : RowO w lo hi 3 v (m + 1) (numL (m + 1) f)) :
    Calls Tryd.prog 30 #[v] w fun e w' => e = .returned (.int .i64 (mnN f m)) ∧ w.grownBy w' none := by
  obtain ⟨A, c, rfl, hN⟩ := h.nums
  obtain ⟨b, off, rfl, hb, -⟩ := hN.resolve_left (by omega)
  have HC := shade hN
  have c0 := hN.cell (show 0 < m + 1 by omega)
  rw [Nat.add_zero] at c0
  clear h hN
  go_enter Tryd.func30, Tryd.ntmps30
  go_wp2_with fail
  clear c0
  go_loopw [3, 4] (fun u i wr => ∃ q : Nat, q ≤ m ∧ u = .int .i64 (mnN f q) ∧ i = .int .i64 ((q : Int) + 1) ∧ wr = w) (fun _ i _ => m + 1 - (intOf i).toNat)
  case atStart => exact ⟨0, Nat.zero_le _, rfl, rfl, rfl⟩
  case round =>
    obtain ⟨q, hq, rfl, rfl, rfl⟩ := hrel
    by_cases hqm : q < m
    · have c1 := HC.out.cell (show q + 1 < m + 1 by omega)
      have i0 : (q : Int) + 1 < (m : Int) + 1 := by omega
      have i1 : (0 : Int) ≤ (q : Int) + 1 := by omega
      have HX := shade (show mnN f (q + 1) = min (mnN f q) (f (q + 1)) from rfl)
      obtain ⟨x, hx⟩ : ∃ x, mnN f q = x := ⟨_, rfl⟩
      obtain ⟨y, hy⟩ : ∃ y, f (q + 1) = y := ⟨_, rfl⟩
      rw [hx, hy] at HX
      rw [hy] at c1
      rw [hx]
      clear hx hy
      go_wp2_with fail
      all_goals
        go_roundw
        case rel => exact ⟨q + 1, by omega, by rw [HX.out]; congr 1; (first | omega | (split <;> omega)), by go_num, trivial⟩
        case measure => simp [intOf]; omega
    · obtain rfl : q = m := by omega
      go_wp2_with fail
      go_ret
      exact ⟨rfl, grown_refl _ _⟩
end Go.Proofs.YtblnchcgeepemaaDoor

namespace Go.Proofs.YtblnchcgeepemaaDoor
open Go.RowKit
set_option linter.unusedSimpArgs false
/-- What LeastTime tells. -/
def ltB (n : Nat) (F : Nat → Ins) : Int := if blB n F = true then (match n with | 0 => 0 | m + 1 => max (mxN (hgt F (m + 1)) m) ((m : Int) + mnN (latF F) m)) else -1
theorem ltB_no {n : Nat} {F : Nat → Ins} (h : blB n F = false) : ltB n F = -1 := by
  unfold ltB
  rw [h]
  rfl
theorem ltB_zero {F : Nat → Ins} (h : blB 0 F = true) : ltB 0 F = 0 := by
  unfold ltB
  rw [h]
  rfl
theorem ltB_pos {m : Nat} {F : Nat → Ins} (h : blB (m + 1) F = true) : ltB (m + 1) F = max (mxN (hgt F (m + 1)) m) ((m : Int) + mnN (latF F) m) := by
  unfold ltB
  rw [h]
  rfl
def oS (f : Nat → Int) : Nat → Int
  | 0 => 0
  | k + 1 => mxN f k
def lS (f : Nat → Int) : Nat → Int
  | 0 => 0
  | k + 1 => mnN f k
theorem oS_next {f : Nat → Int} (h : ∀ j, 1 ≤ f j) : ∀ k, oS f (k + 1) = max (oS f k) (f k)
  | 0 => by
    have := h 0
    show f 0 = max 0 (f 0)
    omega
  | k + 1 => rfl
theorem lS_next (f : Nat → Int) : ∀ k, lS f (k + 1) = if k = 0 ∨ f k < lS f k then f k else lS f k
  | 0 => by
    rw [if_pos (.inl rfl)]
    rfl
  | k + 1 => by
    show min (mnN f k) (f (k + 1)) = if k + 1 = 0 ∨ f (k + 1) < mnN f k then f (k + 1) else mnN f k
    split <;> omega
theorem oS_rng {f : Nat → Int} (h : ∀ j, 1 ≤ f j ∧ f j ≤ 21) : ∀ k, 0 ≤ oS f k ∧ oS f k ≤ 21
  | 0 => by
    show (0 : Int) ≤ 0 ∧ (0 : Int) ≤ 21
    omega
  | k + 1 => by
    have := mxN_rng h k
    show 0 ≤ mxN f k ∧ mxN f k ≤ 21
    omega
theorem lS_rng {f : Nat → Int} (h : ∀ j, 1 ≤ f j ∧ f j ≤ 3) : ∀ k, 0 ≤ lS f k ∧ lS f k ≤ 3
  | 0 => by
    show (0 : Int) ≤ 0 ∧ (0 : Int) ≤ 3
    omega
  | k + 1 => by
    have := mnN_rng h k
    show 0 ≤ mnN f k ∧ mnN f k ≤ 3
    omega
theorem latF_rng (F : Nat → Ins) (j : Nat) : 1 ≤ latF F j ∧ latF F j ≤ 3 := lat_rng (F j).op.toList
set_option maxRecDepth 100000 in
set_option maxHeartbeats 4000000 in
theorem ILeastTime_any (A : Option Addr) (n c : Nat) (F : Nat → Ins) (w : World) (hw : WT w) (hn : n ≤ 9223372036854775807) (hcap : n ≤ c) (h : Code w A n F) :
    Calls Tryd.prog 14 #[.slice A n c] w fun e w' => e = .returned (.int .i64 (ltB n F)) ∧ w.grownBy w' none := by
  rcases hv : blB n F with _ | _
  · rw [ltB_no hv]
    have HB := shade (IBlockOf_no A n c F w hw hv hn h)
    clear h hv
    go_enter Tryd.func14, Tryd.ntmps14
    go_wp2_with fail
    refine HB.out.mono ?_
    rintro e w1 ⟨rfl, hg⟩
    have HG := shade (grown_same hg (World.grownBy_alloc w1 (.cells #[.slice none 0 0, .slice none 0 0] 41) none))
    clear hg
    go_wp2_with fail
    go_ret
    exact ⟨rfl, HG.out⟩
  · have h6 := blB_6 hv
    have HB := shade (IBlockOf_any A n c F w hw hcap hv h)
    rcases n with _ | m
    · rw [ltB_zero hv]
      clear h hv
      go_enter Tryd.func14, Tryd.ntmps14
      go_wp2_with fail
      refine HB.out.mono ?_
      rintro e w1 ⟨tv, wv, AS, rfl, ht, hr, -, hg⟩
      have HG := shade (grown_same hg (World.grownBy_alloc w1 (.cells #[tv, wv] 41) none))
      obtain ⟨A1, c1, rfl, -⟩ := ownsRow_slice ht
      obtain ⟨A2, c2, rfl, -⟩ := hr.shape
      clear hg ht hr
      go_wp2_with fail
      go_ret
      exact ⟨rfl, HG.out⟩
    · rw [ltB_pos hv]
      have HH := shade (fun W (hg : w.grownBy W none) => IHeightsOf_any A (m + 1) c F W (hw.below (below_of_grown hg) (wt_lt hw)) hn hcap (h.on hg))
      rw [nB_yes hv] at HH
      have hrg := hgt_rng F (n := m + 1) (by omega)
      have HR1 := shade (mxN_rng hrg m)
      have HR2 := shade (mnN_rng (latF_rng F) m)
      clear h hv hrg
      go_enter Tryd.func14, Tryd.ntmps14
      go_wp2_with fail
      refine HB.out.mono ?_
      rintro e w1 ⟨tv, wv, AS, rfl, ht, hr, -, hg⟩
      have HTR := shade (show RowO w1 w.heap.size w1.heap.size 3 tv (m + 1) (numL (m + 1) (latF F)) from ⟨ht, fun b hb => (World.ownsRow.lt ht b hb).2⟩)
      obtain ⟨A1, c1, rfl, -⟩ := ownsRow_slice ht
      obtain ⟨A2, c2, rfl, -⟩ := hr.shape
      have HG := shade (grown_same hg (World.grownBy_alloc w1 (.cells #[.slice A1 (m + 1) c1, .slice A2 (m + 1) c2] 41) none))
      have HX := shade (Holds5.fresh w1 41 #[.slice A1 (m + 1) c1, .slice A2 (m + 1) c2])
      have HT1 := shade (HTR.out.grown (World.grownBy_alloc w1 (.cells #[.slice A1 (m + 1) c1, .slice A2 (m + 1) c2] 41) none))
      clear hg ht hr
      go_wp2_with fail
      obtain ⟨W1, hW1⟩ : ∃ W1, w1.alloc (.cells #[.slice A1 (m + 1) c1, .slice A2 (m + 1) c2] 41) = W1 := ⟨_, rfl⟩
      obtain ⟨Bb, hBb⟩ : ∃ Bb, w1.heap.size = Bb := ⟨_, rfl⟩
      rw [hW1] at HG HX HT1
      rw [hBb] at HX HT1
      simp only [hW1, hBb]
      clear hW1 hBb
      have HX3 := shade HX.out.drew
      have HG3 := shade (grown_same HG.out (grown_drew1 W1))
      have HT3 := shade (HT1.out.grown (grown_drew1 W1))
      have h1 := HR1.out; have h2 := HR2.out
      obtain ⟨top, htop⟩ : ∃ top, mxN (hgt F (m + 1)) m = top := ⟨_, rfl⟩
      obtain ⟨low, hlow⟩ : ∃ low, mnN (latF F) m = low := ⟨_, rfl⟩
      rw [htop] at h1
      rw [hlow] at h2
      have HTO := shade htop; have HLO := shade hlow
      clear htop hlow
      have hws : IntKind.i64.wrap ((m : Int) + low) = m + low := by rw [IntKind.wrap_i64]; omega
      go_region_held3 (fun w' => w'.cell? ⟨Bb, 0, none⟩ = some (.slice A1 (m + 1) c1) ∧ w'.cell? ⟨Bb, 1, none⟩ = some (.slice A2 (m + 1) c2))
        (exact ⟨HX3.out.look 0, HX3.out.look 1⟩)
        (first
          | (go_at_call 6; refine (HH.out _ HG3.out).mono ?_; rintro e w3 h3; obtain ⟨v3, rfl, hR3, hg3⟩ := NumRes.row h3; obtain ⟨A4, c4, rfl, -⟩ := hR3.nums; have HX3 := shade (HX3.out.grown hg3 (by intro e; cases e)); have HG3 := shade (grown_same HG3.out hg3); have HT3 := shade (HT3.out.grown hg3); have HR3 := shade hR3; clear h3 hR3 hg3)
          | (go_at_call 29; refine (maxNums_any _ _ _ m _ _ (by omega) HR3.out).mono ?_; rw [HTO.out]; rintro e w4 ⟨rfl, hg4⟩; have HX3 := shade (HX3.out.grown hg4 (by intro e; cases e)); have HG3 := shade (grown_same HG3.out hg4); have HT3 := shade (HT3.out.grown hg4); clear hg4)
          | (go_at_call 30; refine (minNums_any _ _ _ m _ _ (by omega) HT3.out).mono ?_; rw [HLO.out]; rintro e w5 ⟨rfl, hg5⟩; have HX3 := shade (HX3.out.grown hg5 (by intro e; cases e)); have HG3 := shade (grown_same HG3.out hg5); clear hg5))
      all_goals
        rename_i hHeld
        clear hHeld
        go_wp2_with fail
      all_goals
        rw [HTO.out, HLO.out]
        have hw2 : IntKind.i64.wrap (IntKind.i64.wrap (m : Int) + low) = m + low := by rw [show IntKind.i64.wrap (m : Int) = m by rw [IntKind.wrap_i64]; omega, hws]
        obtain ⟨z2, hz2⟩ : ∃ z2, IntKind.i64.wrap (IntKind.i64.wrap (m : Int) + low) = z2 := ⟨_, rfl⟩
        simp only [hz2] at *
        subst hw2
        (first | rw [show max top ((m : Int) + low) = top by omega] | rw [show max top ((m : Int) + low) = (m : Int) + low by omega])
        go_ret
        exact ⟨rfl, HG3.out⟩

end Go.Proofs.YtblnchcgeepemaaDoor

namespace Go.Proofs.YtblnchcgeepemaaDoor
open Go.RowKit
theorem bg_step (F : Nat → Ins) : ∀ k : Nat, (k : Int) ≤ bg F (fun i => i) k
  | 0 => by
    have := bg_pos F (fun i => i) 0
    omega
  | k + 1 => by
    have h1 := bg_step F k
    have h2 := bg_lt F (fun i => i) (show k < k + 1 by omega)
    omega
theorem wt_le (F : Nat → Ins) {i k : Nat} (h : i < k) : wtR F k i ≤ wI F k i := by
  unfold wI wtR
  rw [if_pos h]
  omega
theorem hgt_end (F : Nat → Ins) (n : Nat) : ∀ d i : Nat, n ≤ i + d → i < n → bg F (fun i => i) i + hgt F n i ≤ eF F (fun i => i) n
  | 0, i, h, hi => by omega
  | d + 1, i, h, hi => by
    have h1 : hgt F n i ≤ eF F (fun i => i) n - bg F (fun i => i) i := hgt_le.2 ⟨by
      have h2 : bg F (fun i => i) i + latF F i ≤ eF F (fun i => i) n := (mx_ge 0 (fun i => bg F (fun i => i) i + lat (F i).op.toList) n).2 i hi
      omega, fun k hk hik h0 => by
      have h3 := hgt_end F n d k (by omega) hk
      have h4 := bg_up F (fun i => i) hik
      have h5 := wt_le F hik
      omega⟩
    omega
theorem mxN_le {f : Nat → Int} {z : Int} : ∀ {k : Nat}, (∀ j, j ≤ k → f j ≤ z) → mxN f k ≤ z
  | 0, h => h 0 (Nat.le_refl _)
  | k + 1, h => by
    have h1 := mxN_le (k := k) (fun j hj => h j (by omega))
    have h2 := h (k + 1) (Nat.le_refl _)
    show max (mxN f k) (f (k + 1)) ≤ z
    omega
theorem mnN_le (f : Nat → Int) : ∀ k, mnN f k ≤ f k
  | 0 => Int.le_refl _
  | k + 1 => by
    show min (mnN f k) (f (k + 1)) ≤ f (k + 1)
    omega
theorem ltB_end {n : Nat} {F : Nat → Ins} (h : blB n F = true) : ltB n F ≤ eF F (fun i => i) n := by
  rcases n with _ | m
  · rw [ltB_zero h]
    exact dn_rng.1
  · rw [ltB_pos h]
    have h1 : mxN (hgt F (m + 1)) m ≤ eF F (fun i => i) (m + 1) := mxN_le (fun j hj => by
      have h2 := hgt_end F (m + 1) (m + 1) j (by omega) (by omega)
      have h3 := bg_pos F (fun i => i) j
      omega)
    have h4 := bg_step F m
    have h5 := mnN_le (latF F) m
    have h6 : bg F (fun i => i) m + latF F m ≤ eF F (fun i => i) (m + 1) := (mx_ge 0 (fun i => bg F (fun i => i) i + lat (F i).op.toList) (m + 1)).2 m (by omega)
    omega
end Go.Proofs.YtblnchcgeepemaaDoor

namespace Go.Proofs.YtblnchcgeepemaaDoor
open Go.RowKit
set_option linter.unusedSimpArgs false
theorem Rws.cell {wr : World} {lo hi g K c : Nat} {AS : Nat → Value} {len : Nat → Nat} {R : Nat → Nat → Int} (h : Rws wr lo hi (.slice (some ⟨g, 0, none⟩) K c) K AS len R) {j : Nat} (hj : j < K) : wr.cell? ⟨g, j, none⟩ = some (AS j) := by
  have := World.ownsRow.cellAt h.out.own j (by omega)
  rw [this]
  simp [hj]
theorem hgt_tick (F : Nat → Ins) (n i : Nat) : latF F i ≤ hgt F n i := (hgt_le.1 (Int.le_refl _)).1
theorem hgt_wait (F : Nat → Ins) {n i k : Nat} (hk : k < n) (hi : i < k) (h : 0 < wtR F k i) : wtR F k i + hgt F n k ≤ hgt F n i := (hgt_le.1 (Int.le_refl _)).2 k hk hi h
theorem wtR_rng (F : Nat → Ins) (k i : Nat) : 0 ≤ wtR F k i ∧ wtR F k i ≤ 3 := wtI_rng (F i) (F k)
theorem latF_rng26 (F : Nat → Ins) (j : Nat) : 1 ≤ latF F j ∧ latF F j ≤ 3 := lat_rng (F j).op.toList
theorem tk_lat {F : Nat → Ins} {j : Nat} (h : vI (F j) = true) : tkI (F j) = latF F j := by
  unfold tkI
  rw [h]
  rfl
set_option maxRecDepth 100000 in
set_option maxHeartbeats 8000000 in
theorem fnHeightsOf_walk (A : Option Addr) (n cap : Nat) (zs : List Int) (w : World) (hg : WT w) (hB : Bys w A n cap zs) :
    Calls Tryd.prog 3 #[.slice A n cap] w fun e w' => e = .returned (.bool true) ∧ Below w.heap.size w w' := by
  have HG := shade hg
  have HBy := shade hB
  have hcap := hB.fits
  have hbig := hB.big
  unfold maxLen at hbig
  clear hg hB
  by_cases hl : 1048576 < n
  · go_enter Tryd.func3, Tryd.ntmps3
    go_wp2
    go_ret
    exact ⟨rfl, by go_grown⟩
  · have HD := shade (DrawHeightsOf_any A n cap zs w HBy.out)
    go_enter Tryd.func3, Tryd.ntmps3
    go_wp2_with fail
    refine HD.out.mono ?_
    rintro e w1 ⟨g', k, c, F, rfl, hk, hkc, hC, hgr⟩
    have HG1 := shade hgr; have HC := shade hC
    clear hgr hC HD HBy
    have HW := shade (fun W (hg : w.grownBy W none) => HG.out.below (below_of_grown hg) (wt_lt HG.out))
    have HIM := shade (fun W (hg : w1.grownBy W none) (hw : w.grownBy W none) => IHeightsOf_any (some ⟨g', 0, none⟩) k c F W (HW.out W hw) (by omega) hkc (HC.out.on hg))
    have HSP := shade (fun W (hg : w1.grownBy W none) => SHeightsOf_any (some ⟨g', 0, none⟩) k c F W (by omega) (HC.out.on hg))
    have HWA := shade (fun W (hg : w1.grownBy W none) (hw : w.grownBy W none) => IWaitsOf_any (some ⟨g', 0, none⟩) k c F W (HW.out W hw) (by omega) hkc (HC.out.on hg))
    by_cases hK : nB k F = 0
    · rw [hK] at HIM HSP
      clear HWA hK
      go_wp2_with fail
      refine (HIM.out _ (grown_refl _ _) HG1.out).mono ?_
      rintro e w2 h2
      obtain ⟨v, rfl, hR, hg2⟩ := NumRes.row h2
      obtain ⟨A2, c2, rfl, -⟩ := hR.nums
      have HR2 := shade hR; have HG2 := shade hg2
      clear h2 hR hg2
      go_wp2_with fail
      refine (HSP.out _ HG2.out).mono ?_
      rintro e w3 h3
      obtain ⟨v, rfl, hR, hg3⟩ := NumRes.row h3
      obtain ⟨A3, c3, rfl, -⟩ := hR.nums
      have HR3 := shade hR; have HR2 := shade (HR2.out.grown hg3); have HG3 := shade (grown_same HG2.out hg3)
      clear h3 hR hg3
      go_wp2_with fail
      refine (equalInts_row _ _ _ _ 0 _ _ _ _ (by omega) HR2.out HR3.out).mono ?_
      rintro e w4 ⟨rfl, hg4⟩
      have HG4 := shade (grown_same HG3.out hg4); have HR2 := shade (HR2.out.grown hg4)
      clear hg4
      go_wp2_with fail
      refine (HSP.out _ HG4.out).mono ?_
      rintro e w5 h5
      obtain ⟨v, rfl, hR, hg5⟩ := NumRes.row h5
      obtain ⟨A5, c5, rfl, -⟩ := hR.nums
      have HR5 := shade hR; have HR2 := shade (HR2.out.grown hg5); have HG5 := shade (grown_same HG4.out hg5)
      clear h5 hR hg5
      go_wp2_with fail
      refine (equalInts_row _ _ _ _ 0 _ _ _ _ (by omega) HR2.out HR5.out).mono ?_
      rintro e w6 ⟨rfl, hg6⟩
      have HG6 := shade (grown_same HG5.out hg6)
      clear hg6
      go_wp2_with fail
      go_ret
      exact ⟨rfl, below_of_grown (grown_same HG1.out HG6.out)⟩
    · have hv : blB k F = true := by
        rcases hv : blB k F with _ | _
        · rw [nB_no hv] at hK
          exact absurd rfl hK
        · rfl
      rw [nB_yes hv] at HIM HSP HWA hK
      have HV := shade (fun j (hj : j < k) => blI_v (blB_at hv hj))
      have hkp : 0 < k := by omega
      have e0 : ((k : Int) == 0) = false := beq_eq_false_iff_ne.2 (by omega)
      clear hv
      go_wp2_with fail
      refine (HIM.out _ (grown_refl _ _) HG1.out).mono ?_
      rintro e w2 h2
      obtain ⟨v, rfl, hR, hg2⟩ := NumRes.row h2
      obtain ⟨A2, c2, rfl, -⟩ := hR.nums
      have HR2 := shade hR; have HG2 := shade hg2
      clear h2 hR hg2
      go_wp2_with fail
      refine (HSP.out _ HG2.out).mono ?_
      rintro e w3 h3
      obtain ⟨v, rfl, hR, hg3⟩ := NumRes.row h3
      obtain ⟨A3, c3, rfl, -⟩ := hR.nums
      have HR3 := shade hR; have HR2 := shade (HR2.out.grown hg3); have HG3 := shade (grown_same HG2.out hg3)
      clear h3 hR hg3
      go_wp2_with fail
      refine (equalInts_row _ _ _ _ k _ _ _ _ (by omega) HR2.out HR3.out).mono ?_
      rintro e w4 ⟨rfl, hg4⟩
      have HG4 := shade (grown_same HG3.out hg4); have HR2 := shade (HR2.out.grown hg4)
      clear hg4
      go_wp2_with fail
      refine (HWA.out _ HG4.out (grown_same HG1.out HG4.out)).mono ?_
      rintro e w5 h5
      obtain ⟨v, AS, rfl, hR, hg5⟩ := RwsRes.row h5
      obtain ⟨A5, c5, rfl, hs⟩ := hR.shape
      obtain ⟨g5, rfl, -⟩ := hs.resolve_left (by omega)
      have HG5 := shade (grown_same HG4.out hg5)
      obtain ⟨A2', c2', e2, hN⟩ := (HR2.out.grown hg5).nums
      injection e2 with ea eb ec
      subst ea ec
      obtain ⟨b2, o2, rfl, -⟩ := hN.resolve_left (by omega)
      have HN := shade hN; have HRS := shade hR
      clear h5 hR hg5 hN HR2 HR3 HIM HSP HWA HG2 HG3 HG4
      go_wp2_with fail
      go_loopw [6] (fun u wr => ∃ q : Nat, q ≤ k ∧ u = .int .i64 (q : Int) ∧ w5.grownBy wr none) (fun u _ => k - (intOf u).toNat)
      case atStart => exact ⟨0, Nat.zero_le _, rfl, grown_refl _ _⟩
      case round =>
        obtain ⟨q, hq, rfl, hgw⟩ := hrel
        have HGW := shade hgw
        clear hgw
        by_cases hqk : q < k
        · go_wp2_with fail
          go_loopw [7] (fun u wq => ∃ i m : Nat, i ≤ q ∧ u = .int .i64 (i : Int) ∧ wq = wr.drewN m) (fun u _ => q - (intOf u).toNat)
          case atStart => exact ⟨0, 0, Nat.zero_le _, rfl, rfl⟩
          case round =>
            obtain ⟨i, m, hi, rfl, rfl⟩ := hrel
            have HGM := shade (grown_same HGW.out (grown_drewN (grown_refl wr none) m))
            by_cases hiq : i < q
            · have hrr := HRS.out.grown HGW.out
              have c0 := hrr.cell hqk
              obtain ⟨B1, d1, f1, nb⟩ := hrr.nums hqk
              obtain ⟨bb, bo, rfl, -⟩ := nb.resolve_left (show ¬ lnW q = 0 by unfold lnW; omega)
              have c1 := nb.cell (show i < lnW q from hiq)
              have hNW := HN.out.grown HGW.out (by intro _ _ _ e; cases e)
              have x1 := hNW.cell (show i < k by omega)
              have x2 := hNW.cell hqk
              rw [f1] at c0
              have hr1 := wtR_rng F q i
              have hr2 := hgt_rng F hk i
              have hr3 := hgt_rng F hk q
              have hw1 := hgt_wait F (n := k) hqk hiq
              obtain ⟨x, hx⟩ : ∃ x, wtR F q i = x := ⟨_, rfl⟩
              obtain ⟨y, hy⟩ : ∃ y, hgt F k i = y := ⟨_, rfl⟩
              obtain ⟨z, hz⟩ : ∃ z, hgt F k q = z := ⟨_, rfl⟩
              rw [hx] at c1 hr1
              rw [hx, hy, hz] at hw1
              rw [hy] at x1 hr2
              rw [hz] at x2 hr3
              have hwz : IntKind.i64.wrap (x + z) = x + z := by rw [IntKind.wrap_i64]; omega
              have i0 : (i : Int) < (q : Int) := by omega
              have i1 : (0 : Int) ≤ (i : Int) := by omega
              have i2 : (i : Int) < (lnW q : Int) := by unfold lnW; omega
              have i3 : (i : Int) < (k : Int) := by omega
              have i4 : (0 : Int) ≤ (q : Int) := by omega
              have i5 : (q : Int) < (k : Int) := by omega
              clear hrr nb f1 hNW hx hy hz
              by_cases hx0 : 0 < x
              · have hw2 : ¬ y < x + z := by have := hw1 hx0; omega
                have hw3 : ¬ y < IntKind.i64.wrap (x + z) := by rw [hwz]; exact hw2
                go_wp2_with fail
                go_quiet (fail)
                go_wp2_with fail
                go_roundw
                case rel => exact ⟨i + 1, _, by omega, by go_num, rfl⟩
                case measure => simp [intOf]; omega
              · obtain rfl : x = 0 := by omega
                go_wp2_with fail
                go_quiet (fail)
                go_wp2_with fail
                go_roundw
                case rel => exact ⟨i + 1, _, by omega, by go_num, rfl⟩
                case measure => simp [intOf]; omega
            · obtain rfl : i = q := by omega
              have HTK := shade (fun W (hg : w.grownBy W none) => ITicksOf_any (F i).op (F i).d (F i).a (F i).b (F i).k W (HW.out W hg))
              have hr3 := hgt_rng F hk i
              have hlt := hgt_tick F k i
              have hlr := latF_rng26 F i
              have htl : tkI ⟨(F i).op, (F i).d, (F i).a, (F i).b, (F i).k⟩ = latF F i := tk_lat (HV.out i hqk)
              rw [htl] at HTK
              have HSS := shade (show ∀ W : World, w5.grownBy W none → W.cell? ⟨b2, o2 + i, none⟩ = some (.int .i64 (hgt F k i)) ∧ W.cell? ⟨g', i * 5, none⟩ = some (.string (F i).op) ∧ W.cell? ⟨g', i * 5 + 1, none⟩ = some (.int .i64 (F i).d) ∧ W.cell? ⟨g', i * 5 + 2, none⟩ = some (.int .i64 (F i).a) ∧ W.cell? ⟨g', i * 5 + 3, none⟩ = some (.int .i64 (F i).b) ∧ W.cell? ⟨g', i * 5 + 4, none⟩ = some (.int .i64 (F i).k) from fun W hg => by
                obtain ⟨q0, q1, q2, q3, q4⟩ := (HC.out.on (grown_same HG5.out hg)).five hqk
                simp only [Nat.zero_add] at q0 q1 q2 q3 q4
                exact ⟨(HN.out.grown hg (by intro _ _ _ e; cases e)).cell hqk, q0, q1, q2, q3, q4⟩)
              obtain ⟨z, hz⟩ : ∃ z, hgt F k i = z := ⟨_, rfl⟩
              obtain ⟨y, hy⟩ : ∃ y, latF F i = y := ⟨_, rfl⟩
              rw [hy] at HTK hlt hlr
              rw [hz] at HSS hr3 hlt
              have hzy : ¬ z < y := by omega
              have i4 : (0 : Int) ≤ (i : Int) := by omega
              have i5 : (i : Int) < (k : Int) := by omega
              have HGX := shade (grown_same HGM.out (grown_drew1 _))
              clear hz hy htl
              go_wp2_with fail
              go_region_held3 (fun w' => w'.cell? ⟨b2, o2 + i, none⟩ = some (.int .i64 z) ∧ w'.cell? ⟨g', i * 5, none⟩ = some (.string (F i).op) ∧ w'.cell? ⟨g', i * 5 + 1, none⟩ = some (.int .i64 (F i).d) ∧ w'.cell? ⟨g', i * 5 + 2, none⟩ = some (.int .i64 (F i).a) ∧ w'.cell? ⟨g', i * 5 + 3, none⟩ = some (.int .i64 (F i).b) ∧ w'.cell? ⟨g', i * 5 + 4, none⟩ = some (.int .i64 (F i).k))
                (exact HSS.out _ HGX.out)
                ((go_at_call 10; refine (HTK.out _ (grown_same HG1.out (grown_same HG5.out HGX.out))).mono ?_; rintro e w7 ⟨rfl, hg7⟩; have HGX := shade (grown_same HGX.out hg7); clear hg7))
              rename_i hHeld
              clear hHeld
              go_wp2_with fail
              go_roundw
              case rel => exact ⟨i + 1, by omega, by go_num, HGX.out⟩
              case measure => simp [intOf]; omega
        · obtain rfl : q = k := by omega
          go_wp2_with fail
          go_ret
          exact ⟨rfl, below_of_grown (grown_same HG1.out (grown_same HG5.out HGW.out))⟩
end Go.Proofs.YtblnchcgeepemaaDoor

namespace Go.Proofs.YtblnchcgeepemaaDoor
open Go.RowKit
set_option linter.unusedSimpArgs false
set_option maxRecDepth 100000 in
set_option maxHeartbeats 8000000 in
theorem fnBlockTime_walk (A : Option Addr) (n cap : Nat) (zs : List Int) (w : World) (hg : WT w) (hB : Bys w A n cap zs) :
    Calls Tryd.prog 4 #[.slice A n cap] w fun e w' => e = .returned (.bool true) ∧ Below w.heap.size w w' := by
  have HG := shade hg
  have HBy := shade hB
  have hcap := hB.fits
  have hbig := hB.big
  unfold maxLen at hbig
  clear hg hB
  by_cases hl : 1048576 < n
  · go_enter Tryd.func4, Tryd.ntmps4
    go_wp2
    go_ret
    exact ⟨rfl, by go_grown⟩
  · have HD := shade (DrawBlockTime_any A n cap zs w HBy.out)
    go_enter Tryd.func4, Tryd.ntmps4
    go_wp2_with fail
    refine HD.out.mono ?_
    rintro e w1 ⟨g', k, c, F, rfl, hk, hkc, hC, hgr⟩
    have HG1 := shade hgr; have HC := shade hC
    clear hgr hC HD HBy
    have HW := shade (fun W (hg : w.grownBy W none) => HG.out.below (below_of_grown hg) (wt_lt HG.out))
    have HIM := shade (fun W (hg : w1.grownBy W none) (hw : w.grownBy W none) => IBlockTime_any (some ⟨g', 0, none⟩) k c F W (HW.out W hw) (by omega) hkc (HC.out.on hg))
    have HSP := shade (fun W (hg : w1.grownBy W none) => SBlockTime_any (some ⟨g', 0, none⟩) k c F W (by omega) (HC.out.on hg))
    rcases hv : blB k F with _ | _
    · rw [nB_no hv, btB_no hv] at HIM HSP
      clear hv
      go_wp2_with fail
      refine (HIM.out _ (grown_refl _ _) HG1.out).mono ?_
      rintro e w2 h2
      obtain ⟨v, rfl, hR, hg2⟩ := NumRes2.row h2
      obtain ⟨A2, c2, rfl, -⟩ := hR.nums
      have HR2 := shade hR; have HG2 := shade hg2
      clear h2 hR hg2
      go_wp2_with fail
      refine (HSP.out _ HG2.out).mono ?_
      rintro e w3 h3
      obtain ⟨v, rfl, hR, hg3⟩ := NumRes2.row h3
      obtain ⟨A3, c3, rfl, -⟩ := hR.nums
      have HR3 := shade hR; have HR2 := shade (HR2.out.grown hg3); have HG3 := shade (grown_same HG2.out hg3)
      clear h3 hR hg3
      go_wp2_with fail
      refine (equalInts_row _ _ _ _ 0 _ _ _ _ (by omega) HR2.out HR3.out).mono ?_
      rintro e w4 ⟨rfl, hg4⟩
      have HG4 := shade (grown_same HG3.out hg4); have HR2 := shade (HR2.out.grown hg4); have HR3 := shade (HR3.out.grown hg4)
      clear hg4
      go_wp2_with fail
      refine (equalInts_row _ _ _ _ 0 _ _ _ _ (by omega) HR2.out HR3.out).mono ?_
      rintro e w6 ⟨rfl, hg6⟩
      have HG6 := shade (grown_same HG4.out hg6)
      clear hg6
      go_wp2_with fail
      go_ret
      exact ⟨rfl, below_of_grown (grown_same HG1.out HG6.out)⟩
    · have HWA := shade (fun W (hg : w1.grownBy W none) (hw : w.grownBy W none) => IWaitsOf_any (some ⟨g', 0, none⟩) k c F W (HW.out W hw) (by omega) hkc (HC.out.on hg))
      have HLT := shade (fun W (hg : w1.grownBy W none) (hw : w.grownBy W none) => ILeastTime_any (some ⟨g', 0, none⟩) k c F W (HW.out W hw) (by omega) hkc (HC.out.on hg))
      rw [nB_yes hv, btB_yes hv] at HIM HSP
      rw [nB_yes hv] at HWA
      have HV := shade (fun j (hj : j < k) => blI_v (blB_at hv hj))
      have hle := ltB_end hv
      have hen := dn_rng (F := F) (o := fun i => i) (m := k)
      obtain ⟨lt, hlt⟩ : ∃ lt, ltB k F = lt := ⟨_, rfl⟩
      rw [hlt] at HLT hle
      obtain ⟨en, hen2⟩ : ∃ en, eF F (fun i => i) k = en := ⟨_, rfl⟩
      rw [hen2] at hle hen HIM HSP
      have HEN := shade (show mx 0 (fun i => bg F (fun i => i) i + latF F i) k = en from hen2)
      have e0 : ¬ en < 0 := by omega
      clear hv hlt hen2
      go_wp2_with fail
      refine (HIM.out _ (grown_refl _ _) HG1.out).mono ?_
      rintro e w2 h2
      obtain ⟨v, rfl, hR, hg2⟩ := NumRes2.row h2
      obtain ⟨A2, c2, rfl, -⟩ := hR.nums
      have HR2 := shade hR; have HG2 := shade hg2
      clear h2 hR hg2
      go_wp2_with fail
      refine (HSP.out _ HG2.out).mono ?_
      rintro e w3 h3
      obtain ⟨v, rfl, hR, hg3⟩ := NumRes2.row h3
      obtain ⟨A3, c3, rfl, -⟩ := hR.nums
      have HR3 := shade hR; have HR2 := shade (HR2.out.grown hg3); have HG3 := shade (grown_same HG2.out hg3)
      clear h3 hR hg3
      go_wp2_with fail
      refine (equalInts_row _ _ _ _ k _ _ _ _ (by omega) HR2.out HR3.out).mono ?_
      rintro e w4 ⟨rfl, hg4⟩
      have HG4 := shade (grown_same HG3.out hg4); have HR2 := shade (HR2.out.grown hg4); have HR3 := shade (HR3.out.grown hg4)
      clear hg4
      go_wp2_with fail
      refine (HWA.out _ HG4.out (grown_same HG1.out HG4.out)).mono ?_
      rintro e w5 h5
      obtain ⟨v, AS, rfl, hR, hg5⟩ := RwsRes.row h5
      obtain ⟨A5, c5, rfl, hs⟩ := hR.shape
      have HG5 := shade (grown_same HG4.out hg5)
      obtain ⟨A2', c2', e2, hN⟩ := (HR2.out.grown hg5).nums
      injection e2 with ea eb ec
      subst ea ec
      have HN := shade hN; have HRS := shade hR; have HSH := shade hs
      clear h5 hR hg5 hN hs HR2 HR3 HIM HSP HWA HG2 HG3 HG4
      go_wp2_with fail
      go_loopw [9, 10] (fun t u wr => ∃ q : Nat, q ≤ k ∧ t = .int .i64 (mx 0 (fun i => bg F (fun i => i) i + latF F i) q) ∧ u = .int .i64 (q : Int) ∧ w5.grownBy wr none) (fun _ u _ => k - (intOf u).toNat)
      case atStart => exact ⟨0, Nat.zero_le _, rfl, rfl, grown_refl _ _⟩
      case round =>
        obtain ⟨q, hq, rfl, rfl, hgw⟩ := hrel
        have HGW := shade hgw
        clear hgw
        have HX := shade (show mx 0 (fun i => bg F (fun i => i) i + latF F i) (q + 1) = max (mx 0 (fun i => bg F (fun i => i) i + latF F i) q) (bg F (fun i => i) q + latF F q) from rfl)
        obtain ⟨T, hT⟩ : ∃ T, mx 0 (fun i => bg F (fun i => i) i + latF F i) q = T := ⟨_, rfl⟩
        have HT := shade hT
        rw [hT] at HX ⊢
        clear hT
        by_cases hqk : q < k
        · obtain ⟨g5, rfl, -⟩ := HSH.out.resolve_left (by omega)
          obtain ⟨b2, o2, rfl, -⟩ := HN.out.resolve_left (by omega)
          go_wp2_with fail
          go_loopw [11] (fun u wq => ∃ i m : Nat, i ≤ q ∧ u = .int .i64 (i : Int) ∧ wq = wr.drewN m) (fun u _ => q - (intOf u).toNat)
          case atStart => exact ⟨0, 0, Nat.zero_le _, rfl, rfl⟩
          case round =>
            obtain ⟨i, m, hi, rfl, rfl⟩ := hrel
            have HGM := shade (grown_same HGW.out (grown_drewN (grown_refl wr none) m))
            by_cases hiq : i < q
            · have hrr := HRS.out.grown HGW.out
              have c0 := hrr.cell hqk
              obtain ⟨B1, d1, f1, nb⟩ := hrr.nums hqk
              obtain ⟨bb, bo, rfl, -⟩ := nb.resolve_left (show ¬ lnW q = 0 by unfold lnW; omega)
              have c1 := nb.cell (show i < lnW q from hiq)
              have hNW := HN.out.grown HGW.out (by intro _ _ _ e; cases e)
              have x1 := hNW.cell (show i < k by omega)
              have x2 := hNW.cell hqk
              rw [f1] at c0
              have hr1 := wtR_rng F q i
              have hr2 := bg_pos F (fun i => i) i
              have hr3 := bg_le F (fun i => i) q
              have hw1 := bg_lt F (fun i => i) hiq
              have hw4 := bg_up F (fun i => i) hiq
              have hw5 := wt_le F hiq
              obtain ⟨x, hx⟩ : ∃ x, wtR F q i = x := ⟨_, rfl⟩
              obtain ⟨y, hy⟩ : ∃ y, bg F (fun i => i) i = y := ⟨_, rfl⟩
              obtain ⟨z, hz⟩ : ∃ z, bg F (fun i => i) q = z := ⟨_, rfl⟩
              rw [hx] at c1 hr1 hw5
              rw [hy, hz] at hw1 hw4
              rw [hy] at x1 hr2
              rw [hz] at x2 hr3
              have hwz : IntKind.i64.wrap (y + x) = y + x := by rw [IntKind.wrap_i64]; omega
              have i0 : (i : Int) < (q : Int) := by omega
              have i1 : (0 : Int) ≤ (i : Int) := by omega
              have i2 : (i : Int) < (lnW q : Int) := by unfold lnW; omega
              have i3 : (i : Int) < (k : Int) := by omega
              have i4 : (0 : Int) ≤ (q : Int) := by omega
              have i5 : (q : Int) < (k : Int) := by omega
              have hw2 : ¬ z ≤ y := by omega
              have hw3 : ¬ z < IntKind.i64.wrap (y + x) := by rw [hwz]; omega
              clear hrr nb f1 hNW hx hy hz hw1 hw4 hw5
              go_wp2_with fail
              go_quiet (fail)
              go_wp2_with fail
              go_roundw
              case rel => exact ⟨i + 1, _, by omega, by go_num, rfl⟩
              case measure => simp [intOf]; omega
            · obtain rfl : i = q := by omega
              have HTK := shade (fun W (hg : w.grownBy W none) => ITicksOf_any (F i).op (F i).d (F i).a (F i).b (F i).k W (HW.out W hg))
              have hr2 := bg_pos F (fun i => i) i
              have hr3 := bg_le F (fun i => i) i
              have hlr := latF_rng26 F i
              have htl : tkI ⟨(F i).op, (F i).d, (F i).a, (F i).b, (F i).k⟩ = latF F i := tk_lat (HV.out i hqk)
              rw [htl] at HTK
              have HSS := shade (show ∀ W : World, w5.grownBy W none → W.cell? ⟨b2, o2 + i, none⟩ = some (.int .i64 (bg F (fun i => i) i)) ∧ W.cell? ⟨g', i * 5, none⟩ = some (.string (F i).op) ∧ W.cell? ⟨g', i * 5 + 1, none⟩ = some (.int .i64 (F i).d) ∧ W.cell? ⟨g', i * 5 + 2, none⟩ = some (.int .i64 (F i).a) ∧ W.cell? ⟨g', i * 5 + 3, none⟩ = some (.int .i64 (F i).b) ∧ W.cell? ⟨g', i * 5 + 4, none⟩ = some (.int .i64 (F i).k) from fun W hg => by
                obtain ⟨q0, q1, q2, q3, q4⟩ := (HC.out.on (grown_same HG5.out hg)).five hqk
                simp only [Nat.zero_add] at q0 q1 q2 q3 q4
                exact ⟨(HN.out.grown hg (by intro _ _ _ e; cases e)).cell hqk, q0, q1, q2, q3, q4⟩)
              obtain ⟨z, hz⟩ : ∃ z, bg F (fun i => i) i = z := ⟨_, rfl⟩
              obtain ⟨y, hy⟩ : ∃ y, latF F i = y := ⟨_, rfl⟩
              rw [hy] at HTK hlr
              rw [hz] at HSS hr3 hr2
              rw [hz, hy] at HX
              have hwz : IntKind.i64.wrap (z + y) = z + y := by rw [IntKind.wrap_i64]; omega
              have i4 : (0 : Int) ≤ (i : Int) := by omega
              have i5 : (i : Int) < (k : Int) := by omega
              have HGX := shade (grown_same HGM.out (grown_drew1 _))
              clear hz hy htl
              go_wp2_with fail
              go_region_held3 (fun w' => w'.cell? ⟨b2, o2 + i, none⟩ = some (.int .i64 z) ∧ w'.cell? ⟨g', i * 5, none⟩ = some (.string (F i).op) ∧ w'.cell? ⟨g', i * 5 + 1, none⟩ = some (.int .i64 (F i).d) ∧ w'.cell? ⟨g', i * 5 + 2, none⟩ = some (.int .i64 (F i).a) ∧ w'.cell? ⟨g', i * 5 + 3, none⟩ = some (.int .i64 (F i).b) ∧ w'.cell? ⟨g', i * 5 + 4, none⟩ = some (.int .i64 (F i).k))
                (exact HSS.out _ HGX.out)
                ((go_at_call 10; refine (HTK.out _ (grown_same HG1.out (grown_same HG5.out HGX.out))).mono ?_; rintro e w7 ⟨rfl, hg7⟩; have HGX := shade (grown_same HGX.out hg7); clear hg7))
              all_goals
                rename_i hHeld
                clear hHeld
                go_wp2_with fail
              all_goals
                obtain ⟨z2, hz2⟩ : ∃ z2, IntKind.i64.wrap (z + y) = z2 := ⟨_, rfl⟩
                simp only [hz2] at *
                subst hwz
                go_roundw
                case rel => exact ⟨i + 1, by omega, by rw [HX.out]; first | done | (congr 1 <;> (first | omega | (split <;> omega))), by go_num, HGX.out⟩
                case measure => simp [intOf]; omega
        · obtain rfl : q = k := by omega
          have hTE : T = en := HT.out.symm.trans HEN.out
          subst hTE
          go_wp2_with fail
          refine (HLT.out _ (grown_same HG5.out HGW.out) (grown_same HG1.out (grown_same HG5.out HGW.out))).mono ?_
          rintro e w9 ⟨rfl, hg9⟩
          have HG9 := shade (grown_same HG1.out (grown_same (grown_same HG5.out HGW.out) hg9))
          clear hg9
          go_wp2_with fail
          go_ret
          exact ⟨rfl, below_of_grown HG9.out⟩
end Go.Proofs.YtblnchcgeepemaaDoor
