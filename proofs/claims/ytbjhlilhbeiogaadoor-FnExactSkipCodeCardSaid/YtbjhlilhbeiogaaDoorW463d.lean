/- The sets of registers that are needed, by the program. -/
import Derived.Test.YtbjhlilhbeiogaaDoorG461
namespace Go.Proofs.YtbjhlilhbeiogaaDoor
open Go.RowKit
set_option linter.unusedSimpArgs false
theorem info3n : (Tryd.prog.info? 3).map (fun i => (i.zero, i.size, i.bytes)) = some (some (.int .i64 0), 1, 8) := by kernel_rfl
theorem made_nums (n : Nat) : (madeCells #[Value.int .i64 0] n).toList = numL n (fun _ => 0) := by
  rw [toList_madeCells_one]
  unfold numL
  rw [List.map_const', List.length_range]
/-- The numbers so far. -/
structure Sts (w wr : World) (n : Nat) (f : Nat → Int) : Prop where
  own : Own wr w.heap.size (some ⟨w.heap.size, 0, none⟩) (n + 1) (n + 1) f
  low : w.grownBy wr none
theorem Sts.on {w wr w2 : World} {n : Nat} {f : Nat → Int} (h : Sts w wr n f) (hg : wr.grownBy w2 none) : Sts w w2 n f := ⟨World.ownsRow.kept h.own hg (.inr (by
  show some w.heap.size ≠ none
  simp)), grown_same h.low hg⟩
theorem Sts.congr {w wr : World} {n : Nat} {f g : Nat → Int} (h : Sts w wr n f) (hf : ∀ j, f j = g j) : Sts w wr n g := ⟨by
  have h1 := h.own
  show World.ownsRow _ _ _ _ _ _ _
  rw [numL_congr (n + 1) g f (fun j _ => (hf j).symm)]
  exact h1, h.low⟩
theorem Sts.set {w wr : World} {n : Nat} {f : Nat → Int} (h : Sts w wr n f) (k : Nat) (x : Int) : Sts w (wr.setCell ⟨w.heap.size, k, none⟩ (.int .i64 x)) n (fun j => if j = k then x else f j) := ⟨by
  have h1 := (World.ownsRow.stored h.own k (.int .i64 x)).1
  rw [numL_set (n + 1) _ (fun j => if j = k then x else f j) k x (by simp) (fun j _ hne => by
    show _ = (if j = k then _ else _)
    rw [if_neg hne])] at h1
  exact h1, grown_then h.low (grown_set w.heap.size k _) (Nat.le_refl _)⟩
theorem Sts.cell {w wr : World} {n : Nat} {f : Nat → Int} (h : Sts w wr n f) (k : Nat) (hk : k ≤ n) : wr.cell? ⟨w.heap.size, k, none⟩ = some (.int .i64 (f k)) := by
  rcases h.own.nums with h0 | ⟨b, off, e, _, hc⟩
  · omega
  · injection e with e
    injection e with e1 e2
    subst e1
    subst e2
    have := hc k (by omega)
    rwa [Nat.zero_add] at this
theorem Sts.free {w wr : World} {n : Nat} {f : Nat → Int} (h : Sts w wr n f) (k : Nat) : wr.frozen? ⟨w.heap.size, k, none⟩ = false := World.ownsRow.frozenAt h.own k
theorem Sts.lt {w wr : World} {n : Nat} {f : Nat → Int} (h : Sts w wr n f) : w.heap.size < wr.heap.size := (World.ownsRow.lt h.own w.heap.size rfl).2
/-- The sets of those that are needed. -/
theorem need_sets (F : Nat → Ins) (n : Nat) : ∃ g : Nat → Int, ∀ x, S4 (g x) ∧ ∀ r, r < 4 → (bt (g x) r = true ↔ Need F n r x) := by
  have h4 : ∀ p0 p1 p2 p3 : Bool, ∃ i : Fin 16, bt i.val 0 = p0 ∧ bt i.val 1 = p1 ∧ bt i.val 2 = p2 ∧ bt i.val 3 = p3 := by decide +kernel
  have hd : ∀ q : Prop, ∃ b : Bool, b = true ↔ q := fun q => ⟨@decide _ (Classical.propDecidable q), @decide_eq_true_iff _ (Classical.propDecidable _)⟩
  have hx : ∀ x, ∃ y : Int, S4 y ∧ ∀ r, r < 4 → (bt y r = true ↔ Need F n r x) := fun x => by
    obtain ⟨p0, h0⟩ := hd (Need F n 0 x)
    obtain ⟨p1, h1⟩ := hd (Need F n 1 x)
    obtain ⟨p2, h2⟩ := hd (Need F n 2 x)
    obtain ⟨p3, h3⟩ := hd (Need F n 3 x)
    obtain ⟨i, e0, e1, e2, e3⟩ := h4 p0 p1 p2 p3
    refine ⟨(i.val : Int), ⟨by omega, by omega⟩, fun r hr => ?_⟩
    rcases (show r = 0 ∨ r = 1 ∨ r = 2 ∨ r = 3 by omega) with rfl | rfl | rfl | rfl
    · rw [e0]; exact h0
    · rw [e1]; exact h1
    · rw [e2]; exact h2
    · rw [e3]; exact h3
  exact ⟨fun x => Classical.choose (hx x), fun x => Classical.choose_spec (hx x)⟩
/-- Of index i the registers below r are laid. -/
structure Lvr (F : Nat → Ins) (n : Nat) (g : Nat → Int) (w wr : World) (i r : Nat) (f : Nat → Int) : Prop where
  sts : Sts w wr n f
  bef : ∀ j, j < i → f j = g j
  aft : ∀ j, i < j → f j = 0
  four : S4 (f i)
  bit : ∀ q, q < 4 → bt (f i) q = (decide (q < r) && bt (g i) q)
section
variable {F : Nat → Ins} {n i r : Nat} {g f : Nat → Int} {w wr wr' : World}
theorem Lvr.on (h : Lvr F n g w wr i r f) (hg : wr.grownBy wr' none) : Lvr F n g w wr' i r f := ⟨h.sts.on hg, h.bef, h.aft, h.four, h.bit⟩
theorem Lvr.miss (h : Lvr F n g w wr i r f) (hb : bt (g i) r = false) : Lvr F n g w wr i (r + 1) f := ⟨h.sts, h.bef, h.aft, h.four, fun q hq => by
  rw [h.bit q hq]
  by_cases e : q = r
  · rw [e, hb]
    simp
  · rw [show decide (q < r + 1) = decide (q < r) from decide_eq_decide.2 (by omega)]⟩
theorem Lvr.hit (h : Lvr F n g w wr i r f) (hr : r < 4) (hb : bt (g i) r = true) : Lvr F n g w (wr.setCell ⟨w.heap.size, i, none⟩ (.int .i64 (bits .or .i64 (f i) (sh (r : Int))))) i (r + 1) (fun j => if j = i then bits .or .i64 (f i) (sh (r : Int)) else f j) := by
  have h1 := h.four.or (S4.one hr).1
  refine ⟨h.sts.set i _, fun j hj => ?_, fun j hj => ?_, ?_, fun q hq => ?_⟩
  · show (if j = i then _ else f j) = _
    rw [if_neg (by omega)]
    exact h.bef j hj
  · show (if j = i then _ else f j) = _
    rw [if_neg (by omega)]
    exact h.aft j hj
  · show S4 (if i = i then _ else _)
    rw [if_pos rfl, sh_two r hr]
    exact h1.1
  · show bt (if i = i then _ else _) q = _
    rw [if_pos rfl, sh_two r hr, h1.2 q hq, h.bit q hq, (S4.one hr).2 q hq]
    by_cases e : q = r
    · rw [e, hb]
      simp
    · rw [show decide (q < r + 1) = decide (q < r) from decide_eq_decide.2 (by omega), beq_eq_false_iff_ne.2 (fun e' => e e'.symm), Bool.or_false]
theorem Lvr.next (h : Lvr F n g w wr i 4 f) (hg : ∀ x, S4 (g x)) : Lvr F n g w wr (i + 1) 0 f := by
  have e : f i = g i := S4.ext h.four (hg i) (fun q hq => by rw [h.bit q hq, decide_eq_true hq, Bool.true_and])
  have e0 := h.aft (i + 1) (Nat.lt_succ_self i)
  refine ⟨h.sts, fun j hj => ?_, fun j hj => h.aft j (by omega), by rw [e0]; exact S4.zero, fun q hq => by rw [e0, bt_zero]; simp⟩
  by_cases e' : j = i
  · rw [e']
    exact e
  · exact h.bef j (by omega)
end
set_option maxRecDepth 100000 in
set_option maxHeartbeats 16000000 in
theorem live_any (A : Option Addr) (n c : Nat) (F : Nat → Ins) (g : Nat → Int) (w : World) (hv : vcB n F = true) (hwt : WT w) (h : Code w A n F) (hgx : ∀ x, S4 (g x) ∧ ∀ r, r < 4 → (bt (g x) r = true ↔ Need F n r x)) :
    Calls Tryd.prog 60 #[.slice A n c] w (NumRes (n + 1) g w) := by
  have hn := vcB_40 hv
  have HV := shade hv
  have H := shade h
  have HWT := shade hwt
  have HGX := shade hgx
  clear h hv hwt hgx
  obtain ⟨i0, hi, hz0, hz1, hz2⟩ := info_parts info3n
  go_enter Tryd.func60, Tryd.ntmps60
  go_wp2_with (first
    | (at_make; refine wpList_make_full _ rfl _ _ 48 rfl w.heap.size 3 i0 (.int .i64 0) 1 Tryd.underlying48 hi hz0 hz1 .i64 .i64 (n + 1) (n + 1) (n + 1) rfl rfl rfl rfl (by rw [hz2]; omega) (by unfold maxLen; omega) (Nat.le_refl _) ?_)
    | go_in)
  intro w1 hown1 hgr1
  simp only [made_nums] at hown1
  have L0 := shade (show Lvr F n g w w1 0 0 (fun _ => 0) from ⟨⟨hown1, hgr1⟩, fun j hj => absurd hj (Nat.not_lt_zero j), fun _ _ => rfl, S4.zero, fun q _ => by rw [bt_zero]; simp⟩)
  clear hown1 hgr1 hi hz0 hz1 hz2
  go_wp2_with fail
  go_loopw [12] (fun q wr => ∃ (i : Nat) (f : Nat → Int), i ≤ n + 1 ∧ q = .int .i64 (i : Int) ∧ Lvr F n g w wr i 0 f) (fun q _ => n + 1 - (intOf q).toNat)
  case atStart => exact ⟨0, _, by omega, rfl, L0.out⟩
  case round =>
    clear L0
    obtain ⟨i, f, hi, rfl, hp⟩ := hrel
    have HP := shade hp
    clear hp
    by_cases hin : i < n + 1
    · have hii : (i : Int) < (n : Int) + 1 := by omega
      obtain ⟨wo, rfl⟩ : ∃ wo : World, wo = wr := ⟨_, rfl⟩
      go_wp2_with fail
      go_loopw [15] (fun q w2 => ∃ (r : Nat) (f2 : Nat → Int), r ≤ 4 ∧ q = .int .i64 (r : Int) ∧ Lvr F n g w w2 i r f2) (fun q _ => 4 - (intOf q).toNat)
      case atStart => exact ⟨0, f, by omega, rfl, HP.out⟩
      case round =>
        clear HP
        obtain ⟨r, f2, hr, rfl, hp⟩ := hrel
        have HP := shade hp
        clear hp
        by_cases hr4 : r < 4
        · have HN := shade (needs_any A n c F i r wr HV.out (HWT.out.below (below_of_grown HP.out.sts.low) (wt_lt HWT.out)) (H.out.on HP.out.sts.low) (by omega) hr4)
          have HB := shade ((HGX.out i).2 r hr4)
          go_wp2_with fail
          refine HN.out.mono ?_
          rintro e w5 ⟨⟨b, rfl, hb⟩, hg5⟩
          have HP5 := shade (HP.out.on hg5)
          have HBB := shade hb
          clear hb hg5 HP HN
          rcases b with _ | _
          · have HM := shade (HP5.out.miss (by
              rw [Bool.eq_false_iff]
              intro e
              have := HBB.out.2 (HB.out.1 e)
              cases this))
            clear HP5 HBB HB
            go_wp2_with fail
            go_roundw
            case rel => exact ⟨r + 1, f2, by omega, by go_num, HM.out⟩
            case measure => simp [intOf]; omega
          · have HM := shade (HP5.out.hit hr4 (HB.out.2 (HBB.out.1 rfl)))
            have s0 := HP5.out.sts.cell i (by omega)
            have s1 := HP5.out.sts.free i
            clear HBB HB
            go_wp2_with fail
            go_region_with (fail)
            go_wp2_with fail
            go_roundw
            case rel => exact ⟨r + 1, _, by omega, by go_num, HM.out.on (grown_drewN (grown_refl _ _) 1)⟩
            case measure => simp [intOf]; omega
        · have hr2 : r = 4 := by omega
          subst hr2
          have HN := shade (HP.out.next (fun x => (HGX.out x).1))
          clear HP
          go_wp2_with fail
          go_roundw
          case rel => exact ⟨i + 1, f2, by omega, by go_num, HN.out⟩
          case measure => simp [intOf]; omega
    · have hin2 : i = n + 1 := by omega
      subst hin2
      go_wp2_with fail
      go_ret
      exact ⟨_, rfl, by
        rw [numL_congr (n + 1) g f (fun j hj => (HP.out.bef j hj).symm)]
        exact HP.out.sts.own, HP.out.sts.low⟩
end Go.Proofs.YtbjhlilhbeiogaaDoor
