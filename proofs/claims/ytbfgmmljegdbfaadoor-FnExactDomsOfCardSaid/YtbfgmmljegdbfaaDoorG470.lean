/- Sets of instructions as numbers, and what is on all ways: plain facts. What is on all ways, by the program. Powers of two, and what a list has, by the model. -/
import Derived.Test.YtbfgmmljegdbfaaDoorG464
import Derived.Test.YtbfgmmljegdbfaaDoorW445d
import Derived.Test.YtbfgmmljegdbfaaDoorG446
namespace Go.Proofs.YtbfgmmljegdbfaaDoor
open Go.RowKit
set_option linter.unusedSimpArgs false
theorem wrap63 (a : Nat) (h : a < 2 ^ 63) : IntKind.i64.wrap (a : Int) = (a : Int) := by
  simp [IntKind.wrap, IntKind.bits, IntKind.signed]
  omega
theorem wrap64_63 (a : Nat) (h : a < 2 ^ 63) : wrap64 (a : Int) = (a : Int) := by
  unfold wrap64
  omega
theorem and_nat (a b : Nat) (ha : a < 2 ^ 63) (hb : b < 2 ^ 63) : bits .and .i64 (a : Int) (b : Int) = ((a &&& b : Nat) : Int) := by
  unfold bits
  simp
  show IntKind.i64.wrap ((a % 2 ^ 64 &&& b % 2 ^ 64 : Nat) : Int) = _
  rw [Nat.mod_eq_of_lt (by omega), Nat.mod_eq_of_lt (by omega)]
  exact wrap63 _ (Nat.lt_of_le_of_lt Nat.and_le_left ha)
theorem or_nat (a b : Nat) (ha : a < 2 ^ 63) (hb : b < 2 ^ 63) : bits .or .i64 (a : Int) (b : Int) = ((a ||| b : Nat) : Int) := by
  unfold bits
  simp
  show IntKind.i64.wrap ((a % 2 ^ 64 ||| b % 2 ^ 64 : Nat) : Int) = _
  rw [Nat.mod_eq_of_lt (by omega), Nat.mod_eq_of_lt (by omega)]
  exact wrap63 _ (Nat.or_lt_two_pow ha hb)
theorem pow40 {t : Nat} (h : t ≤ 40) : 2 ^ t ≤ 2 ^ 40 := Nat.pow_le_pow_right (by omega) h
/-- The set of those that p tells. -/
def setOf (p : Nat → Bool) : Nat → Nat
  | 0 => 0
  | m + 1 => setOf p m ||| (if p m then 2 ^ m else 0)
theorem setOf_lt (p : Nat → Bool) : ∀ m, setOf p m < 2 ^ m
  | 0 => Nat.one_pos
  | m + 1 => by
    refine Nat.or_lt_two_pow (Nat.lt_of_lt_of_le (setOf_lt p m) (Nat.pow_le_pow_right (by omega) (by omega))) ?_
    have : 0 < 2 ^ m := Nat.two_pow_pos m
    have e : 2 ^ (m + 1) = 2 ^ m + 2 ^ m := by rw [Nat.pow_succ]; omega
    split <;> omega
theorem setOf_bit (p : Nat → Bool) (t : Nat) : ∀ m, (setOf p m).testBit t = (decide (t < m) && p t)
  | 0 => by simp [setOf]
  | m + 1 => by
    show (setOf p m ||| _).testBit t = _
    rw [Nat.testBit_or, setOf_bit p t m]
    by_cases e : t = m
    · subst e
      cases hp : p t
      · simp [hp]
      · simp [hp]
    · rw [show decide (t < m + 1) = decide (t < m) from decide_eq_decide.2 (by omega)]
      have : (if p m = true then 2 ^ m else 0).testBit t = false := by
        split
        · rw [Nat.testBit_two_pow]
          exact decide_eq_false (fun h => e h.symm)
        · exact Nat.zero_testBit t
      rw [this, Bool.or_false]
theorem set_ext {n a b : Nat} (ha : a < 2 ^ n) (hb : b < 2 ^ n) (h : ∀ t, t < n → a.testBit t = b.testBit t) : a = b := by
  refine Nat.eq_of_testBit_eq (fun t => ?_)
  by_cases ht : t < n
  · exact h t ht
  · rw [Nat.testBit_lt_two_pow (Nat.lt_of_lt_of_le ha (Nat.pow_le_pow_right (by omega) (by omega))), Nat.testBit_lt_two_pow (Nat.lt_of_lt_of_le hb (Nat.pow_le_pow_right (by omega) (by omega)))]
/-- The index alone is cut. -/
def cutAt (t x : Nat) : Bool := x == t
/-- All ways to k lead over t. -/
def Dom (F : Nat → Ins) (n t k : Nat) : Prop := Way F n noCut 0 k ∧ (k = t ∨ ¬ Way F n (cutAt t) 0 k)
theorem Way.all {F : Nat → Ins} {n : Nat} {cut : Nat → Bool} {a y : Nat} (h : Way F n cut a y) : Way F n noCut a y :=
  fun X h0 hs => h X h0 (fun x z hx hxn _ hz => hs x z hx hxn rfl hz)
theorem dom_sets (F : Nat → Ins) (n : Nat) : ∃ g : Nat → Nat, ∀ k, g k < 2 ^ n ∧ ∀ t, t < n → ((g k).testBit t = true ↔ Dom F n t k) := by
  refine ⟨fun k => setOf (fun t => @decide _ (Classical.propDecidable (Dom F n t k))) n, fun k => ⟨setOf_lt _ n, fun t ht => ?_⟩⟩
  rw [setOf_bit, decide_eq_true ht, Bool.true_and]
  exact @decide_eq_true_iff _ (Classical.propDecidable _)
/-- A step keeps what is on all ways. -/
theorem Dom.back {F : Nat → Ins} {n t i k : Nat} (h : Dom F n t k) (hk : k ≠ t) (hi : i < n) (hw : Way F n noCut 0 i) (hs : (k : Int) ∈ nxI (F i) i) : Dom F n t i := by
  refine ⟨hw, ?_⟩
  by_cases e : i = t
  · exact .inl e
  · refine .inr (fun hc => (h.2.resolve_left hk) (hc.step hi ?_ hs))
    show (i == t) = false
    exact beq_eq_false_iff_ne.2 e
/-- A row of numbers of its own. -/
structure Dts (w wr : World) (N : Nat) (f : Nat → Nat) : Prop where
  own : Own wr w.heap.size (some ⟨w.heap.size, 0, none⟩) N N (fun j => (f j : Int))
  low : w.grownBy wr none
theorem Dts.on {w wr w2 : World} {N : Nat} {f : Nat → Nat} (h : Dts w wr N f) (hg : wr.grownBy w2 none) : Dts w w2 N f := ⟨World.ownsRow.kept h.own hg (.inr (by
  show some w.heap.size ≠ none
  simp)), grown_same h.low hg⟩
theorem Dts.set {w wr : World} {N : Nat} {f : Nat → Nat} (h : Dts w wr N f) (k x : Nat) : Dts w (wr.setCell ⟨w.heap.size, k, none⟩ (.int .i64 (x : Int))) N (fun j => if j = k then x else f j) := ⟨by
  have h1 := (World.ownsRow.stored h.own k (.int .i64 (x : Int))).1
  rw [numL_set N _ (fun j => (((if j = k then x else f j : Nat)) : Int)) k x (by simp) (fun j _ hne => by
    show _ = (((if j = k then _ else _ : Nat)) : Int)
    rw [if_neg hne])] at h1
  exact h1, grown_then h.low (grown_set w.heap.size k _) (Nat.le_refl _)⟩
theorem Dts.cell {w wr : World} {N : Nat} {f : Nat → Nat} (h : Dts w wr N f) (k : Nat) (hk : k < N) : wr.cell? ⟨w.heap.size, k, none⟩ = some (.int .i64 (f k : Int)) := by
  rcases h.own.nums with h0 | ⟨b, off, e, _, hc⟩
  · omega
  · injection e with e
    injection e with e1 e2
    subst e1
    subst e2
    have := hc k hk
    rwa [Nat.zero_add] at this
theorem Dts.free {w wr : World} {N : Nat} {f : Nat → Nat} (h : Dts w wr N f) (k : Nat) : wr.frozen? ⟨w.heap.size, k, none⟩ = false := World.ownsRow.frozenAt h.own k
theorem Dts.lt {w wr : World} {N : Nat} {f : Nat → Nat} (h : Dts w wr N f) : w.heap.size < wr.heap.size := (World.ownsRow.lt h.own w.heap.size rfl).2
theorem Dts.num {w wr : World} {N : Nat} {f g : Nat → Nat} (h : Dts w wr N f) (hf : ∀ j, j < N → f j = g j) : NumRes N (fun j => (g j : Int)) w (.returned (.slice (some ⟨w.heap.size, 0, none⟩) N N)) wr := by
  refine ⟨_, rfl, ?_, h.low⟩
  rw [numL_congr N (fun j => (g j : Int)) (fun j => (f j : Int)) (fun j hj => by rw [hf j hj])]
  exact h.own
/-- Of the sets the indices below t are laid; below index i one more. -/
structure Dvr (F : Nat → Ins) (n : Nat) (w wr : World) (t i : Nat) (f : Nat → Nat) : Prop where
  dts : Dts w wr n f
  lt : ∀ j, j < n → f j < 2 ^ n
  bit : ∀ j s, j < n → s < n → ((f j).testBit s = true ↔ (s < t ∨ (s = t ∧ j < i)) ∧ Dom F n s j)
section
variable {F : Nat → Ins} {n i t : Nat} {f : Nat → Nat} {w wr wr' : World}
theorem Dvr.on (h : Dvr F n w wr t i f) (hg : wr.grownBy wr' none) : Dvr F n w wr' t i f := ⟨h.dts.on hg, h.lt, h.bit⟩
theorem Dvr.miss (h : Dvr F n w wr t i f) (hb : ¬ Dom F n t i) : Dvr F n w wr t (i + 1) f := ⟨h.dts, h.lt, fun j s hj hs => by
  rw [h.bit j s hj hs]
  constructor
  · rintro ⟨h1, h2⟩
    exact ⟨by omega, h2⟩
  · rintro ⟨h1, h2⟩
    refine ⟨?_, h2⟩
    rcases h1 with h1 | ⟨rfl, h1⟩
    · exact .inl h1
    · by_cases e : j = i
      · subst e
        exact absurd h2 hb
      · exact .inr ⟨rfl, by omega⟩⟩
theorem Dvr.hit (h : Dvr F n w wr t i f) (ht : t < n) (hi : i < n) (hb : Dom F n t i) : Dvr F n w (wr.setCell ⟨w.heap.size, i, none⟩ (.int .i64 ((f i ||| 2 ^ t : Nat) : Int))) t (i + 1) (fun j => if j = i then f i ||| 2 ^ t else f j) := by
  refine ⟨h.dts.set i _, fun j hj => ?_, fun j s hj hs => ?_⟩
  · show (if j = i then _ else f j) < _
    split
    · exact Nat.or_lt_two_pow (h.lt i hi) (Nat.pow_lt_pow_right (by omega) ht)
    · exact h.lt j hj
  · show (if j = i then _ else f j).testBit s = true ↔ _
    by_cases e : j = i
    · subst e
      rw [if_pos rfl, Nat.testBit_or, Bool.or_eq_true, h.bit j s hj hs, Nat.testBit_two_pow, decide_eq_true_eq]
      constructor
      · rintro (⟨h1, h2⟩ | rfl)
        · exact ⟨by omega, h2⟩
        · exact ⟨.inr ⟨rfl, by omega⟩, hb⟩
      · rintro ⟨h1, h2⟩
        by_cases e : t = s
        · exact .inr e
        · exact .inl ⟨by omega, h2⟩
    · rw [if_neg e, h.bit j s hj hs]
      constructor
      · rintro ⟨h1, h2⟩
        exact ⟨by omega, h2⟩
      · rintro ⟨h1, h2⟩
        exact ⟨by omega, h2⟩
theorem Dvr.next (h : Dvr F n w wr t n f) : Dvr F n w wr (t + 1) 0 f := ⟨h.dts, h.lt, fun j s hj hs => by
  rw [h.bit j s hj hs]
  constructor
  · rintro ⟨h1, h2⟩
    exact ⟨by omega, h2⟩
  · rintro ⟨h1, h2⟩
    exact ⟨by omega, h2⟩⟩
theorem Dvr.done (h : Dvr F n w wr n 0 f) {g : Nat → Nat} (hg : ∀ k, g k < 2 ^ n ∧ ∀ t, t < n → ((g k).testBit t = true ↔ Dom F n t k)) (j : Nat) (hj : j < n) : f j = g j :=
  set_ext (h.lt j hj) (hg j).1 (fun s hs => by
    rw [Bool.eq_iff_iff, h.bit j s hj hs, (hg j).2 s hs]
    exact ⟨fun h => h.2, fun h => ⟨.inl hs, h⟩⟩)
end
end Go.Proofs.YtbfgmmljegdbfaaDoor

namespace Go.Proofs.YtbfgmmljegdbfaaDoor
open Go.RowKit Go.Shelf
set_option linter.unusedSimpArgs false
theorem row_some {w : World} {B : Nat} {e : TypeId} {z : Nat} {v : Value} {k : Nat} {xs : List Value} (h : w.ownsRow B e z v (k + 1) xs) : ∃ b c, v = .slice (some ⟨b, 0, none⟩) (k + 1) c ∧ B ≤ b := by
  rcases h.2 with ⟨e', h0⟩ | ⟨g', cap', cur, e', _⟩
  · omega
  · have hh := h
    subst e'
    exact ⟨g', cap', rfl, (World.ownsRow.lt hh g' rfl).1⟩
theorem OwnB.cell {w : World} {B b K c : Nat} {f : Nat → Bool} (h : OwnB w B (some ⟨b, 0, none⟩) K c f) (k : Nat) (hk : k < K) : w.cell? ⟨b, k, none⟩ = some (.bool (f k)) := by
  have := h.bols.cell (j := k) hk
  rwa [Nat.zero_add] at this
theorem OwnB.far {w w' : World} {B b K c : Nat} {f : Nat → Bool} {row : Option Nat} (h : OwnB w B (some ⟨b, 0, none⟩) K c f) (hg : w.grownBy w' row) (hr : row ≠ some b) : OwnB w' B (some ⟨b, 0, none⟩) K c f := World.ownsRow.kept h hg (.inr (by
  show some b ≠ row
  exact fun e => hr e.symm))
theorem cut_any (bx t x : Nat) (W : World) (h : Holds5 W bx 3 #[.int .i64 (t : Int)]) :
    Calls Tryd.prog 85 (#[.int .i64 (x : Int)] ++ #[.pointer (some ⟨bx, 0, none⟩)]) W fun e w' => e = .returned (.bool (cutAt t x)) ∧ W.grownBy w' none := by
  have q0 := h.look 0
  simp at q0
  have he : ((x : Int) == (t : Int)) = cutAt t x := by
    unfold cutAt
    by_cases e : x = t
    · subst e; simp
    · rw [beq_eq_false_iff_ne.2 e, beq_eq_false_iff_ne.2 (by omega)]
  rw [← he]
  clear he h
  show Calls Tryd.prog 85 #[.int .i64 (x : Int), .pointer (some ⟨bx, 0, none⟩)] W _
  go_enter Tryd.func85, Tryd.ntmps85
  go_wp2_with fail
  go_ret
  exact ⟨rfl, grown_refl _ _⟩
set_option maxRecDepth 100000 in
set_option maxHeartbeats 16000000 in
theorem doms_any (A : Option Addr) (n c : Nat) (F : Nat → Ins) (g : Nat → Nat) (w : World) (hv : vcB n F = true) (hwt : WT w) (h : Code w A n F) (hgx : ∀ k, g k < 2 ^ n ∧ ∀ t, t < n → ((g k).testBit t = true ↔ Dom F n t k)) :
    Calls Tryd.prog 63 #[.slice A n c] w (NumRes n (fun j => (g j : Int)) w) := by
  have hn := vcB_40 hv
  have HV := shade hv
  have H := shade h
  have HWT := shade hwt
  have HGX := shade hgx
  clear h hv hwt hgx
  obtain ⟨i0, hi, hz0, hz1, hz2⟩ := info_parts info3n
  go_enter Tryd.func63, Tryd.ntmps63
  go_wp2_with (first
    | (at_make; refine wpList_make_full _ rfl _ _ 35 rfl w.heap.size 3 i0 (.int .i64 0) 1 Tryd.underlying35 hi hz0 hz1 .i64 .i64 n n n rfl rfl rfl rfl (by rw [hz2]; omega) (by unfold maxLen; omega) (Nat.le_refl _) ?_)
    | go_in)
  intro w1 hown1 hgr1
  simp only [made_nums] at hown1
  have L0 := shade (show Dvr F n w w1 0 0 (fun _ => 0) from ⟨⟨hown1, hgr1⟩, fun _ _ => Nat.two_pow_pos n, fun j s _ _ => by
    rw [Nat.zero_testBit]
    constructor
    · intro e
      cases e
    · rintro ⟨h1, _⟩
      omega⟩)
  clear hown1 hgr1 hi hz0 hz1 hz2
  go_wp2_with fail
  refine (reached_no A n c F w1 HV.out (HWT.out.below (below_of_grown L0.out.dts.low) (wt_lt HWT.out)) (H.out.on L0.out.dts.low)).mono ?_
  rintro e w2 ⟨thr, hthr, v, rfl, ho, hg2⟩
  obtain ⟨tb, tc, rfl, hlb⟩ := row_some ho
  have L1 := shade (L0.out.on hg2)
  have HT := shade (show OwnB w2 (w.heap.size + 1) (some ⟨tb, 0, none⟩) (n + 1) tc thr from World.ownsRow.mono ho L0.out.dts.lt)
  have HTN := shade (show w.heap.size < tb from Nat.lt_of_lt_of_le L0.out.dts.lt hlb)
  have HTW := shade hthr
  clear ho hg2 hlb hthr L0
  go_wp2_with fail
  go_loopw [15] (fun q wr => ∃ (t : Nat) (f : Nat → Nat), t ≤ n ∧ q = .int .i64 (t : Int) ∧ Dvr F n w wr t 0 f ∧ OwnB wr (w.heap.size + 1) (some ⟨tb, 0, none⟩) (n + 1) tc thr) (fun q _ => n - (intOf q).toNat)
  case atStart => exact ⟨0, _, by omega, rfl, L1.out, HT.out⟩
  case round =>
    clear L1 HT
    obtain ⟨t, f, ht, rfl, hp, ht2⟩ := hrel
    have HP := shade hp
    have HT := shade ht2
    clear hp ht2
    by_cases htn : t < n
    · have htt : (t : Int) < (n : Int) := by omega
      obtain ⟨wo, rfl⟩ : ∃ wo : World, wo = wr := ⟨_, rfl⟩
      go_upto_region 6 with (fail)
      have hB := shade (Holds5.fresh wo 3 #[.int .i64 (t : Int)])
      have hga := World.grownBy_alloc wo (.cells #[.int .i64 (t : Int)] 3) none
      have hz := World.size_alloc wo (.cells #[.int .i64 (t : Int)] 3)
      obtain ⟨W3, hW3⟩ : ∃ W3, wo.alloc (.cells #[.int .i64 (t : Int)] 3) = W3 := ⟨_, rfl⟩
      rw [hW3] at hB hga hz ⊢
      have HP3 := shade (HP.out.on hga)
      have HT3 := shade (HT.out.on hga)
      have HNE := shade (show w.heap.size ≠ wo.heap.size by have := HP.out.dts.lt; omega)
      have HZ3 := shade hz
      clear hW3 hga hz HP HT
      go_wp2_with fail
      refine (reached_any A n c 85 #[.pointer (some ⟨wo.heap.size, 0, none⟩)] F (cutAt t) (fun W => Holds5 W wo.heap.size 3 #[.int .i64 (t : Int)]) W3 HV.out (HWT.out.below (below_of_grown HP3.out.dts.low) (wt_lt HWT.out)) (H.out.on HP3.out.dts.low) hB.out (fun W W' hu _ hk => hk _ _ (by have := HZ3.out; omega) hu rfl) (enters_of Tryd.func85 (by kernel_rfl) rfl) (fun x W hu _ _ _ => cut_any wo.heap.size t x W hu)).mono ?_
      rintro e w4 ⟨arr, harr, v, rfl, ho, hg4⟩
      obtain ⟨ab, ac, rfl, hlb⟩ := row_some ho
      have HP4 := shade (HP3.out.on hg4)
      have HT4 := shade (HT3.out.on hg4)
      have HB4 := shade (hB.out.grown hg4 (by intro e; cases e))
      have HA4 := shade (show OwnB w4 (w.heap.size + 1) (some ⟨ab, 0, none⟩) (n + 1) ac arr from World.ownsRow.mono ho HP3.out.dts.lt)
      have HAN := shade (show w.heap.size < ab from Nat.lt_of_lt_of_le HP3.out.dts.lt hlb)
      have HAW := shade harr
      clear ho hg4 hlb harr HP3 HT3 hB HZ3
      go_wp2_with fail
      go_loopw [23] (fun q w5 => ∃ (i : Nat) (f2 : Nat → Nat), i ≤ n ∧ q = .int .i64 (i : Int) ∧ Dvr F n w w5 t i f2 ∧ OwnB w5 (w.heap.size + 1) (some ⟨tb, 0, none⟩) (n + 1) tc thr ∧ OwnB w5 (w.heap.size + 1) (some ⟨ab, 0, none⟩) (n + 1) ac arr ∧ Holds5 w5 wo.heap.size 3 #[.int .i64 (t : Int)]) (fun q _ => n - (intOf q).toNat)
      case atStart => exact ⟨0, f, by omega, rfl, HP4.out, HT4.out, HA4.out, HB4.out⟩
      case round =>
        clear HP4 HT4 HA4 HB4
        obtain ⟨i, f2, hi, rfl, hp, ht2, ha2, hb2⟩ := hrel
        have HP := shade hp
        have HT := shade ht2
        have HA := shade ha2
        have HB := shade hb2
        clear hp ht2 ha2 hb2
        by_cases hin : i < n
        · have hD : (thr i && (cutAt t i || !arr i)) = true ↔ Dom F n t i := by
            unfold Dom cutAt
            rw [Bool.and_eq_true, HTW.out i (by omega), Bool.or_eq_true, beq_iff_eq, Bool.not_eq_true', Bool.eq_false_iff, Ne, HAW.out i (by omega)]
            exact Iff.rfl
          have HD := shade hD
          clear hD
          have s0 := HT.out.cell i (by omega)
          have s1 := HA.out.cell i (by omega)
          have s2 := HB.out.look 0
          simp at s2
          have s3 := HP.out.dts.cell i hin
          have s4 := HP.out.dts.free i
          have hce : ((i : Int) == (t : Int)) = cutAt t i := by
            unfold cutAt
            by_cases e : i = t
            · subst e; simp
            · rw [beq_eq_false_iff_ne.2 e, beq_eq_false_iff_ne.2 (by omega)]
          generalize cutAt t i = cc at *
          generalize thr i = tt at *
          generalize arr i = aa at *
          rcases tt with _ | _
          · have HM := shade (HP.out.miss (fun e => by have := HD.out.2 e; simp at this))
            clear HP HD
            go_wp2_with fail
            go_roundw
            case rel => exact ⟨i + 1, f2, by omega, by go_num, HM.out, HT.out, HA.out, HB.out⟩
            case measure => simp [intOf]; omega
          · rcases cc with _ | _
            · rcases aa with _ | _
              · have HM := shade (HP.out.hit htn hin (HD.out.1 rfl))
                have HOR := shade (show bits .or .i64 (f2 i : Int) (wrap64 (2 ^ t)) = ((f2 i ||| 2 ^ t : Nat) : Int) from by
                  have h40 : 2 ^ t < 2 ^ 63 := Nat.pow_lt_pow_right (by omega) (by omega)
                  have h41 : f2 i < 2 ^ 63 := Nat.lt_of_lt_of_le (HP.out.lt i hin) (Nat.pow_le_pow_right (by omega) (by omega))
                  rw [show (2 : Int) ^ t = ((2 ^ t : Nat) : Int) by simp, wrap64_63 _ h40, or_nat _ _ h41 h40])
                clear HP HD
                go_wp2_with fail
                go_region_with (fail)
                all_goals
                  go_wp2_with fail
                  go_roundw
                  case rel =>
                    rw [HOR.out]
                    refine ⟨i + 1, _, by omega, by go_num, HM.out.on (grown_drewN (grown_refl _ _) 1), (HT.out.far (grown_set w.heap.size i _) ?_).on (grown_drewN (grown_refl _ _) 1), (HA.out.far (grown_set w.heap.size i _) ?_).on (grown_drewN (grown_refl _ _) 1), (HB.out.grown (grown_set w.heap.size i _) ?_).drew⟩
                    · exact fun e => by injection e with e; have := HTN.out; omega
                    · exact fun e => by injection e with e; have := HAN.out; omega
                    · exact fun e => by injection e with e; exact HNE.out e.symm
                  case measure => simp [intOf]; omega
              · have HM := shade (HP.out.miss (fun e => by have := HD.out.2 e; simp at this))
                clear HP HD
                go_wp2_with fail
                go_roundw
                case rel => exact ⟨i + 1, f2, by omega, by go_num, HM.out, HT.out, HA.out, HB.out⟩
                case measure => simp [intOf]; omega
            · have HM := shade (HP.out.hit htn hin (HD.out.1 rfl))
              have HOR := shade (show bits .or .i64 (f2 i : Int) (wrap64 (2 ^ t)) = ((f2 i ||| 2 ^ t : Nat) : Int) from by
                have h40 : 2 ^ t < 2 ^ 63 := Nat.pow_lt_pow_right (by omega) (by omega)
                have h41 : f2 i < 2 ^ 63 := Nat.lt_of_lt_of_le (HP.out.lt i hin) (Nat.pow_le_pow_right (by omega) (by omega))
                rw [show (2 : Int) ^ t = ((2 ^ t : Nat) : Int) by simp, wrap64_63 _ h40, or_nat _ _ h41 h40])
              clear HP HD
              go_wp2_with fail
              go_region_with (fail)
              all_goals
                go_wp2_with fail
                go_roundw
                case rel =>
                  rw [HOR.out]
                  refine ⟨i + 1, _, by omega, by go_num, HM.out.on (grown_drewN (grown_refl _ _) 1), (HT.out.far (grown_set w.heap.size i _) ?_).on (grown_drewN (grown_refl _ _) 1), (HA.out.far (grown_set w.heap.size i _) ?_).on (grown_drewN (grown_refl _ _) 1), (HB.out.grown (grown_set w.heap.size i _) ?_).drew⟩
                  · exact fun e => by injection e with e; have := HTN.out; omega
                  · exact fun e => by injection e with e; have := HAN.out; omega
                  · exact fun e => by injection e with e; exact HNE.out e.symm
                case measure => simp [intOf]; omega
        · have hi2 : i = n := by omega
          subst hi2
          have HN := shade HP.out.next
          clear HP
          go_wp2_with fail
          go_roundw
          case rel => exact ⟨t + 1, f2, by omega, by go_num, HN.out, HT.out⟩
          case measure => simp [intOf]; omega
    · have ht2 : t = n := by omega
      subst ht2
      go_wp2_with fail
      go_ret
      exact HP.out.dts.num (HP.out.done HGX.out)
end Go.Proofs.YtbfgmmljegdbfaaDoor

namespace Go.Proofs.YtbfgmmljegdbfaaDoor
open Go.RowKit
set_option linter.unusedSimpArgs false
set_option maxHeartbeats 4000000 in
theorem power_nat (n : Nat) (hn : n ≤ 40) (w : World) : Calls Tryd.prog 83 #[.int .i64 (n : Int)] w fun e w' => e = .returned (.int .i64 ((2 ^ n : Nat) : Int)) ∧ w = w' := by
  go_enter Tryd.func83, Tryd.ntmps83
  go_wp2
  go_loopw [0, 3] (fun q o w2 => ∃ (m k : Nat), m + k = n ∧ q = .int .i64 (m : Int) ∧ o = .int .i64 ((2 ^ k : Nat) : Int) ∧ w = w2) (fun q _ _ => (intOf q).toNat)
  case atStart => exact ⟨n, 0, by omega, rfl, rfl, rfl⟩
  case round =>
    obtain ⟨m, k, hmk, rfl, rfl, rfl⟩ := hrel
    rcases m with _ | m
    · obtain rfl : k = n := by omega
      go_wp2
      go_ret
      exact ⟨rfl, rfl⟩
    · have h40 : 2 ^ k ≤ 2 ^ 40 := pow40 (by omega)
      have e1 : ((2 ^ (k + 1) : Nat) : Int) = 2 * ((2 ^ k : Nat) : Int) := by rw [Nat.pow_succ]; omega
      have HE := shade e1
      clear e1
      generalize 2 ^ k = x at *
      have b1 : 0 ≤ 2 * (x : Int) := by omega
      have b2 : 2 * (x : Int) ≤ 9223372036854775807 := by omega
      have b3 : (m : Int) ≤ 40 := by omega
      go_wp2
      go_roundw
      case rel => exact ⟨m, k + 1, by omega, by go_num, by rw [HE.out], trivial⟩
      case measure => simp [intOf]
set_option maxHeartbeats 4000000 in
theorem hasInt_any (A : Option Addr) (K c : Nat) (f : Nat → Int) (x : Int) (w : World) (hK : K ≤ 9223372036854775807) (h : Nums w A K f) :
    Calls Tryd.prog 84 #[.slice A K c, .int .i64 x] w fun e w' => (∃ b : Bool, e = .returned (.bool b) ∧ (b = true ↔ ∃ j, j < K ∧ f j = x)) ∧ w = w' := by
  have H := shade h
  clear h
  go_enter Tryd.func84, Tryd.ntmps84
  go_wp2
  go_loopw [5] (fun q w2 => ∃ k : Nat, k ≤ K ∧ q = .int .i64 (k : Int) ∧ (∀ j, j < k → f j ≠ x) ∧ w = w2) (fun q _ => K - (intOf q).toNat)
  case atStart => exact ⟨0, by omega, rfl, fun j hj => absurd hj (Nat.not_lt_zero j), rfl⟩
  case round =>
    obtain ⟨k, hk, rfl, hne, rfl⟩ := hrel
    have HN := shade hne
    clear hne
    by_cases hkK : k < K
    · rcases H.out with h0 | ⟨b, off, rfl, _, hc⟩
      · omega
      · have s0 := hc k hkK
        clear hc
        by_cases e : f k = x
        · have he : (f k == x) = true := beq_iff_eq.2 e
          have HX := shade (show ∃ j, j < K ∧ f j = x from ⟨k, hkK, e⟩)
          clear e
          go_wp2
          go_ret
          exact ⟨⟨true, rfl, ⟨fun _ => HX.out, fun _ => rfl⟩⟩, rfl⟩
        · have he : (f k == x) = false := beq_eq_false_iff_ne.2 e
          have HX := shade (show ∀ j, j < k + 1 → f j ≠ x from fun j hj => by
            by_cases e' : j = k
            · rw [e']; exact e
            · exact HN.out j (by omega))
          clear e
          go_wp2
          go_roundw
          case rel => exact ⟨k + 1, by omega, by go_num, HX.out, trivial⟩
          case measure => simp [intOf]; omega
    · have e : k = K := by omega
      subst e
      go_wp2
      go_ret
      exact ⟨⟨false, rfl, ⟨(fun e => by cases e), fun ⟨j, hj, hx⟩ => absurd hx (HN.out j hj)⟩⟩, rfl⟩
end Go.Proofs.YtbfgmmljegdbfaaDoor
