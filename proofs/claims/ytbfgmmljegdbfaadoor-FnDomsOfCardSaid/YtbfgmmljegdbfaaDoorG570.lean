/- What is on all ways: the program and its model. What is on all ways is on the traces; powers and bits of the laws. DomsOf answers as its model for the drawn program; what is on all ways is on the traces. DomsOf answers as its model for the drawn program; what is stepped is reached, and what comes next of what is reached; the row and its card. -/
import Derived.Test.YtbfgmmljegdbfaaDoorH446
import Derived.Test.YtbfgmmljegdbfaaDoorW9
import Derived.Test.YtbfgmmljegdbfaaDoorCards
import Derived.Test.YtbfgmmljegdbfaaDoorTie
import Derived.SevenTiedAt
namespace Go.Proofs.YtbfgmmljegdbfaaDoor
open Go.RowKit Go.Shelf
set_option linter.unusedSimpArgs false
theorem info3n : (Tryd.prog.info? 3).map (fun i => (i.zero, i.size, i.bytes)) = some (some (.int .i64 0), 1, 8) := by kernel_rfl
theorem made_nums (n : Nat) : (madeCells #[Value.int .i64 0] n).toList = numL n (fun _ => 0) := by
  rw [toList_madeCells_one]
  unfold numL
  rw [List.map_const', List.length_range]
/-- The numbers that lie in a block. -/
def outOf (w : World) (g x : Nat) : Int := match w.cell? ⟨g, x, none⟩ with
  | some (.int _ v) => v
  | _ => 0
theorem NumRes.behind {k : Nat} {f : Nat → Int} {w w1 w2 : World} {e : Ending} (hg : w.grownBy w1 none) (h : NumRes k f w1 e w2) : NumRes k f w e w2 := by
  obtain ⟨v, he, ho, h2⟩ := h
  exact ⟨v, he, World.ownsRow.mono ho hg.size, grown_same hg h2⟩

set_option linter.unusedSimpArgs false
theorem wrap63 (a : Nat) (h : a < 2 ^ 63) : IntKind.i64.wrap (a : Int) = (a : Int) := by
  simp [IntKind.wrap, IntKind.bits, IntKind.signed]
  omega
theorem wrap64_63 (a : Nat) (h : a < 2 ^ 63) : wrap64 (a : Int) = (a : Int) := by
  unfold wrap64
  omega
theorem and_nat (a b : Nat) (ha : a < 2 ^ 63) (hb : b < 2 ^ 63) : bits .and .i64 (a : Int) (b : Int) = ((a &&& b : Nat) : Int) := by
  unfold bits
  simp
  show IntKind.i64.wrap ((a % 2 ^ 64 &&& b % 2 ^ 64 : Nat) : Int) = _
  rw [Nat.mod_eq_of_lt (by omega), Nat.mod_eq_of_lt (by omega)]
  exact wrap63 _ (Nat.lt_of_le_of_lt Nat.and_le_left ha)
theorem or_nat (a b : Nat) (ha : a < 2 ^ 63) (hb : b < 2 ^ 63) : bits .or .i64 (a : Int) (b : Int) = ((a ||| b : Nat) : Int) := by
  unfold bits
  simp
  show IntKind.i64.wrap ((a % 2 ^ 64 ||| b % 2 ^ 64 : Nat) : Int) = _
  rw [Nat.mod_eq_of_lt (by omega), Nat.mod_eq_of_lt (by omega)]
  exact wrap63 _ (Nat.or_lt_two_pow ha hb)
theorem pow40 {t : Nat} (h : t ≤ 40) : 2 ^ t ≤ 2 ^ 40 := Nat.pow_le_pow_right (by omega) h
/-- The set of those that p tells. -/
def setOf (p : Nat → Bool) : Nat → Nat
  | 0 => 0
  | m + 1 => setOf p m ||| (if p m then 2 ^ m else 0)
theorem setOf_lt (p : Nat → Bool) : ∀ m, setOf p m < 2 ^ m
  | 0 => Nat.one_pos
  | m + 1 => by
    refine Nat.or_lt_two_pow (Nat.lt_of_lt_of_le (setOf_lt p m) (Nat.pow_le_pow_right (by omega) (by omega))) ?_
    have : 0 < 2 ^ m := Nat.two_pow_pos m
    have e : 2 ^ (m + 1) = 2 ^ m + 2 ^ m := by rw [Nat.pow_succ]; omega
    split <;> omega
theorem setOf_bit (p : Nat → Bool) (t : Nat) : ∀ m, (setOf p m).testBit t = (decide (t < m) && p t)
  | 0 => by simp [setOf]
  | m + 1 => by
    show (setOf p m ||| _).testBit t = _
    rw [Nat.testBit_or, setOf_bit p t m]
    by_cases e : t = m
    · subst e
      cases hp : p t
      · simp [hp]
      · simp [hp]
    · rw [show decide (t < m + 1) = decide (t < m) from decide_eq_decide.2 (by omega)]
      have : (if p m = true then 2 ^ m else 0).testBit t = false := by
        split
        · rw [Nat.testBit_two_pow]
          exact decide_eq_false (fun h => e h.symm)
        · exact Nat.zero_testBit t
      rw [this, Bool.or_false]
theorem set_ext {n a b : Nat} (ha : a < 2 ^ n) (hb : b < 2 ^ n) (h : ∀ t, t < n → a.testBit t = b.testBit t) : a = b := by
  refine Nat.eq_of_testBit_eq (fun t => ?_)
  by_cases ht : t < n
  · exact h t ht
  · rw [Nat.testBit_lt_two_pow (Nat.lt_of_lt_of_le ha (Nat.pow_le_pow_right (by omega) (by omega))), Nat.testBit_lt_two_pow (Nat.lt_of_lt_of_le hb (Nat.pow_le_pow_right (by omega) (by omega)))]
/-- The index alone is cut. -/
def cutAt (t x : Nat) : Bool := x == t
/-- All ways to k lead over t. -/
def Dom (F : Nat → Ins) (n t k : Nat) : Prop := Way F n noCut 0 k ∧ (k = t ∨ ¬ Way F n (cutAt t) 0 k)
theorem Way.all {F : Nat → Ins} {n : Nat} {cut : Nat → Bool} {a y : Nat} (h : Way F n cut a y) : Way F n noCut a y :=
  fun X h0 hs => h X h0 (fun x z hx hxn _ hz => hs x z hx hxn rfl hz)
theorem dom_sets (F : Nat → Ins) (n : Nat) : ∃ g : Nat → Nat, ∀ k, g k < 2 ^ n ∧ ∀ t, t < n → ((g k).testBit t = true ↔ Dom F n t k) := by
  refine ⟨fun k => setOf (fun t => @decide _ (Classical.propDecidable (Dom F n t k))) n, fun k => ⟨setOf_lt _ n, fun t ht => ?_⟩⟩
  rw [setOf_bit, decide_eq_true ht, Bool.true_and]
  exact @decide_eq_true_iff _ (Classical.propDecidable _)
/-- A step keeps what is on all ways. -/
theorem Dom.back {F : Nat → Ins} {n t i k : Nat} (h : Dom F n t k) (hk : k ≠ t) (hi : i < n) (hw : Way F n noCut 0 i) (hs : (k : Int) ∈ nxI (F i) i) : Dom F n t i := by
  refine ⟨hw, ?_⟩
  by_cases e : i = t
  · exact .inl e
  · refine .inr (fun hc => (h.2.resolve_left hk) (hc.step hi ?_ hs))
    show (i == t) = false
    exact beq_eq_false_iff_ne.2 e
/-- A row of numbers of its own. -/
structure Dts (w wr : World) (N : Nat) (f : Nat → Nat) : Prop where
  own : Own wr w.heap.size (some ⟨w.heap.size, 0, none⟩) N N (fun j => (f j : Int))
  low : w.grownBy wr none
theorem Dts.on {w wr w2 : World} {N : Nat} {f : Nat → Nat} (h : Dts w wr N f) (hg : wr.grownBy w2 none) : Dts w w2 N f := ⟨World.ownsRow.kept h.own hg (.inr (by
  show some w.heap.size ≠ none
  simp)), grown_same h.low hg⟩
theorem Dts.set {w wr : World} {N : Nat} {f : Nat → Nat} (h : Dts w wr N f) (k x : Nat) : Dts w (wr.setCell ⟨w.heap.size, k, none⟩ (.int .i64 (x : Int))) N (fun j => if j = k then x else f j) := ⟨by
  have h1 := (World.ownsRow.stored h.own k (.int .i64 (x : Int))).1
  rw [numL_set N _ (fun j => (((if j = k then x else f j : Nat)) : Int)) k x (by simp) (fun j _ hne => by
    show _ = (((if j = k then _ else _ : Nat)) : Int)
    rw [if_neg hne])] at h1
  exact h1, grown_then h.low (grown_set w.heap.size k _) (Nat.le_refl _)⟩
theorem Dts.cell {w wr : World} {N : Nat} {f : Nat → Nat} (h : Dts w wr N f) (k : Nat) (hk : k < N) : wr.cell? ⟨w.heap.size, k, none⟩ = some (.int .i64 (f k : Int)) := by
  rcases h.own.nums with h0 | ⟨b, off, e, _, hc⟩
  · omega
  · injection e with e
    injection e with e1 e2
    subst e1
    subst e2
    have := hc k hk
    rwa [Nat.zero_add] at this
theorem Dts.free {w wr : World} {N : Nat} {f : Nat → Nat} (h : Dts w wr N f) (k : Nat) : wr.frozen? ⟨w.heap.size, k, none⟩ = false := World.ownsRow.frozenAt h.own k
theorem Dts.lt {w wr : World} {N : Nat} {f : Nat → Nat} (h : Dts w wr N f) : w.heap.size < wr.heap.size := (World.ownsRow.lt h.own w.heap.size rfl).2
theorem Dts.num {w wr : World} {N : Nat} {f g : Nat → Nat} (h : Dts w wr N f) (hf : ∀ j, j < N → f j = g j) : NumRes N (fun j => (g j : Int)) w (.returned (.slice (some ⟨w.heap.size, 0, none⟩) N N)) wr := by
  refine ⟨_, rfl, ?_, h.low⟩
  rw [numL_congr N (fun j => (g j : Int)) (fun j => (f j : Int)) (fun j hj => by rw [hf j hj])]
  exact h.own
/-- Of the sets the indices below t are laid; below index i one more. -/
structure Dvr (F : Nat → Ins) (n : Nat) (w wr : World) (t i : Nat) (f : Nat → Nat) : Prop where
  dts : Dts w wr n f
  lt : ∀ j, j < n → f j < 2 ^ n
  bit : ∀ j s, j < n → s < n → ((f j).testBit s = true ↔ (s < t ∨ (s = t ∧ j < i)) ∧ Dom F n s j)
section
variable {F : Nat → Ins} {n i t : Nat} {f : Nat → Nat} {w wr wr' : World}
theorem Dvr.on (h : Dvr F n w wr t i f) (hg : wr.grownBy wr' none) : Dvr F n w wr' t i f := ⟨h.dts.on hg, h.lt, h.bit⟩
theorem Dvr.miss (h : Dvr F n w wr t i f) (hb : ¬ Dom F n t i) : Dvr F n w wr t (i + 1) f := ⟨h.dts, h.lt, fun j s hj hs => by
  rw [h.bit j s hj hs]
  constructor
  · rintro ⟨h1, h2⟩
    exact ⟨by omega, h2⟩
  · rintro ⟨h1, h2⟩
    refine ⟨?_, h2⟩
    rcases h1 with h1 | ⟨rfl, h1⟩
    · exact .inl h1
    · by_cases e : j = i
      · subst e
        exact absurd h2 hb
      · exact .inr ⟨rfl, by omega⟩⟩
theorem Dvr.hit (h : Dvr F n w wr t i f) (ht : t < n) (hi : i < n) (hb : Dom F n t i) : Dvr F n w (wr.setCell ⟨w.heap.size, i, none⟩ (.int .i64 ((f i ||| 2 ^ t : Nat) : Int))) t (i + 1) (fun j => if j = i then f i ||| 2 ^ t else f j) := by
  refine ⟨h.dts.set i _, fun j hj => ?_, fun j s hj hs => ?_⟩
  · show (if j = i then _ else f j) < _
    split
    · exact Nat.or_lt_two_pow (h.lt i hi) (Nat.pow_lt_pow_right (by omega) ht)
    · exact h.lt j hj
  · show (if j = i then _ else f j).testBit s = true ↔ _
    by_cases e : j = i
    · subst e
      rw [if_pos rfl, Nat.testBit_or, Bool.or_eq_true, h.bit j s hj hs, Nat.testBit_two_pow, decide_eq_true_eq]
      constructor
      · rintro (⟨h1, h2⟩ | rfl)
        · exact ⟨by omega, h2⟩
        · exact ⟨.inr ⟨rfl, by omega⟩, hb⟩
      · rintro ⟨h1, h2⟩
        by_cases e : t = s
        · exact .inr e
        · exact .inl ⟨by omega, h2⟩
    · rw [if_neg e, h.bit j s hj hs]
      constructor
      · rintro ⟨h1, h2⟩
        exact ⟨by omega, h2⟩
      · rintro ⟨h1, h2⟩
        exact ⟨by omega, h2⟩
theorem Dvr.next (h : Dvr F n w wr t n f) : Dvr F n w wr (t + 1) 0 f := ⟨h.dts, h.lt, fun j s hj hs => by
  rw [h.bit j s hj hs]
  constructor
  · rintro ⟨h1, h2⟩
    exact ⟨by omega, h2⟩
  · rintro ⟨h1, h2⟩
    exact ⟨by omega, h2⟩⟩
theorem Dvr.done (h : Dvr F n w wr n 0 f) {g : Nat → Nat} (hg : ∀ k, g k < 2 ^ n ∧ ∀ t, t < n → ((g k).testBit t = true ↔ Dom F n t k)) (j : Nat) (hj : j < n) : f j = g j :=
  set_ext (h.lt j hj) (hg j).1 (fun s hs => by
    rw [Bool.eq_iff_iff, h.bit j s hj hs, (hg j).2 s hs]
    exact ⟨fun h => h.2, fun h => ⟨.inl hs, h⟩⟩)
end

set_option linter.unusedSimpArgs false
theorem row_some {w : World} {B : Nat} {e : TypeId} {z : Nat} {v : Value} {k : Nat} {xs : List Value} (h : w.ownsRow B e z v (k + 1) xs) : ∃ b c, v = .slice (some ⟨b, 0, none⟩) (k + 1) c ∧ B ≤ b := by
  rcases h.2 with ⟨e', h0⟩ | ⟨g', cap', cur, e', _⟩
  · omega
  · have hh := h
    subst e'
    exact ⟨g', cap', rfl, (World.ownsRow.lt hh g' rfl).1⟩
theorem OwnB.cell {w : World} {B b K c : Nat} {f : Nat → Bool} (h : OwnB w B (some ⟨b, 0, none⟩) K c f) (k : Nat) (hk : k < K) : w.cell? ⟨b, k, none⟩ = some (.bool (f k)) := by
  have := h.bols.cell (j := k) hk
  rwa [Nat.zero_add] at this
theorem OwnB.far {w w' : World} {B b K c : Nat} {f : Nat → Bool} {row : Option Nat} (h : OwnB w B (some ⟨b, 0, none⟩) K c f) (hg : w.grownBy w' row) (hr : row ≠ some b) : OwnB w' B (some ⟨b, 0, none⟩) K c f := World.ownsRow.kept h hg (.inr (by
  show some b ≠ row
  exact fun e => hr e.symm))
theorem cut_any (bx t x : Nat) (W : World) (h : Holds5 W bx 3 #[.int .i64 (t : Int)]) :
    Calls Tryd.prog 85 (#[.int .i64 (x : Int)] ++ #[.pointer (some ⟨bx, 0, none⟩)]) W fun e w' => e = .returned (.bool (cutAt t x)) ∧ W.grownBy w' none := by
  have q0 := h.look 0
  simp at q0
  have he : ((x : Int) == (t : Int)) = cutAt t x := by
    unfold cutAt
    by_cases e : x = t
    · subst e; simp
    · rw [beq_eq_false_iff_ne.2 e, beq_eq_false_iff_ne.2 (by omega)]
  rw [← he]
  clear he h
  show Calls Tryd.prog 85 #[.int .i64 (x : Int), .pointer (some ⟨bx, 0, none⟩)] W _
  go_enter Tryd.func85, Tryd.ntmps85
  go_wp2_with fail
  go_ret
  exact ⟨rfl, grown_refl _ _⟩
set_option maxRecDepth 100000 in
set_option maxHeartbeats 16000000 in
theorem doms_any (A : Option Addr) (n c : Nat) (F : Nat → Ins) (g : Nat → Nat) (w : World) (hv : vcB n F = true) (hwt : WT w) (h : Code w A n F) (hgx : ∀ k, g k < 2 ^ n ∧ ∀ t, t < n → ((g k).testBit t = true ↔ Dom F n t k)) :
    Calls Tryd.prog 63 #[.slice A n c] w (NumRes n (fun j => (g j : Int)) w) := by
  have hn := vcB_40 hv
  have HV := shade hv
  have H := shade h
  have HWT := shade hwt
  have HGX := shade hgx
  clear h hv hwt hgx
  obtain ⟨i0, hi, hz0, hz1, hz2⟩ := info_parts info3n
  go_enter Tryd.func63, Tryd.ntmps63
  go_wp2_with (first
    | (at_make; refine wpList_make_full _ rfl _ _ 35 rfl w.heap.size 3 i0 (.int .i64 0) 1 Tryd.underlying35 hi hz0 hz1 .i64 .i64 n n n rfl rfl rfl rfl (by rw [hz2]; omega) (by unfold maxLen; omega) (Nat.le_refl _) ?_)
    | go_in)
  intro w1 hown1 hgr1
  simp only [made_nums] at hown1
  have L0 := shade (show Dvr F n w w1 0 0 (fun _ => 0) from ⟨⟨hown1, hgr1⟩, fun _ _ => Nat.two_pow_pos n, fun j s _ _ => by
    rw [Nat.zero_testBit]
    constructor
    · intro e
      cases e
    · rintro ⟨h1, _⟩
      omega⟩)
  clear hown1 hgr1 hi hz0 hz1 hz2
  go_wp2_with fail
  refine (reached_no A n c F w1 HV.out (HWT.out.below (below_of_grown L0.out.dts.low) (wt_lt HWT.out)) (H.out.on L0.out.dts.low)).mono ?_
  rintro e w2 ⟨thr, hthr, v, rfl, ho, hg2⟩
  obtain ⟨tb, tc, rfl, hlb⟩ := row_some ho
  have L1 := shade (L0.out.on hg2)
  have HT := shade (show OwnB w2 (w.heap.size + 1) (some ⟨tb, 0, none⟩) (n + 1) tc thr from World.ownsRow.mono ho L0.out.dts.lt)
  have HTN := shade (show w.heap.size < tb from Nat.lt_of_lt_of_le L0.out.dts.lt hlb)
  have HTW := shade hthr
  clear ho hg2 hlb hthr L0
  go_wp2_with fail
  go_loopw [15] (fun q wr => ∃ (t : Nat) (f : Nat → Nat), t ≤ n ∧ q = .int .i64 (t : Int) ∧ Dvr F n w wr t 0 f ∧ OwnB wr (w.heap.size + 1) (some ⟨tb, 0, none⟩) (n + 1) tc thr) (fun q _ => n - (intOf q).toNat)
  case atStart => exact ⟨0, _, by omega, rfl, L1.out, HT.out⟩
  case round =>
    clear L1 HT
    obtain ⟨t, f, ht, rfl, hp, ht2⟩ := hrel
    have HP := shade hp
    have HT := shade ht2
    clear hp ht2
    by_cases htn : t < n
    · have htt : (t : Int) < (n : Int) := by omega
      obtain ⟨wo, rfl⟩ : ∃ wo : World, wo = wr := ⟨_, rfl⟩
      go_upto_region 6 with (fail)
      have hB := shade (Holds5.fresh wo 3 #[.int .i64 (t : Int)])
      have hga := World.grownBy_alloc wo (.cells #[.int .i64 (t : Int)] 3) none
      have hz := World.size_alloc wo (.cells #[.int .i64 (t : Int)] 3)
      obtain ⟨W3, hW3⟩ : ∃ W3, wo.alloc (.cells #[.int .i64 (t : Int)] 3) = W3 := ⟨_, rfl⟩
      rw [hW3] at hB hga hz ⊢
      have HP3 := shade (HP.out.on hga)
      have HT3 := shade (HT.out.on hga)
      have HNE := shade (show w.heap.size ≠ wo.heap.size by have := HP.out.dts.lt; omega)
      have HZ3 := shade hz
      clear hW3 hga hz HP HT
      go_wp2_with fail
      refine (reached_any A n c 85 #[.pointer (some ⟨wo.heap.size, 0, none⟩)] F (cutAt t) (fun W => Holds5 W wo.heap.size 3 #[.int .i64 (t : Int)]) W3 HV.out (HWT.out.below (below_of_grown HP3.out.dts.low) (wt_lt HWT.out)) (H.out.on HP3.out.dts.low) hB.out (fun W W' hu _ hk => hk _ _ (by have := HZ3.out; omega) hu rfl) (enters_of Tryd.func85 (by kernel_rfl) rfl) (fun x W hu _ _ _ => cut_any wo.heap.size t x W hu)).mono ?_
      rintro e w4 ⟨arr, harr, v, rfl, ho, hg4⟩
      obtain ⟨ab, ac, rfl, hlb⟩ := row_some ho
      have HP4 := shade (HP3.out.on hg4)
      have HT4 := shade (HT3.out.on hg4)
      have HB4 := shade (hB.out.grown hg4 (by intro e; cases e))
      have HA4 := shade (show OwnB w4 (w.heap.size + 1) (some ⟨ab, 0, none⟩) (n + 1) ac arr from World.ownsRow.mono ho HP3.out.dts.lt)
      have HAN := shade (show w.heap.size < ab from Nat.lt_of_lt_of_le HP3.out.dts.lt hlb)
      have HAW := shade harr
      clear ho hg4 hlb harr HP3 HT3 hB HZ3
      go_wp2_with fail
      go_loopw [23] (fun q w5 => ∃ (i : Nat) (f2 : Nat → Nat), i ≤ n ∧ q = .int .i64 (i : Int) ∧ Dvr F n w w5 t i f2 ∧ OwnB w5 (w.heap.size + 1) (some ⟨tb, 0, none⟩) (n + 1) tc thr ∧ OwnB w5 (w.heap.size + 1) (some ⟨ab, 0, none⟩) (n + 1) ac arr ∧ Holds5 w5 wo.heap.size 3 #[.int .i64 (t : Int)]) (fun q _ => n - (intOf q).toNat)
      case atStart => exact ⟨0, f, by omega, rfl, HP4.out, HT4.out, HA4.out, HB4.out⟩
      case round =>
        clear HP4 HT4 HA4 HB4
        obtain ⟨i, f2, hi, rfl, hp, ht2, ha2, hb2⟩ := hrel
        have HP := shade hp
        have HT := shade ht2
        have HA := shade ha2
        have HB := shade hb2
        clear hp ht2 ha2 hb2
        by_cases hin : i < n
        · have hD : (thr i && (cutAt t i || !arr i)) = true ↔ Dom F n t i := by
            unfold Dom cutAt
            rw [Bool.and_eq_true, HTW.out i (by omega), Bool.or_eq_true, beq_iff_eq, Bool.not_eq_true', Bool.eq_false_iff, Ne, HAW.out i (by omega)]
            exact Iff.rfl
          have HD := shade hD
          clear hD
          have s0 := HT.out.cell i (by omega)
          have s1 := HA.out.cell i (by omega)
          have s2 := HB.out.look 0
          simp at s2
          have s3 := HP.out.dts.cell i hin
          have s4 := HP.out.dts.free i
          have hce : ((i : Int) == (t : Int)) = cutAt t i := by
            unfold cutAt
            by_cases e : i = t
            · subst e; simp
            · rw [beq_eq_false_iff_ne.2 e, beq_eq_false_iff_ne.2 (by omega)]
          generalize cutAt t i = cc at *
          generalize thr i = tt at *
          generalize arr i = aa at *
          rcases tt with _ | _
          · have HM := shade (HP.out.miss (fun e => by have := HD.out.2 e; simp at this))
            clear HP HD
            go_wp2_with fail
            go_roundw
            case rel => exact ⟨i + 1, f2, by omega, by go_num, HM.out, HT.out, HA.out, HB.out⟩
            case measure => simp [intOf]; omega
          · rcases cc with _ | _
            · rcases aa with _ | _
              · have HM := shade (HP.out.hit htn hin (HD.out.1 rfl))
                have HOR := shade (show bits .or .i64 (f2 i : Int) (wrap64 (2 ^ t)) = ((f2 i ||| 2 ^ t : Nat) : Int) from by
                  have h40 : 2 ^ t < 2 ^ 63 := Nat.pow_lt_pow_right (by omega) (by omega)
                  have h41 : f2 i < 2 ^ 63 := Nat.lt_of_lt_of_le (HP.out.lt i hin) (Nat.pow_le_pow_right (by omega) (by omega))
                  rw [show (2 : Int) ^ t = ((2 ^ t : Nat) : Int) by simp, wrap64_63 _ h40, or_nat _ _ h41 h40])
                clear HP HD
                go_wp2_with fail
                go_region_with (fail)
                all_goals
                  go_wp2_with fail
                  go_roundw
                  case rel =>
                    rw [HOR.out]
                    refine ⟨i + 1, _, by omega, by go_num, HM.out.on (grown_drewN (grown_refl _ _) 1), (HT.out.far (grown_set w.heap.size i _) ?_).on (grown_drewN (grown_refl _ _) 1), (HA.out.far (grown_set w.heap.size i _) ?_).on (grown_drewN (grown_refl _ _) 1), (HB.out.grown (grown_set w.heap.size i _) ?_).drew⟩
                    · exact fun e => by injection e with e; have := HTN.out; omega
                    · exact fun e => by injection e with e; have := HAN.out; omega
                    · exact fun e => by injection e with e; exact HNE.out e.symm
                  case measure => simp [intOf]; omega
              · have HM := shade (HP.out.miss (fun e => by have := HD.out.2 e; simp at this))
                clear HP HD
                go_wp2_with fail
                go_roundw
                case rel => exact ⟨i + 1, f2, by omega, by go_num, HM.out, HT.out, HA.out, HB.out⟩
                case measure => simp [intOf]; omega
            · have HM := shade (HP.out.hit htn hin (HD.out.1 rfl))
              have HOR := shade (show bits .or .i64 (f2 i : Int) (wrap64 (2 ^ t)) = ((f2 i ||| 2 ^ t : Nat) : Int) from by
                have h40 : 2 ^ t < 2 ^ 63 := Nat.pow_lt_pow_right (by omega) (by omega)
                have h41 : f2 i < 2 ^ 63 := Nat.lt_of_lt_of_le (HP.out.lt i hin) (Nat.pow_le_pow_right (by omega) (by omega))
                rw [show (2 : Int) ^ t = ((2 ^ t : Nat) : Int) by simp, wrap64_63 _ h40, or_nat _ _ h41 h40])
              clear HP HD
              go_wp2_with fail
              go_region_with (fail)
              all_goals
                go_wp2_with fail
                go_roundw
                case rel =>
                  rw [HOR.out]
                  refine ⟨i + 1, _, by omega, by go_num, HM.out.on (grown_drewN (grown_refl _ _) 1), (HT.out.far (grown_set w.heap.size i _) ?_).on (grown_drewN (grown_refl _ _) 1), (HA.out.far (grown_set w.heap.size i _) ?_).on (grown_drewN (grown_refl _ _) 1), (HB.out.grown (grown_set w.heap.size i _) ?_).drew⟩
                  · exact fun e => by injection e with e; have := HTN.out; omega
                  · exact fun e => by injection e with e; have := HAN.out; omega
                  · exact fun e => by injection e with e; exact HNE.out e.symm
                case measure => simp [intOf]; omega
        · have hi2 : i = n := by omega
          subst hi2
          have HN := shade HP.out.next
          clear HP
          go_wp2_with fail
          go_roundw
          case rel => exact ⟨t + 1, f2, by omega, by go_num, HN.out, HT.out⟩
          case measure => simp [intOf]; omega
    · have ht2 : t = n := by omega
      subst ht2
      go_wp2_with fail
      go_ret
      exact HP.out.dts.num (HP.out.done HGX.out)

set_option linter.unusedSimpArgs false
set_option maxHeartbeats 4000000 in
theorem power_nat (n : Nat) (hn : n ≤ 40) (w : World) : Calls Tryd.prog 83 #[.int .i64 (n : Int)] w fun e w' => e = .returned (.int .i64 ((2 ^ n : Nat) : Int)) ∧ w = w' := by
  go_enter Tryd.func83, Tryd.ntmps83
  go_wp2
  go_loopw [0, 3] (fun q o w2 => ∃ (m k : Nat), m + k = n ∧ q = .int .i64 (m : Int) ∧ o = .int .i64 ((2 ^ k : Nat) : Int) ∧ w = w2) (fun q _ _ => (intOf q).toNat)
  case atStart => exact ⟨n, 0, by omega, rfl, rfl, rfl⟩
  case round =>
    obtain ⟨m, k, hmk, rfl, rfl, rfl⟩ := hrel
    rcases m with _ | m
    · obtain rfl : k = n := by omega
      go_wp2
      go_ret
      exact ⟨rfl, rfl⟩
    · have h40 : 2 ^ k ≤ 2 ^ 40 := pow40 (by omega)
      have e1 : ((2 ^ (k + 1) : Nat) : Int) = 2 * ((2 ^ k : Nat) : Int) := by rw [Nat.pow_succ]; omega
      have HE := shade e1
      clear e1
      generalize 2 ^ k = x at *
      have b1 : 0 ≤ 2 * (x : Int) := by omega
      have b2 : 2 * (x : Int) ≤ 9223372036854775807 := by omega
      have b3 : (m : Int) ≤ 40 := by omega
      go_wp2
      go_roundw
      case rel => exact ⟨m, k + 1, by omega, by go_num, by rw [HE.out], trivial⟩
      case measure => simp [intOf]
set_option maxHeartbeats 4000000 in
theorem hasInt_any (A : Option Addr) (K c : Nat) (f : Nat → Int) (x : Int) (w : World) (hK : K ≤ 9223372036854775807) (h : Nums w A K f) :
    Calls Tryd.prog 84 #[.slice A K c, .int .i64 x] w fun e w' => (∃ b : Bool, e = .returned (.bool b) ∧ (b = true ↔ ∃ j, j < K ∧ f j = x)) ∧ w = w' := by
  have H := shade h
  clear h
  go_enter Tryd.func84, Tryd.ntmps84
  go_wp2
  go_loopw [5] (fun q w2 => ∃ k : Nat, k ≤ K ∧ q = .int .i64 (k : Int) ∧ (∀ j, j < k → f j ≠ x) ∧ w = w2) (fun q _ => K - (intOf q).toNat)
  case atStart => exact ⟨0, by omega, rfl, fun j hj => absurd hj (Nat.not_lt_zero j), rfl⟩
  case round =>
    obtain ⟨k, hk, rfl, hne, rfl⟩ := hrel
    have HN := shade hne
    clear hne
    by_cases hkK : k < K
    · rcases H.out with h0 | ⟨b, off, rfl, _, hc⟩
      · omega
      · have s0 := hc k hkK
        clear hc
        by_cases e : f k = x
        · have he : (f k == x) = true := beq_iff_eq.2 e
          have HX := shade (show ∃ j, j < K ∧ f j = x from ⟨k, hkK, e⟩)
          clear e
          go_wp2
          go_ret
          exact ⟨⟨true, rfl, ⟨fun _ => HX.out, fun _ => rfl⟩⟩, rfl⟩
        · have he : (f k == x) = false := beq_eq_false_iff_ne.2 e
          have HX := shade (show ∀ j, j < k + 1 → f j ≠ x from fun j hj => by
            by_cases e' : j = k
            · rw [e']; exact e
            · exact HN.out j (by omega))
          clear e
          go_wp2
          go_roundw
          case rel => exact ⟨k + 1, by omega, by go_num, HX.out, trivial⟩
          case measure => simp [intOf]; omega
    · have e : k = K := by omega
      subst e
      go_wp2
      go_ret
      exact ⟨⟨false, rfl, ⟨(fun e => by cases e), fun ⟨j, hj, hx⟩ => absurd hx (HN.out j hj)⟩⟩, rfl⟩

set_option linter.unusedSimpArgs false
/-- What the sets come to. -/
def tot (f : Nat → Nat) : Nat → Nat
  | 0 => 0
  | k + 1 => tot f k + f k
theorem tot_congr (f g : Nat → Nat) : ∀ k, (∀ x, x < k → f x = g x) → tot f k = tot g k
  | 0, _ => rfl
  | k + 1, h => by
    show tot f k + _ = tot g k + _
    rw [tot_congr f g k (fun x hx => h x (by omega)), h k (Nat.lt_succ_self k)]
theorem tot_set (f : Nat → Nat) (y v : Nat) (hv : v < f y) : ∀ k, y < k → tot (fun x => if x = y then v else f x) k < tot f k
  | 0, h => absurd h (Nat.not_lt_zero y)
  | k + 1, h => by
    show tot _ k + (if k = y then v else f k) < tot f k + f k
    by_cases e : y = k
    · subst e
      rw [tot_congr (fun x => if x = y then v else f x) f y (fun x hx => if_neg (by omega)), if_pos rfl]
      omega
    · have := tot_set f y v hv k (by omega)
      rw [if_neg (fun h => e h.symm)]
      omega
/-- What is on all ways to k, by what is on all ways to those before it. -/
def Ub (F : Nat → Ins) (n : Nat) (thr : Nat → Bool) (f : Nat → Nat) (k s : Nat) : Prop := s = k ∨ ∀ i, i < n → thr i = true → (k : Int) ∈ nxI (F i) i → (f i).testBit s = true
/-- The sets between two passes. -/
structure Psd (F : Nat → Ins) (n : Nat) (thr : Nat → Bool) (w wr : World) (k : Nat) (b : Bool) (f : Nat → Nat) : Prop where
  dts : Dts w wr n f
  lt : ∀ j, j < n → f j < 2 ^ n
  beg : ∀ s, s < n → ((f 0).testBit s = true ↔ s = 0)
  sup : ∀ j s, j < n → s < n → Dom F n s j → (f j).testBit s = true
  post : ∀ j s, 1 ≤ j → j < n → s < n → Ub F n thr f j s → (f j).testBit s = true
  clo : b = false → ∀ j s, 1 ≤ j → j < k → j < n → s < n → (f j).testBit s = true → Ub F n thr f j s
section
variable {F : Nat → Ins} {n k : Nat} {thr : Nat → Bool} {f : Nat → Nat} {w wr wr' : World} {b : Bool}
theorem Psd.on (h : Psd F n thr w wr k b f) (hg : wr.grownBy wr' none) : Psd F n thr w wr' k b f := ⟨h.dts.on hg, h.lt, h.beg, h.sup, h.post, h.clo⟩
theorem Psd.start (h : Psd F n thr w wr k b f) : Psd F n thr w wr 1 false f := ⟨h.dts, h.lt, h.beg, h.sup, h.post, fun _ j s h1 h2 => by omega⟩
theorem Psd.left (h : Psd F n thr w wr k b f) : tot (fun x => (outOf wr w.heap.size x).toNat) n = tot f n := tot_congr _ _ _ (fun x hx => by
  unfold outOf
  rw [h.dts.cell x hx]
  rfl)
theorem Psd.same (h : Psd F n thr w wr k b f) (s : Nat) (hb : ∀ q, q < n → (s.testBit q = true ↔ Ub F n thr f k q)) (e : s = f k) : Psd F n thr w wr (k + 1) b f := ⟨h.dts, h.lt, h.beg, h.sup, h.post, fun hb' j q h1 h2 h3 hq hj => by
  by_cases e' : j = k
  · subst e'
    rw [← e] at hj
    exact (hb q hq).1 hj
  · exact h.clo hb' j q h1 (by omega) h3 hq hj⟩
theorem Ub.mono {F : Nat → Ins} {n : Nat} {thr : Nat → Bool} {f f' : Nat → Nat} {k s : Nat} (h : Ub F n thr f k s) (hf : ∀ i, i < n → (f i).testBit s = true → (f' i).testBit s = true) : Ub F n thr f' k s := by
  rcases h with h | h
  · exact .inl h
  · exact .inr (fun i hi ht hk => hf i hi (h i hi ht hk))
theorem Psd.put (h : Psd F n thr w wr k b f) (hthr : ∀ y, y ≤ n → (thr y = true ↔ Way F n noCut 0 y)) (h1 : 1 ≤ k) (hk : k < n) (s : Nat) (hs : s < 2 ^ n) (hb : ∀ q, q < n → (s.testBit q = true ↔ Ub F n thr f k q)) (e : s ≠ f k) :
    Psd F n thr w (wr.setCell ⟨w.heap.size, k, none⟩ (.int .i64 (s : Int))) (k + 1) true (fun j => if j = k then s else f j) ∧ tot (fun j => if j = k then s else f j) n < tot f n := by
  have hsub : ∀ q, q < n → s.testBit q = true → (f k).testBit q = true := fun q hq hx => h.post k q h1 hk hq ((hb q hq).1 hx)
  have hle : s ≤ f k := by
    have e1 : s &&& f k = s := set_ext (n := n) (Nat.lt_of_le_of_lt Nat.and_le_left hs) hs (fun q hq => by
      rw [Nat.testBit_and]
      cases hx : s.testBit q
      · rfl
      · rw [hsub q hq hx]
        rfl)
    have := @Nat.and_le_right s (f k)
    omega
  refine ⟨⟨h.dts.set k s, fun j hj => ?_, fun q hq => ?_, fun j q hj hq hd => ?_, fun j q h1' hj hq hu => ?_, (fun e => by cases e)⟩, tot_set f k s (by omega) n hk⟩
  · show (if j = k then s else f j) < _
    split
    · exact hs
    · exact h.lt j hj
  · show (if 0 = k then s else f 0).testBit q = true ↔ _
    rw [if_neg (by omega)]
    exact h.beg q hq
  · show (if j = k then s else f j).testBit q = true
    by_cases e' : j = k
    · subst e'
      rw [if_pos rfl, hb q hq]
      by_cases eq : j = q
      · exact .inl eq.symm
      · exact .inr (fun i hi ht hs' => h.sup i q hi hq (hd.back eq hi ((hthr i (by omega)).1 ht) hs'))
    · rw [if_neg e']
      exact h.sup j q hj hq hd
  · have hu' : Ub F n thr f j q := hu.mono (fun i hi hx => by
      have hx' : (if i = k then s else f i).testBit q = true := hx
      by_cases e' : i = k
      · rw [if_pos e'] at hx'
        rw [e']
        exact hsub q hq hx'
      · rw [if_neg e'] at hx'
        exact hx')
    show (if j = k then s else f j).testBit q = true
    by_cases e' : j = k
    · subst e'
      rw [if_pos rfl]
      exact (hb q hq).2 hu'
    · rw [if_neg e']
      exact h.post j q h1' hj hq hu'
theorem Psd.bits (h : Psd F n thr w wr n false f) (hv : vcB n F = true) (hthr : ∀ y, y ≤ n → (thr y = true ↔ Way F n noCut 0 y)) (j s : Nat) (hj : j < n) (hs : s < n) (ht : thr j = true) : (f j).testBit s = true ↔ Dom F n s j := by
  refine ⟨fun hb => ?_, h.sup j s hj hs⟩
  refine ⟨(hthr j (by omega)).1 ht, ?_⟩
  by_cases e : j = s
  · exact .inl e
  · refine .inr (fun hw => ?_)
    have hX := hw (fun z => z = s ∨ z = n ∨ (z < n ∧ Way F n noCut 0 z ∧ (f z).testBit s = false)) (by
      by_cases e0 : 0 = s
      · exact .inl e0
      · refine .inr (.inr ⟨by omega, Way.start _ _ _ _, ?_⟩)
        rw [Bool.eq_false_iff, Ne, h.beg s hs]
        exact fun h => e0 h.symm) (fun x z hx hxn hc hz => by
      have hxs : x ≠ s := fun e' => by
        have hc' : (x == s) = false := hc
        rw [e'] at hc'
        simp at hc'
      rcases hx with hx | hx | ⟨_, hwx, hbx⟩
      · exact absurd hx hxs
      · omega
      · by_cases ez : z = s
        · exact .inl ez
        · obtain ⟨z', hz', hzn⟩ := nx_in hv hxn hz
          by_cases en : z = n
          · exact .inr (.inl en)
          · refine .inr (.inr ⟨by omega, hwx.step hxn rfl hz, ?_⟩)
            rw [Bool.eq_false_iff]
            intro hbz
            by_cases e0 : z = 0
            · subst e0
              exact ez ((h.beg s hs).1 hbz).symm
            · rcases h.clo rfl z s (by omega) (by omega) (by omega) hs hbz with hu | hu
              · exact ez hu.symm
              · rw [hu x hxn ((hthr x (by omega)).2 hwx) hz] at hbx
                cases hbx)
    rcases hX with hX | hX | ⟨_, _, hX⟩
    · exact e hX
    · omega
    · rw [hb] at hX
      cases hX
end
/-- What the first i leave of the set of k. -/
def Tgd (F : Nat → Ins) (n : Nat) (thr : Nat → Bool) (f : Nat → Nat) (k i s : Nat) : Prop := s < 2 ^ n ∧ ∀ q, q < n → (s.testBit q = true ↔ ∀ j, j < i → thr j = true → (k : Int) ∈ nxI (F j) j → (f j).testBit q = true)
section
variable {F : Nat → Ins} {n k i s : Nat} {thr : Nat → Bool} {f : Nat → Nat}
theorem Tgd.start : Tgd F n thr f k 0 (2 ^ n - 1) := ⟨by have := Nat.two_pow_pos n; omega, fun q hq => by
  rw [Nat.testBit_two_pow_sub_one, decide_eq_true hq]
  exact ⟨fun _ j hj => absurd hj (Nat.not_lt_zero j), fun _ => rfl⟩⟩
theorem Tgd.miss (h : Tgd F n thr f k i s) (hm : ¬ (thr i = true ∧ (k : Int) ∈ nxI (F i) i)) : Tgd F n thr f k (i + 1) s := ⟨h.1, fun q hq => by
  rw [h.2 q hq]
  constructor
  · intro hh j hj ht hk
    by_cases e : j = i
    · subst e
      exact absurd ⟨ht, hk⟩ hm
    · exact hh j (by omega) ht hk
  · intro hh j hj
    exact hh j (by omega)⟩
theorem Tgd.hit (h : Tgd F n thr f k i s) (ht : thr i = true) (hk : (k : Int) ∈ nxI (F i) i) : Tgd F n thr f k (i + 1) (s &&& f i) := ⟨Nat.lt_of_le_of_lt Nat.and_le_left h.1, fun q hq => by
  rw [Nat.testBit_and, Bool.and_eq_true, h.2 q hq]
  constructor
  · rintro ⟨h1, h2⟩ j hj ht' hk'
    by_cases e : j = i
    · subst e
      exact h2
    · exact h1 j (by omega) ht' hk'
  · intro hh
    exact ⟨fun j hj => hh j (by omega), hh i (by omega) ht hk⟩⟩
theorem Tgd.done (h : Tgd F n thr f k n s) (hk : k < n) : s ||| 2 ^ k < 2 ^ n ∧ ∀ q, q < n → ((s ||| 2 ^ k).testBit q = true ↔ Ub F n thr f k q) := by
  refine ⟨Nat.or_lt_two_pow h.1 (Nat.pow_lt_pow_right (by omega) hk), fun q hq => ?_⟩
  rw [Nat.testBit_or, Bool.or_eq_true, h.2 q hq, Nat.testBit_two_pow, decide_eq_true_eq]
  unfold Ub
  constructor
  · rintro (h1 | h1)
    · exact .inr h1
    · exact .inl h1.symm
  · rintro (h1 | h1)
    · exact .inr h1.symm
    · exact .inl h1
end

set_option linter.unusedSimpArgs false
theorem doms_begin {F : Nat → Ins} {n al k : Nat} {thr : Nat → Bool} {f : Nat → Nat} {w wr : World} (h1 : 1 ≤ n) (hal : 2 ^ n = al + 1) (h : Dts w wr n f) (hf : ∀ j, j < n → f j = al) :
    Psd F n thr w (wr.setCell ⟨w.heap.size, 0, none⟩ (.int .i64 1)) k true (fun j => if j = 0 then 1 else f j) := by
  have hal2 : al = 2 ^ n - 1 := by omega
  have hbit : ∀ j s, 1 ≤ j → j < n → s < n → ((fun j => if j = 0 then 1 else f j) j).testBit s = true := fun j s h1 hj hs => by
    show (if j = 0 then 1 else f j).testBit s = true
    rw [if_neg (by omega), hf j hj, hal2, Nat.testBit_two_pow_sub_one, decide_eq_true hs]
  have hone : ∀ s, (1 : Nat).testBit s = true ↔ s = 0 := fun s => by
    rw [show (1 : Nat) = 2 ^ 0 from rfl, Nat.testBit_two_pow, decide_eq_true_eq]
    exact eq_comm
  refine ⟨h.set 0 1, fun j hj => ?_, fun s hs => ?_, fun j s hj hs hd => ?_, fun j s h1' hj hs _ => hbit j s h1' hj hs, (fun e => by cases e)⟩
  · show (if j = 0 then 1 else f j) < _
    split
    · exact Nat.one_lt_two_pow (by omega)
    · rw [hf j hj]
      omega
  · show (if 0 = 0 then 1 else f 0).testBit s = true ↔ _
    rw [if_pos rfl]
    exact hone s
  · by_cases e : j = 0
    · subst e
      show (if 0 = 0 then 1 else f 0).testBit s = true
      rw [if_pos rfl, hone]
      rcases hd.2 with e | e
      · exact e.symm
      · exact absurd (Way.start _ _ _ _) e
    · exact hbit j s (by omega) hj hs
theorem getD_mem (l : List Int) (x : Int) : (∃ j, j < l.length ∧ l.getD j 0 = x) ↔ x ∈ l := by
  constructor
  · rintro ⟨j, hj, e⟩
    rw [List.getD_eq_getElem?_getD, List.getElem?_eq_getElem hj] at e
    rw [← e]
    exact List.getElem_mem hj
  · intro h
    obtain ⟨j, hj, e⟩ := List.getElem_of_mem h
    exact ⟨j, hj, by rw [List.getD_eq_getElem?_getD, List.getElem?_eq_getElem hj, e]; rfl⟩
set_option maxRecDepth 100000 in
set_option maxHeartbeats 32000000 in
theorem specDoms_pos (cb co n c : Nat) (F : Nat → Ins) (g : Nat → Nat) (w : World) (hn1 : 1 ≤ n) (hv : vcB n F = true) (h : Code w (some ⟨cb, co, none⟩) n F) (hgx : ∀ k, g k < 2 ^ n ∧ ∀ t, t < n → ((g k).testBit t = true ↔ Dom F n t k)) :
    Calls Tryd.prog 62 #[.slice (some ⟨cb, co, none⟩) n c] w (NumRes n (fun j => (g j : Int)) w) := by
  have hn := vcB_40 hv
  have HV := shade hv
  have H := shade h
  have HGX := shade hgx
  clear h hv hgx
  obtain ⟨i0, hi, hz0, hz1, hz2⟩ := info_parts info3n
  go_enter Tryd.func62, Tryd.ntmps62
  go_wp2_with fail
  refine (power_nat n hn w).mono ?_
  rintro e w1 ⟨rfl, rfl⟩
  obtain ⟨al, hal⟩ : ∃ al, 2 ^ n = al + 1 := ⟨2 ^ n - 1, by have := Nat.two_pow_pos n; omega⟩
  have hal40 : al + 1 ≤ 2 ^ 40 := by rw [← hal]; exact pow40 hn
  rw [hal, show ((al + 1 : Nat) : Int) = (al : Int) + 1 by omega]
  have HAL := shade hal
  clear hal
  go_wp2_with fail
  refine (specReached_any (some ⟨cb, co, none⟩) n c F w HV.out H.out).mono ?_
  rintro e wb ⟨thr, hthr, v, rfl, ho, hgb⟩
  obtain ⟨tb, tc, rfl, -⟩ := row_some ho
  have HT0 := shade (show OwnB wb w.heap.size (some ⟨tb, 0, none⟩) (n + 1) tc thr from ho)
  have HTB := shade (show tb < wb.heap.size from (World.ownsRow.lt ho tb rfl).2)
  have HTW := shade hthr
  have HGB := shade hgb
  clear ho hthr hgb
  go_wp2_with (first
    | (at_make; refine wpList_make_full _ rfl _ _ 35 rfl wb.heap.size 3 i0 (.int .i64 0) 1 Tryd.underlying35 hi hz0 hz1 .i64 .i64 n n n rfl rfl rfl rfl (by rw [hz2]; omega) (by unfold maxLen; omega) (Nat.le_refl _) ?_)
    | go_in)
  intro w2 hown2 hgr2
  simp only [made_nums] at hown2
  have L0 := shade (show Dts wb w2 n (fun _ => 0) from ⟨hown2, hgr2⟩)
  have HT1 := shade (HT0.out.on hgr2)
  clear hown2 hgr2 hi hz0 hz1 hz2 HT0
  go_wp2_with fail
  go_loopw [7] (fun q wr => ∃ (i : Nat) (f : Nat → Nat), i ≤ n ∧ q = .int .i64 (i : Int) ∧ Dts wb wr n f ∧ (∀ j, j < i → f j = al) ∧ OwnB wr w.heap.size (some ⟨tb, 0, none⟩) (n + 1) tc thr) (fun q _ => n - (intOf q).toNat)
  case atStart => exact ⟨0, _, by omega, rfl, L0.out, fun j hj => absurd hj (Nat.not_lt_zero j), HT1.out⟩
  case round =>
    clear L0 HT1
    obtain ⟨i, f, hi, rfl, hp, hf, ht⟩ := hrel
    have HP := shade hp
    have HF := shade hf
    have HT := shade ht
    clear hp hf ht
    by_cases hin : i < n
    · have s0 := HP.out.cell i hin
      have s1 := HP.out.free i
      have HN := shade (HP.out.set i al)
      have HTN := shade (HT.out.far (grown_set wb.heap.size i (.int .i64 (al : Int))) (fun e => by injection e with e; have := HTB.out; omega))
      clear HP HT
      go_wp2_with fail
      try (go_quiet (fail); go_wp2_with fail)
      go_roundw
      case rel => exact ⟨i + 1, _, by omega, by go_num, HN.out, fun j hj => by
        by_cases e : j = i
        · exact if_pos e
        · show (if j = i then al else f j) = al
          rw [if_neg e]
          exact HF.out j (by omega), HTN.out⟩
      case measure => simp [intOf]; omega
    · obtain rfl : n = i := by omega
      have hpos : (0 : Int) < (n : Int) := by omega
      have s0 := HP.out.cell 0 (by omega)
      have s1 := HP.out.free 0
      have HB := shade (doms_begin (F := F) (k := n) (thr := thr) hn1 HAL.out HP.out HF.out)
      have HTN := shade (HT.out.far (grown_set wb.heap.size 0 (.int .i64 1)) (fun e => by injection e with e; have := HTB.out; omega))
      clear HP HF HT
      go_upto_region 11 with (fail)
      obtain ⟨W3, hW3⟩ : ∃ W3, wr.setCell ⟨wb.heap.size, 0, none⟩ (.int .i64 1) = W3 := ⟨_, rfl⟩
      obtain ⟨f1, hf1⟩ : ∃ f1 : Nat → Nat, (fun j => if j = 0 then 1 else f j) = f1 := ⟨_, rfl⟩
      rw [hf1, hW3] at HB
      rw [hW3] at HTN
      rw [hW3]
      have hd : ∀ i : Decidable (0 < n), @decide (0 < n) i = true := fun i => @decide_eq_true _ i hn1
      rw [hd]
      clear hW3 hf1 s0 s1 hd
      go_wp2_with fail
      go_loopw [8] (fun ag wr => ∃ (b : Bool) (f : Nat → Nat), ag = .bool b ∧ Psd F n thr wb wr n b f ∧ OwnB wr w.heap.size (some ⟨tb, 0, none⟩) (n + 1) tc thr) (fun ag wr => 2 * tot (fun x => (outOf wr wb.heap.size x).toNat) n + flagV ag)
      case atStart => exact ⟨true, f1, rfl, HB.out, HTN.out⟩
      case round =>
        clear HB HTN
        obtain ⟨b, f, rfl, hp, ht⟩ := hrel
        have HP := shade hp
        have HT := shade ht
        clear hp ht
        rcases b with _ | _
        · have HBI := shade (fun j s hj hs ht => HP.out.bits HV.out HTW.out j s hj hs ht)
          have HD := shade HP.out.dts
          have HLT := shade HP.out.lt
          clear HP
          go_wp2_with fail
          go_loopw [12] (fun q w2 => ∃ (i : Nat) (f2 : Nat → Nat), i ≤ n ∧ q = .int .i64 (i : Int) ∧ Dts wb w2 n f2 ∧ (∀ j, j < i → f2 j = g j) ∧ (∀ j, i ≤ j → f2 j = f j) ∧ OwnB w2 w.heap.size (some ⟨tb, 0, none⟩) (n + 1) tc thr) (fun q _ => n - (intOf q).toNat)
          case atStart => exact ⟨0, f, by omega, rfl, HD.out, fun j hj => absurd hj (Nat.not_lt_zero j), fun _ _ => rfl, HT.out⟩
          case round =>
            clear HD HT
            obtain ⟨i, f2, hi, rfl, hp, hf, hf2, ht⟩ := hrel
            have HP := shade hp
            have HF := shade hf
            have HF2 := shade hf2
            have HT := shade ht
            clear hp hf hf2 ht
            by_cases hin : i < n
            · have s0 := HT.out.cell i (by omega)
              have s1 := HP.out.free i
              have s2 := HP.out.cell i hin
              rcases hti : thr i with _ | _
              · have HG0 := shade (show g i = 0 from set_ext (HGX.out i).1 (Nat.two_pow_pos n) (fun s hs => by
                  rw [Nat.zero_testBit, Bool.eq_false_iff, Ne, (HGX.out i).2 s hs]
                  intro hd
                  have := (HTW.out i (by omega)).2 hd.1
                  rw [hti] at this
                  cases this))
                rw [hti] at s0
                have HN := shade (HP.out.set i 0)
                have HTN := shade (HT.out.far (grown_set wb.heap.size i (.int .i64 0)) (fun e => by injection e with e; have := HTB.out; omega))
                clear hti HP HT
                go_wp2_with fail
                try (go_quiet (fail); go_wp2_with fail)
                go_roundw
                case rel => exact ⟨i + 1, _, by omega, by go_num, HN.out, fun j hj => by
                  show (if j = i then 0 else f2 j) = g j
                  by_cases e : j = i
                  · rw [if_pos e, e, HG0.out]
                  · rw [if_neg e]
                    exact HF.out j (by omega), fun j hj => by
                  show (if j = i then 0 else f2 j) = f j
                  rw [if_neg (by omega)]
                  exact HF2.out j (by omega), HTN.out⟩
                case measure => simp [intOf]; omega
              · have HG0 := shade (show f2 i = g i from by
                  rw [HF2.out i (Nat.le_refl i)]
                  exact set_ext (HLT.out i hin) (HGX.out i).1 (fun s hs => by rw [Bool.eq_iff_iff, HBI.out i s hin hs hti, (HGX.out i).2 s hs]))
                rw [hti] at s0
                clear hti
                go_wp2_with fail
                try (go_quiet (fail); go_wp2_with fail)
                go_roundw
                case rel => exact ⟨i + 1, f2, by omega, by go_num, HP.out, fun j hj => by
                  by_cases e : j = i
                  · rw [e, HG0.out]
                  · exact HF.out j (by omega), fun j hj => HF2.out j (by omega), HT.out⟩
                case measure => simp [intOf]; omega
            · obtain rfl : n = i := by omega
              go_wp2_with fail
              go_ret
              exact NumRes.behind HGB.out (HP.out.num HF.out)
        · have HQ := shade HP.out.start
          have HLE := shade HP.out.left
          obtain ⟨wo, rfl⟩ : ∃ wo : World, wo = wr := ⟨_, rfl⟩
          clear HP
          go_wp2_with fail
          go_loopw [8, 9] (fun ag q w2 => ∃ (b : Bool) (f2 : Nat → Nat) (k : Nat), 1 ≤ k ∧ k ≤ n ∧ q = .int .i64 (k : Int) ∧ ag = .bool b ∧ Psd F n thr wb w2 k b f2 ∧ OwnB w2 w.heap.size (some ⟨tb, 0, none⟩) (n + 1) tc thr ∧ tot f2 n ≤ tot f n ∧ (b = true → tot f2 n < tot f n)) (fun _ q _ => n - (intOf q).toNat)
          case atStart => exact ⟨false, f, 1, Nat.le_refl _, hn1, rfl, rfl, HQ.out, HT.out, Nat.le_refl _, (fun e => by cases e)⟩
          case round =>
            clear HQ HT
            obtain ⟨b, f2, k, hk1, hk, rfl, rfl, hp, ht, hle, hlt⟩ := hrel
            have HP := shade hp
            have HT := shade ht
            have HLO := shade hle
            have HLT := shade hlt
            clear hp ht hle hlt
            by_cases hkn : k < n
            · have hkk : (k : Int) < (n : Int) := by omega
              obtain ⟨wo2, rfl⟩ : ∃ wo2 : World, wo2 = wr := ⟨_, rfl⟩
              go_wp2_with fail
              go_loopw [10, 11] (fun st q w3 => ∃ (s i : Nat), i ≤ n ∧ q = .int .i64 (i : Int) ∧ st = .int .i64 (s : Int) ∧ Tgd F n thr f2 k i s ∧ Psd F n thr wb w3 k b f2 ∧ OwnB w3 w.heap.size (some ⟨tb, 0, none⟩) (n + 1) tc thr) (fun _ q _ => n - (intOf q).toNat)
              case atStart => exact ⟨al, 0, by omega, rfl, rfl, by
                have h := Tgd.start (F := F) (n := n) (k := k) (thr := thr) (f := f2)
                rw [HAL.out] at h
                exact h, HP.out, HT.out⟩
              case round =>
                clear HP HT
                obtain ⟨s, i, hi, rfl, rfl, htg, hp, ht⟩ := hrel
                have HP := shade hp
                have HT := shade ht
                have HG := shade htg
                clear hp ht htg
                by_cases hin : i < n
                · have s0 := HT.out.cell i (by omega)
                  rcases hti : thr i with _ | _
                  · have HM := shade (HG.out.miss (fun h => by rw [hti] at h; cases h.1))
                    rw [hti] at s0
                    clear hti HG
                    go_wp2_with fail
                    try (go_quiet (fail); go_wp2_with fail)
                    go_roundw
                    case rel => exact ⟨s, i + 1, by omega, by go_num, rfl, HM.out, HP.out, HT.out⟩
                    case measure => simp [intOf]; omega
                  · have HTI := shade hti
                    rw [hti] at s0
                    clear hti
                    have HNX := shade (nextOf_any cb co n c i F wr hn hin (H.out.on (grown_same HGB.out HP.out.dts.low)))
                    have HHI := shade (fun A0 c0 W hN => hasInt_any A0 (nxI (F i) i).length c0 (fun j => (nxI (F i) i).getD j 0) (k : Int) W (by have := nxI_le (F i) i; omega) hN)
                    have HMM := shade (getD_mem (nxI (F i) i) (k : Int))
                    obtain ⟨l0, hl0⟩ : ∃ l0, nxI (F i) i = l0 := ⟨_, rfl⟩
                    rw [hl0] at HNX HHI HMM
                    have HL0 := shade hl0
                    clear hl0
                    go_wp2_with fail
                    refine HNX.out.mono ?_
                    rintro e w5 h5
                    obtain ⟨v0, rfl, hR, hg5⟩ := NumRes.row h5.num
                    obtain ⟨A0, c0, rfl, hN⟩ := hR.nums
                    have HN := shade hN
                    have HP5 := shade (HP.out.on hg5)
                    have HT5 := shade (HT.out.on hg5)
                    clear h5 hR hN hg5 HNX HP HT
                    go_wp2_with fail
                    refine (HHI.out A0 c0 w5 HN.out).mono ?_
                    rintro e w6 ⟨⟨b6, rfl, hb6⟩, rfl⟩
                    have HB6 := shade (hb6.trans HMM.out)
                    clear hb6 HN HHI HMM
                    rcases b6 with _ | _
                    · have HM := shade (HG.out.miss (fun h => by
                        have h2 := h.2
                        rw [HL0.out] at h2
                        have := HB6.out.2 h2
                        cases this))
                      clear HG HB6
                      go_wp2_with fail
                      go_roundw
                      case rel => exact ⟨s, i + 1, by omega, by go_num, rfl, HM.out, HP5.out, HT5.out⟩
                      case measure => simp [intOf]; omega
                    · have HM := shade (HG.out.hit HTI.out (by rw [HL0.out]; exact HB6.out.1 rfl))
                      have s3 := HP5.out.dts.cell i hin
                      have HAND := shade (and_nat s (f2 i) (Nat.lt_of_lt_of_le HG.out.1 (Nat.pow_le_pow_right (by omega) (by omega))) (Nat.lt_of_lt_of_le (HP5.out.lt i hin) (Nat.pow_le_pow_right (by omega) (by omega))))
                      clear HG HB6
                      go_wp2_with fail
                      go_roundw
                      case rel =>
                        rw [HAND.out]
                        exact ⟨_, i + 1, by omega, by go_num, rfl, HM.out, HP5.out, HT5.out⟩
                      case measure => simp [intOf]; omega
                · obtain rfl : n = i := by omega
                  have HS := shade (HG.out.done hkn)
                  have HOR := shade (or_nat s (2 ^ k) (Nat.lt_of_lt_of_le HG.out.1 (Nat.pow_le_pow_right (by omega) (by omega))) (Nat.pow_lt_pow_right (by omega) (by omega)))
                  have HPW := shade (power_nat k (by omega) wr)
                  obtain ⟨s2, hs2⟩ : ∃ s2, s ||| 2 ^ k = s2 := ⟨_, rfl⟩
                  rw [hs2] at HS HOR
                  obtain ⟨pk, hpk⟩ : ∃ pk : Nat, 2 ^ k = pk := ⟨_, rfl⟩
                  rw [hpk] at HPW HOR
                  clear hs2 hpk HG
                  have s0 := HP.out.dts.cell k hkn
                  have s1 := HP.out.dts.free k
                  go_wp2_with fail
                  refine HPW.out.mono ?_
                  rintro e w6 ⟨rfl, rfl⟩
                  have hor := HOR.out
                  clear HPW HOR
                  by_cases e2 : s2 = f2 k
                  · have he : ((s2 : Int) == (f2 k : Int)) = true := beq_iff_eq.2 (by omega)
                    have HN := shade (HP.out.same s2 HS.out.2 e2)
                    clear e2 HP HS
                    go_wp2_with fail
                    go_roundw
                    case rel => exact ⟨b, f2, k + 1, by omega, by omega, by go_num, rfl, HN.out, HT.out, HLO.out, HLT.out⟩
                    case measure => simp [intOf]; omega
                  · have he : ((s2 : Int) == (f2 k : Int)) = false := beq_eq_false_iff_ne.2 (by omega)
                    have HN := shade (HP.out.put HTW.out hk1 hkn s2 HS.out.1 HS.out.2 e2)
                    have HTN := shade (HT.out.far (grown_set wb.heap.size k (.int .i64 (s2 : Int))) (fun e => by injection e with e; have := HTB.out; omega))
                    clear e2 HP HS HT
                    go_wp2_with fail
                    try (go_quiet (fail); go_wp2_with fail)
                    go_roundw
                    case rel =>
                      have h1 := HLO.out
                      have h2 := HN.out.2
                      exact ⟨true, _, k + 1, by omega, by omega, by go_num, rfl, HN.out.1, HTN.out, by omega, fun _ => by omega⟩
                    case measure => simp [intOf]; omega
            · obtain rfl : n = k := by omega
              go_wp2_with fail
              go_roundw
              case rel => exact ⟨b, f2, rfl, HP.out, HT.out⟩
              case measure =>
                have e1 := HP.out.left
                have e2 := HLE.out
                have e3 := HLO.out
                have e4 := HLT.out
                rw [e1, e2]
                rcases b with _ | _
                · simp [flagV]
                  omega
                · have := e4 rfl
                  simp [flagV]
                  omega

set_option linter.unusedSimpArgs false
set_option maxHeartbeats 8000000 in
theorem specDoms_zero (A : Option Addr) (c : Nat) (F : Nat → Ins) (g : Nat → Int) (w : World) (hv : vcB 0 F = true) (h : Code w A 0 F) :
    Calls Tryd.prog 62 #[.slice A 0 c] w (NumRes 0 g w) := by
  have HV := shade hv
  have H := shade h
  clear h hv
  obtain ⟨i0, hi, hz0, hz1, hz2⟩ := info_parts info3n
  go_enter Tryd.func62, Tryd.ntmps62
  go_wp2_with fail
  refine (power_nat 0 (by omega) w).mono ?_
  rintro e w1 ⟨rfl, rfl⟩
  rw [show ((2 ^ 0 : Nat) : Int) = 1 from rfl]
  go_wp2_with fail
  refine (specReached_any A 0 c F w HV.out H.out).mono ?_
  rintro e wb ⟨thr, hthr, v, rfl, ho, hgb⟩
  have HGB := shade hgb
  clear ho hthr hgb
  go_wp2_with (first
    | (at_make; refine wpList_make_full _ rfl _ _ 35 rfl wb.heap.size 3 i0 (.int .i64 0) 1 Tryd.underlying35 hi hz0 hz1 .i64 .i64 0 0 0 rfl rfl rfl rfl (by rw [hz2]; omega) (by unfold maxLen; omega) (Nat.le_refl _) ?_)
    | go_in)
  intro w2 hown2 hgr2
  have HO := shade hown2
  have HG2 := shade hgr2
  clear hown2 hgr2 hi hz0 hz1 hz2
  go_wp2_with fail
  refine wp_loop_rounds 1 ?_
  rw [rounds_succ]
  go_wp2_with fail
  refine wp_loop_rounds 2 ?_
  rw [rounds_succ]
  go_wp2_with fail
  refine wp_loop_rounds 1 ?_
  rw [rounds_succ]
  go_wp2_with fail
  rw [rounds_succ]
  go_wp2_with fail
  refine wp_loop_rounds 1 ?_
  rw [rounds_succ]
  go_wp2_with fail
  go_ret
  refine ⟨_, rfl, ?_, grown_same HGB.out HG2.out⟩
  have := World.ownsRow.mono HO.out HGB.out.size
  simpa [numL, made_nums] using this
/-- DomsOf and its model give the same sets. -/
theorem doms_told (n : Nat) (F : Nat → Ins) (hn : n ≤ 9223372036854775807) :
    ∃ (K : Nat) (f : Nat → Int), K ≤ 300 ∧ (∀ (A : Option Addr) (c : Nat) (W : World), Code W A n F → Calls Tryd.prog 27 #[.slice A n c] W (NumRes K f W)) ∧
      (∀ (A : Option Addr) (c : Nat) (W : World), WT W → Code W A n F → Calls Tryd.prog 28 #[.slice A n c] W (NumRes K f W)) ∧
      ((vcB n F = false ∧ K = 0) ∨ (vcB n F = true ∧ K = n ∧ ∃ g : Nat → Nat, (∀ j, f j = (g j : Int)) ∧ ∀ k, g k < 2 ^ n ∧ ∀ t, t < n → ((g k).testBit t = true ↔ Dom F n t k))) := by
  rcases hv : vcB n F with _ | _
  · refine ⟨0, fun _ => 0, by omega, fun A c W hC => ?_, fun A c W hg hC => ?_, .inl ⟨rfl, rfl⟩⟩
    · have HV := shade (validCode_any A n c F W hn hC)
      rw [hv] at HV
      clear hv hC
      go_enter Tryd.func27, Tryd.ntmps27
      go_wp2_with fail
      refine HV.out.mono ?_
      rintro e w1 ⟨rfl, hgr⟩
      have HR := shade hgr
      clear hgr HV
      go_wp2_with fail
      go_ret
      exact ⟨_, rfl, World.ownsRow_nil _ _ _ _, HR.out⟩
    · have HV := shade (ValidCode_any A n c F W hg hn hC)
      rw [hv] at HV
      clear hv hC hg
      go_enter Tryd.func28, Tryd.ntmps28
      go_wp2_with fail
      refine HV.out.mono ?_
      rintro e w1 ⟨rfl, hgr⟩
      have HR := shade hgr
      clear hgr HV
      go_wp2_with fail
      go_ret
      exact ⟨_, rfl, World.ownsRow_nil _ _ _ _, HR.out⟩
  · have hn40 := vcB_40 hv
    obtain ⟨g, hgx⟩ := dom_sets F n
    have HGX := shade hgx
    have HVT := shade hv
    clear hgx
    have HSD := shade (show ∀ (A : Option Addr) (c : Nat) (W : World), Code W A n F → Calls Tryd.prog 62 #[.slice A n c] W (NumRes n (fun j => (g j : Int)) W) from fun A c W hC => by
      by_cases h0 : n = 0
      · subst h0
        exact specDoms_zero A c F _ W HVT.out hC
      · obtain ⟨b, off, rfl, -⟩ := hC.resolve_left h0
        exact specDoms_pos b off n c F g W (by omega) HVT.out hC HGX.out)
    refine ⟨n, fun j => (g j : Int), by omega, fun A c W hC => ?_, fun A c W hg hC => ?_, .inr ⟨rfl, rfl, g, fun _ => rfl, HGX.out⟩⟩
    · have HV := shade (validCode_any A n c F W hn hC)
      rw [hv] at HV
      have HC := shade hC
      clear hv hC
      go_enter Tryd.func27, Tryd.ntmps27
      go_wp2_with fail
      refine HV.out.mono ?_
      rintro e w1 ⟨rfl, hgr⟩
      have HR := shade hgr
      clear hgr HV
      go_wp2_with fail
      refine (HSD.out A c w1 (HC.out.on HR.out)).mono ?_
      rintro e w2 h5
      obtain ⟨v, rfl, ho, hg2⟩ := h5
      have HO := shade (NumRes.behind HR.out (show NumRes n (fun j => (g j : Int)) w1 (.returned v) w2 from ⟨v, rfl, ho, hg2⟩))
      clear ho hg2
      go_wp2_with fail
      go_ret
      exact HO.out
    · have HV := shade (ValidCode_any A n c F W hg hn hC)
      rw [hv] at HV
      have HC := shade hC
      have HG := shade hg
      clear hv hC hg
      go_enter Tryd.func28, Tryd.ntmps28
      go_wp2_with fail
      refine HV.out.mono ?_
      rintro e w1 ⟨rfl, hgr⟩
      have HR := shade hgr
      clear hgr HV
      go_wp2_with fail
      refine (doms_any A n c F g w1 HVT.out (HG.out.below (below_of_grown HR.out) (wt_lt HG.out)) (HC.out.on HR.out) HGX.out).mono ?_
      rintro e w2 h5
      obtain ⟨v, rfl, ho, hg2⟩ := h5
      have HO := shade (NumRes.behind HR.out (show NumRes n (fun j => (g j : Int)) w1 (.returned v) w2 from ⟨v, rfl, ho, hg2⟩))
      clear ho hg2
      go_wp2_with fail
      go_ret
      exact HO.out
end Go.Proofs.YtbfgmmljegdbfaaDoor

namespace Go.Proofs.YtbfgmmljegdbfaaDoor
open Go.RowKit Go.Shelf
set_option linter.unusedSimpArgs false
set_option maxHeartbeats 4000000 in
theorem lpower_nat (n : Nat) (hn : n ≤ 40) (w : World) : Calls Tryd.prog 34 #[.int .i64 (n : Int)] w fun e w' => e = .returned (.int .i64 ((2 ^ n : Nat) : Int)) ∧ w = w' := by
  go_enter Tryd.func34, Tryd.ntmps34
  go_wp2
  go_loopw [0, 3] (fun q o w2 => ∃ (m k : Nat), m + k = n ∧ q = .int .i64 (m : Int) ∧ o = .int .i64 ((2 ^ k : Nat) : Int) ∧ w = w2) (fun q _ _ => (intOf q).toNat)
  case atStart => exact ⟨n, 0, by omega, rfl, rfl, rfl⟩
  case round =>
    obtain ⟨m, k, hmk, rfl, rfl, rfl⟩ := hrel
    rcases m with _ | m
    · obtain rfl : k = n := by omega
      go_wp2
      go_ret
      exact ⟨rfl, rfl⟩
    · have h40 : 2 ^ k ≤ 2 ^ 40 := pow40 (by omega)
      have e1 : ((2 ^ (k + 1) : Nat) : Int) = 2 * ((2 ^ k : Nat) : Int) := by rw [Nat.pow_succ]; omega
      have HE := shade e1
      clear e1
      generalize 2 ^ k = x at *
      have b1 : 0 ≤ 2 * (x : Int) := by omega
      have b2 : 2 * (x : Int) ≤ 9223372036854775807 := by omega
      have b3 : (m : Int) ≤ 40 := by omega
      go_wp2
      go_roundw
      case rel => exact ⟨m, k + 1, by omega, by go_num, by rw [HE.out], trivial⟩
      case measure => simp [intOf]

set_option maxHeartbeats 4000000 in
theorem lbit_nat (x j : Nat) (hx : x < 2 ^ 62) (hj : j ≤ 40) (w : World) : Calls Tryd.prog 35 #[.int .i64 (x : Int), .int .i64 (j : Int)] w fun e w' => e = .returned (.int .i64 ((x / 2 ^ j % 2 : Nat) : Int)) ∧ w = w' := by
  have HP := shade (lpower_nat j hj w)
  have h40 : 2 ^ j ≤ 2 ^ 40 := pow40 hj
  have h0 : 0 < 2 ^ j := Nat.two_pow_pos j
  obtain ⟨p, hp⟩ : ∃ p : Nat, 2 ^ j = p := ⟨_, rfl⟩
  rw [hp] at HP h40 h0 ⊢
  clear hp
  have e0 : ((p : Int) == 0) = false := beq_eq_false_iff_ne.2 (by omega)
  have e1 : Int.tdiv (x : Int) (p : Int) = ((x / p : Nat) : Int) := rfl
  have e2 : Int.tmod ((x / p : Nat) : Int) 2 = ((x / p % 2 : Nat) : Int) := rfl
  have e3 : x / p ≤ x := Nat.div_le_self x p
  go_enter Tryd.func35, Tryd.ntmps35
  go_wp2_with fail
  refine HP.out.mono ?_
  rintro e w1 ⟨rfl, rfl⟩
  go_wp2_with fail
  go_ret
  refine ⟨?_, rfl⟩
  rw [show wrap64 ((x : Int) / (p : Int)) = ((x / p : Nat) : Int) from wrap64_63 (x / p) (by omega), e2]
  rfl
/-- What a trace of a tried machine tells of what is on all ways. -/
theorem trace_doms (n : Nat) (F : Nat → Ins) (t : Int) (hv : vcB n F = true) :
    ∃ (K : Nat) (g : Nat → Sta), K ≤ 300 ∧ (∀ (A : Option Addr) (cap : Nat) (A1 : Option Addr) (c1 : Nat) (A2 : Option Addr) (c2 : Nat) (W : World), WT W → Code W A n F → Nums W A1 4 (trR t) → Nums W A2 8 (trM t) → Calls Tryd.prog 24 #[.slice A n cap, MV 0 A1 4 c1 A2 8 c2, .int .i64 40] W (NumRes K (fun j => (g j).at') W)) ∧
      (∀ j, j < K → ∃ x : Nat, (g j).at' = x ∧ x < n ∧ Way F n noCut 0 x ∧ ∀ s : Nat, Dom F n s x → ∃ i, i ≤ j ∧ (g i).at' = (s : Int)) := by
  have hn := vcB_40 hv
  obtain ⟨K, g, hK, hRun, hcase⟩ := run_told n F 0 4 8 (trR t) (trM t) 40 (by omega)
  refine ⟨K, g, hK, fun A cap A1 c1 A2 c2 W hg hC h1 h2 => ?_, ?_⟩
  · exact TraceOf_res A n cap 0 A1 4 c1 A2 8 c2 40 K g W hK fun W' hW => hRun A cap A1 c1 A2 c2 W' (hg.below (below_of_grown hW) (wt_lt hg)) (hC.on hW) (h1.on hW) (h2.on hW)
  · rcases hcase with ⟨hr, h0⟩ | ⟨hr, _, _, rfl, hre⟩
    · intro j hj
      omega
    · obtain ⟨_, hm, _, _⟩ := runB_parts hr
      have hok : ∀ j, j < K → OkS (sN F ⟨0, trR t, trM t⟩ j) := fun j hj => (okS_of hm).run hv j (fun i hi => hre.go i (by omega))
      have hmain : ∀ j, j < K → ∃ x : Nat, (sN F ⟨0, trR t, trM t⟩ j).at' = x ∧ x < n ∧ Way F n noCut 0 x ∧ ∀ s : Nat, (∀ i, i < j → (sN F ⟨0, trR t, trM t⟩ i).at' ≠ (s : Int)) → Way F n (cutAt s) 0 x := by
        intro j
        induction j with
        | zero =>
          intro h0
          have hlt := (halt_parts (hre.go 0 (by omega))).1
          exact ⟨0, rfl, by have h : (sN F ⟨0, trR t, trM t⟩ 0).at' = 0 := rfl; rw [h] at hlt; simpa using hlt, Way.start _ _ _ _, fun s _ => Way.start _ _ _ _⟩
        | succ j ih =>
          intro hj
          obtain ⟨x, hx, hxn, hw, hs⟩ := ih (by omega)
          have hin := sNext_in hv (hok j (by omega)) (hre.go j (by omega))
          have hlt := (halt_parts (hre.go j (by omega))).1
          have hlt2 := (halt_parts (hre.go (j + 1) (by omega))).1
          have hx' : (sN F ⟨0, trR t, trM t⟩ j).at' = (x : Int) := hx
          rw [hx', Int.toNat_natCast] at hin hlt
          obtain ⟨y, hy, hyn⟩ := nx_in hv hlt hin
          have hy' : (sN F ⟨0, trR t, trM t⟩ (j + 1)).at' = (y : Int) := hy
          rw [hy', Int.toNat_natCast] at hlt2
          rw [hy] at hin
          refine ⟨y, hy, hlt2, hw.step hlt rfl hin, fun s hall => (hs s (fun i hi => hall i (by omega))).step hlt ?_ hin⟩
          show (x == s) = false
          refine beq_eq_false_iff_ne.2 (fun e => hall j (Nat.lt_succ_self j) ?_)
          rw [hx', e]
      intro j hj
      obtain ⟨x, hx, hxn, hw, hs⟩ := hmain j hj
      refine ⟨x, hx, hxn, hw, fun s hd => ?_⟩
      rcases hd.2 with e | e
      · exact ⟨j, Nat.le_refl j, by rw [← e]; exact hx⟩
      · apply Classical.byContradiction
        intro hno
        exact e (hs s (fun i hi e' => hno ⟨i, by omega, e'⟩))
/-- What is seen of the first j. -/
def Seen (at' : Nat → Int) (n j s : Nat) : Prop := s < 2 ^ n ∧ ∀ q, q < n → (s.testBit q = true ↔ ∃ i, i < j ∧ at' i = (q : Int))
theorem Seen.start (at' : Nat → Int) (n : Nat) : Seen at' n 0 0 := ⟨Nat.two_pow_pos n, fun q _ => by
  rw [Nat.zero_testBit]
  constructor
  · intro e
    cases e
  · rintro ⟨i, hi, _⟩
    omega⟩
theorem Seen.next {at' : Nat → Int} {n j s : Nat} (h : Seen at' n j s) (x : Nat) (hx : at' j = (x : Int)) (hxn : x < n) : Seen at' n (j + 1) (s ||| 2 ^ x) := ⟨Nat.or_lt_two_pow h.1 (Nat.pow_lt_pow_right (by omega) hxn), fun q hq => by
  rw [Nat.testBit_or, Bool.or_eq_true, h.2 q hq, Nat.testBit_two_pow, decide_eq_true_eq]
  constructor
  · rintro (⟨i, hi, e⟩ | e)
    · exact ⟨i, by omega, e⟩
    · exact ⟨j, by omega, by rw [hx, e]⟩
  · rintro ⟨i, hi, e⟩
    by_cases e' : i = j
    · rw [e', hx] at e
      exact .inr (by omega)
    · exact .inl ⟨i, by omega, e⟩⟩
theorem and_sub {n a b : Nat} (ha : a < 2 ^ n) (h : ∀ q, q < n → a.testBit q = true → b.testBit q = true) : a &&& b = a := set_ext (n := n) (Nat.lt_of_le_of_lt Nat.and_le_left ha) ha (fun q hq => by
  rw [Nat.testBit_and]
  cases hx : a.testBit q
  · rfl
  · rw [h q hq hx]
    rfl)
theorem bit_one {a j : Nat} (h : a.testBit j = true) : a / 2 ^ j % 2 = 1 := by
  rw [Nat.testBit_eq_decide_div_mod_eq, decide_eq_true_eq] at h
  exact h
end Go.Proofs.YtbfgmmljegdbfaaDoor

namespace Go.Proofs.YtbfgmmljegdbfaaDoor
open Go.RowKit Go.Shelf
set_option linter.unusedSimpArgs false
set_option maxRecDepth 100000 in
set_option maxHeartbeats 4000000 in
theorem DrawDomsOf_any (A : Option Addr) (n cap : Nat) (zs : List Int) (w : World) (h : Bys w A n cap zs) :
    Calls Tryd.prog 32 #[.slice A n cap] w (DrwC w) := by
  have HN := shade (newReader_any A n cap zs w h)
  clear h
  go_enter Tryd.func32, Tryd.ntmps32
  go_wp2_with fail
  refine HN.out.mono ?_
  rintro e w1 ⟨m, rfl, hR, hb1⟩
  have HG1 := shade (grown_of_below hb1)
  have HR1 := shade hR
  clear hb1 hR HN
  go_wp2_with fail
  refine (someCode_rd HR1.out (by omega)).mono ?_
  rintro e w2 ⟨g', k, c, f, rfl, hk, hC, hG, hg', q, hq, hR⟩
  have HG2 := shade (grown_row HG1.out hG (fun j e => by injection e; omega))
  have HC2 := shade hC
  clear hC hG hR HR1 HG1
  go_wp2_with fail
  go_ret
  exact ⟨_, k, c, f, rfl, hk, HC2.out, HG2.out⟩
theorem equalIntsD_rows (lo1 hi1 lo2 hi2 K : Nat) (v1 v2 : Value) (f : Nat → Int) (w : World) (hK : K ≤ 300) (h1 : RowO w lo1 hi1 3 v1 K (numL K f)) (h2 : RowO w lo2 hi2 3 v2 K (numL K f)) :
    Calls Tryd.prog 33 #[v1, v2] w fun e w' => e = .returned (.bool true) ∧ w.grownBy w' none := by
  obtain ⟨A1, c1, rfl, hn1⟩ := h1.nums
  obtain ⟨A2, c2, rfl, hn2⟩ := h2.nums
  refine (equalInts_any A1 A2 c1 c2 K f f w (by omega) hn1 hn2 (fun _ _ => rfl)).mono ?_
  rintro e w' ⟨rfl, m, rfl⟩
  exact ⟨rfl, grown_drewN (grown_refl _ _) _⟩
set_option maxRecDepth 100000 in
set_option maxHeartbeats 16000000 in
theorem fnDomsOf_walk (A : Option Addr) (n cap : Nat) (zs : List Int) (w : World) (hg : WT w) (hB : Bys w A n cap zs) :
    Calls Tryd.prog 6 #[.slice A n cap] w fun e w' => e = .returned (.bool true) ∧ Below w.heap.size w w' := by
  have HG := shade hg
  have HBy := shade hB
  have hcap := hB.fits
  have hbig := hB.big
  unfold maxLen at hbig
  clear hg hB
  by_cases hl : 1048576 < n
  · go_enter Tryd.func6, Tryd.ntmps6
    go_wp2_with fail
    go_ret
    exact ⟨rfl, rfl, rfl, rfl, Nat.le_refl _, fun _ _ => rfl⟩
  · have HD := shade (DrawDomsOf_any A n cap zs w HBy.out)
    go_enter Tryd.func6, Tryd.ntmps6
    go_wp2_with fail
    refine HD.out.mono ?_
    rintro e w1 ⟨Al, k, c, F, rfl, hk, hC, hgr⟩
    obtain ⟨K, f, hK, HSp, HIm, hcase⟩ := doms_told k F (by omega)
    have HSP := shade HSp; have HIM := shade HIm; have HCA := shade hcase
    have HC := shade hC
    have HL := shade hgr
    clear HSp HIm hcase hC hgr HD
    go_wp2_with fail
    refine (HIM.out _ _ _ (HG.out.below (below_of_grown HL.out) (wt_lt HG.out)) HC.out).mono ?_
    rintro e w2 h5
    obtain ⟨v5, rfl, hR, hgr⟩ := NumRes.row h5
    have HN2 := shade hR
    obtain ⟨A5, c5, rfl, hN⟩ := hR.nums
    have HC2 := shade (HC.out.on hgr); have HL2 := shade (grown_same HL.out hgr); have HV2 := shade hN
    clear hgr hR hN h5 HC HL
    go_wp2_with fail
    refine (HSP.out _ _ _ HC2.out).mono ?_
    rintro e w3 h5
    obtain ⟨v1, rfl, hR, hgr⟩ := NumRes.row h5
    have HC3 := shade (HC2.out.on hgr); have HL3 := shade (grown_same HL2.out hgr); have HV3 := shade (nums_on HV2.out hgr); have HW3 := shade hR; have HN3 := shade (HN2.out.grown hgr)
    clear hgr hR h5 HC2 HL2 HV2 HN2
    go_wp2_with fail
    refine (equalIntsD_rows _ _ _ _ _ _ _ _ _ hK HN3.out HW3.out).mono ?_
    rintro e w4 ⟨rfl, hgr⟩
    have HC4 := shade (HC3.out.on hgr); have HL4 := shade (grown_same HL3.out hgr); have HV4 := shade (nums_on HV3.out hgr); have HN4 := shade (HN3.out.grown hgr)
    clear hgr HC3 HL3 HV3 HW3 HN3
    by_cases h0 : K = 0
    · have h0b : ((K : Int) == 0) = true := by rw [h0]; rfl
      clear h0
      go_wp2_with fail
      refine (HSP.out _ _ _ HC4.out).mono ?_
      rintro e w5 h5
      obtain ⟨v2, rfl, hR, hgr⟩ := NumRes.row h5
      have HL5 := shade (grown_same HL4.out hgr); have HV5 := shade (HN4.out.grown hgr); have HW5 := shade hR
      clear hgr hR h5
      go_wp2_with fail
      refine (equalIntsD_rows _ _ _ _ _ _ _ _ _ hK HV5.out HW5.out).mono ?_
      rintro e w6 ⟨rfl, hgr⟩
      have HL6 := shade (grown_same HL5.out hgr)
      clear hgr
      go_wp2_with fail
      go_ret
      exact ⟨rfl, below_of_grown HL6.out⟩
    · have h0b : ((K : Int) == 0) = false := by rw [beq_eq_false_iff_ne]; omega
      obtain ⟨hv, hKk, g, hfg, hgx⟩ := HCA.out.resolve_left (fun h => h0 h.2)
      obtain rfl : f = fun j => (g j : Int) := funext hfg
      have HVT := shade hv; have HGX := shade hgx
      obtain ⟨b5, o5, rfl, -⟩ := HV4.out.resolve_left h0
      have hKk2 := hKk.symm
      subst hKk2
      have hk0 : 1 ≤ k := by omega
      obtain ⟨K9, thr, hK9, -, HIm9, hcase9⟩ := reach_both k F (by omega)
      obtain ⟨-, hK9k, hthr⟩ := hcase9.resolve_left (fun h => by rw [hv] at h; cases h.1)
      subst hK9k
      have HRE := shade HIm9; have HTH := shade hthr
      clear HN4 HSP HIM HCA hv hgx hfg h0 HIm9 hcase9 hthr hK9 hKk
      go_wp2_with fail
      refine (HRE.out _ _ _ (HG.out.below (below_of_grown HL4.out) (wt_lt HG.out)) HC4.out).mono ?_
      rintro e w5 h5
      obtain ⟨v9, rfl, hR, hgr⟩ := MarkRes.row h5
      obtain ⟨A9, c9, rfl, hN9⟩ := hR.bols
      obtain ⟨b9, o9, rfl, -⟩ := hN9.resolve_left (by omega)
      have HB5 := shade hN9
      have HC5 := shade (HC4.out.on hgr); have HL5 := shade (grown_same HL4.out hgr); have HV5 := shade (nums_on HV4.out hgr)
      clear hgr hR h5 hN9 HRE HC4 HL4 HV4
      go_wp2_with fail
      go_loopw [6] (fun r wr => ∃ q : Nat, q ≤ 3 ∧ r = .int .i64 (4 * (q : Int)) ∧ w5.grownBy wr none) (fun r _ => 12 - (intOf r).toNat)
      case atStart => exact ⟨0, by omega, rfl, grown_refl _ _⟩
      case round =>
        obtain ⟨q, hq, rfl, hgw⟩ := hrel
        have HGW := shade hgw
        clear hgw
        by_cases hq3 : q < 3
        · obtain ⟨K2, gs, hK2, HTr, hway⟩ := trace_doms k F (4 * (q : Int)) HVT.out
          have HTRI := shade (fun W => trial_any (4 * (q : Int)) (by omega) W)
          have HTR := shade HTr
          have HWAY := shade hway
          clear HTr hway
          go_wp2_with fail
          refine (HTRI.out _).mono ?_
          rintro e w6 ⟨g1, d1, g2, d2, rfl, hne, ho1, ho2, hgr⟩
          have HG5 := shade (grown_same HGW.out hgr)
          have HO1 := shade ho1.nums; have HO2 := shade ho2.nums
          clear hgr ho1 ho2 HTRI HGW hne
          go_wp2_with fail
          refine (HTR.out _ _ _ _ _ _ _ (HG.out.below (below_of_grown (grown_same HL5.out HG5.out)) (wt_lt HG.out)) (HC5.out.on HG5.out) HO1.out HO2.out).mono ?_
          rintro e w7 h6
          obtain ⟨A6, c6, rfl, hN6, hgr⟩ := h6.num
          have HG6 := shade (grown_same HG5.out hgr)
          have HN6 := shade hN6
          have HV6 := shade (nums_on HV5.out (grown_same HG5.out hgr))
          clear h6 hN6 hgr HO1 HO2 HTR HG5
          obtain ⟨wo, rfl⟩ : ∃ wo : World, wo = wr := ⟨_, rfl⟩
          go_wp2_with fail
          go_loopw [8, 9] (fun sv r w8 => ∃ j s m : Nat, j ≤ K2 ∧ r = .int .i64 (j : Int) ∧ sv = .int .i64 (s : Int) ∧ Seen (fun j => (gs j).at') k j s ∧ w8 = w7.drewN m) (fun _ r _ => K2 - (intOf r).toNat)
          case atStart => exact ⟨0, 0, 0, Nat.zero_le _, rfl, rfl, Seen.start _ _, rfl⟩
          case round =>
            obtain ⟨j, s, m, hj, rfl, rfl, hse, rfl⟩ := hrel
            have HSE := shade hse
            clear hse
            by_cases hjK : j < K2
            · obtain ⟨b6, o6, rfl, -⟩ := HN6.out.resolve_left (by omega)
              have y0 := HN6.out.cell hjK
              obtain ⟨x, hx, hxk, hw, hd⟩ := HWAY.out j hjK
              simp only [hx] at y0
              have s0 := HV6.out.cell (show x < k by omega)
              have HSN := shade (HSE.out.next x hx hxk)
              have HPW := shade (fun W => lpower_nat x (by omega) W)
              have HOR := shade (or_nat s (2 ^ x) (Nat.lt_of_lt_of_le HSE.out.1 (Nat.pow_le_pow_right (by omega) (by omega))) (Nat.pow_lt_pow_right (by omega) (by omega)))
              have HAND := shade (show bits .and .i64 (g x : Int) ((s ||| 2 ^ x : Nat) : Int) = (g x : Int) from by
                rw [and_nat _ _ (Nat.lt_of_lt_of_le (HGX.out x).1 (Nat.pow_le_pow_right (by omega) (by omega))) (Nat.lt_of_lt_of_le HSN.out.1 (Nat.pow_le_pow_right (by omega) (by omega))), and_sub (HGX.out x).1 (fun q hq hb => by
                  obtain ⟨i, hi, e⟩ := hd q (((HGX.out x).2 q hq).1 hb)
                  exact (HSN.out.2 q hq).2 ⟨i, by omega, e⟩)])
              obtain ⟨s2, hs2⟩ : ∃ s2, s ||| 2 ^ x = s2 := ⟨_, rfl⟩
              rw [hs2] at HSN HOR HAND
              obtain ⟨px, hpx⟩ : ∃ px : Nat, 2 ^ x = px := ⟨_, rfl⟩
              rw [hpx] at HPW HOR
              clear hx hw hd hs2 hpx HSE
              generalize g x = gx at *
              go_wp2_with fail
              refine (HPW.out _).mono ?_
              rintro e w9 ⟨rfl, rfl⟩
              have hor := HOR.out
              have hand := HAND.out
              clear HPW HOR HAND
              go_wp2_with fail
              try (go_quiet (fail); go_wp2_with fail)
              go_roundw
              case rel => exact ⟨j + 1, s2, _, by omega, by go_num, rfl, HSN.out, rfl⟩
              case measure => simp [intOf]; omega
            · obtain rfl : j = K2 := by omega
              have HG7 := shade (grown_drewN HG6.out m)
              go_wp2_with fail
              go_roundw
              case rel => exact ⟨q + 1, (show q + 1 ≤ 3 by omega), congrArg (Value.int .i64) (show (4 * (q : Int) + 4) = 4 * ((q + 1 : Nat) : Int) by omega), HG7.out⟩
              case measure => simp [intOf]; omega
        · obtain rfl : q = 3 := by omega
          rw [show (4 : Int) * ((3 : Nat) : Int) = 12 from rfl]
          obtain ⟨wo, rfl⟩ : ∃ wo : World, wo = wr := ⟨_, rfl⟩
          go_wp2_with fail
          go_loopw [10] (fun r w8 => ∃ i : Nat, i ≤ k ∧ r = .int .i64 (i : Int) ∧ w5.grownBy w8 none) (fun r _ => k - (intOf r).toNat)
          case atStart => exact ⟨0, Nat.zero_le _, rfl, HGW.out⟩
          case round =>
            clear HGW
            obtain ⟨i, hi, rfl, hgw⟩ := hrel
            have HGW := shade hgw
            clear hgw
            by_cases hik : i < k
            · have s0 := (bols_on HB5.out HGW.out).cell (show i < k + 1 by omega)
              have s1 := (nums_on HV5.out HGW.out).cell hik
              have HGN := shade (fun m => grown_drewN HGW.out m)
              rcases hti : thr i with _ | _
              · have hg0 : g i = 0 := set_ext (HGX.out i).1 (Nat.two_pow_pos k) (fun s hs => by
                  rw [Nat.zero_testBit, Bool.eq_false_iff, Ne, (HGX.out i).2 s hs]
                  intro hd
                  have := (HTH.out i (by omega)).2 hd.1
                  rw [hti] at this
                  cases this)
                rw [hti] at s0
                simp only [hg0] at s1
                clear hti hg0
                go_wp2_with fail
                go_quiet (fail)
                go_wp2_with fail
                go_roundw
                case rel => exact ⟨i + 1, by omega, by go_num, HGN.out _⟩
                case measure => simp [intOf]; omega
              · have hwi := (HTH.out i (by omega)).1 hti
                have hb1 := bit_one (((HGX.out i).2 i hik).2 ⟨hwi, .inl rfl⟩)
                have hb0 := bit_one (((HGX.out i).2 0 (by omega)).2 ⟨hwi, by
                  by_cases e : i = 0
                  · exact .inl e
                  · refine .inr (fun hc => ?_)
                    exact e (hc (fun z => z = 0) rfl (fun x z hx _ hcx _ => by
                      have h0' : (x == 0) = false := hcx
                      rw [hx] at h0'
                      cases h0'))⟩)
                have hlt := Nat.lt_of_lt_of_le (HGX.out i).1 (Nat.pow_le_pow_right (show 0 < 2 by omega) (show k ≤ 62 by omega))
                have HBI := shade (fun W => by
                  have h := lbit_nat (g i) i hlt (by omega) W
                  rw [hb1] at h
                  exact h)
                have HB0 := shade (fun W => by
                  have h := lbit_nat (g i) 0 hlt (by omega) W
                  rw [hb0] at h
                  exact h)
                have hpos : (0 : Int) < (g i : Int) := by
                  rcases Nat.eq_zero_or_pos (g i) with e | e
                  · rw [e] at hb0
                    simp at hb0
                  · omega
                rw [hti] at s0
                clear hti hwi hb1 hb0 hlt
                have HBB := shade (show ∀ (j : Int), (j = (i : Int) ∨ j = 0) → ∀ W, Calls Tryd.prog 35 #[.int .i64 (g i : Int), .int .i64 j] W fun e w' => e = .returned (.int .i64 1) ∧ W = w' from fun j hj W => by
                  rcases hj with rfl | rfl
                  · exact HBI.out W
                  · exact HB0.out W)
                clear HBI HB0
                have i0 : (0 : Int) ≤ (i : Int) := by omega
                have i1 : (i : Int) < (k : Int) := by omega
                have i2 : (i : Int) < (k : Int) + 1 := by omega
                have i3 : (i : Int) ≤ (k : Int) := by omega
                have i4 : (i : Int) < ((k + 1 : Nat) : Int) := by omega
                have hpos2 : 0 < g i := by omega
                generalize g i = gi at *
                go_wp2_with fail
                go_region_held3 (fun w' => w'.cell? ⟨b9, o9 + i, none⟩ = some (.bool true) ∧ w'.cell? ⟨b5, o5 + i, none⟩ = some (.int .i64 (gi : Int))) (exact ⟨s0, s1⟩) (first | (go_at_call 35; refine (HBB.out _ (by first | exact .inl rfl | exact .inr rfl) _).mono ?_; rintro e w' ⟨rfl, rfl⟩))
                go_wp2_with fail
                go_roundw
                case rel => exact ⟨i + 1, by omega, by go_num, HGN.out _⟩
                case measure => simp [intOf]; omega
            · obtain rfl : i = k := by omega
              have HL9 := shade (grown_same HL5.out HGW.out)
              go_wp2_with fail
              go_ret
              exact ⟨rfl, below_of_grown HL9.out⟩
end Go.Proofs.YtbfgmmljegdbfaaDoor

namespace Go.Proofs.YtbfgmmljegdbfaaDoor
open Go.ChangeShapes Go.WideShapes Go.ChangeAt Go.WideMaps Go.WideElems Go.RowKit

set_option maxRecDepth 100000 in
theorem fnDomsOf_lifted (os : Os) (started : os.Started) (H : Type) (enc : TypeId × Value → H) :
    ReturnsInHanded {} Tryd.checked os 6 .any (fun w args => (Rows.fnDomsOfSpec.pre enc Tryd.prog Tryd.f6 [] false w args ∧ laidMetH Tryd.prog LD w) ∧ sizedMet enc Tryd.prog Tryd.f6 (OpenSpec.ofChange Rows.fnDomsOfSpec) false w args)
      (Rows.fnDomsOfSpec.post enc Tryd.prog Tryd.f6 false true false false) := by
  refine returnsInHanded_of_change_and (C := Tryd.checked) (X := fun w _ => laidMetH Tryd.prog LD w) (fun _ _ _ hh h => h.of_heap hh) own started (by kernel_rfl) Tryd.func6
    (ChangeSpec.witness_shaped (enc := enc) (C := Tryd.checked) (os := os) (X := fun w _ => laidMetH Tryd.prog LD w) false (World.doorLaid Tryd.prog 400 os) #[.slice none 0 0] 8 rfl (World.shaped_of_RefB (by kernel_rfl) (by kernel_rfl)) (by kernel_rfl) (by kernel_rfl) (by kernel_rfl) (door_met os _)) ?_
  intro W base args ds gs before hval0 hW _ _ hL _
  have hval : ∀ (j : Nat) t v, Tryd.f6.params[j]? = some t → args[j]? = some v → Value.okWide Tryd.prog W .any base t v := hval0
  have hW' := hW
  have hlt := hW.lt
  obtain ⟨p, q, hA0, hV0, rfl, hfz, hnd⟩ := hW
  have hA : DataW.TrodAll enc Tryd.prog W 0 (fun _ => true) true Tryd.f6.params.toList args.toList ds p := hA0
  have hV : DataW.TrodVars enc Tryd.prog W (fun _ => true) ["loop.example/smallmachines/impl.wordTexts"] gs q := hV0
  rw [Tryd.params6] at hA hval
  obtain ⟨v0, d0, rfl, rfl, h0⟩ := trodAll_one hA
  have hwt := wt_of_var (var_of_laid hL)
  obtain ⟨g, t, cs, fuel, dd, p', rfl, hg, ht, hvar, hd, rfl⟩ := trodVars_one hV
  obtain rfl := Option.some.inj (gWT.symm.trans hg)
  obtain rfl := Option.some.inj (tWT.symm.trans ht)
  obtain rfl : cs = wtCells := Option.some.inj (hvar.symm.trans (var_of_laid hL))
  obtain ⟨rfl, rfl⟩ := DataW.Trod.unique (v := .agg wtCells) ⟨fuel, hd⟩ ⟨3, reads_table enc W _⟩
  have h0' := h0
  obtain ⟨A, n, cap, zs, rfl, hBy⟩ := open_bytes (hval 0 33 v0 rfl rfl) h0
  clear hA0 hV0 hval0
  refine (fnDomsOf_walk A n cap zs W hwt hBy).mono fun e W' ⟨he, hb⟩ => ?_
  subst he
  refine ⟨_, rfl, post_off (pa := p) hW' (fun _ _ _ => trodAll_mk1 (shut_bool Tryd.underlying4 _)) (trodAll_mk1 (Below.trod laidOut (by kernel_rfl) (of_decide_eq_true (by kernel_rfl)) h0' hb (fun x hx => hlt x (List.mem_append_left _ hx)))) ⟨0, 108, wtCells, 3, [], [], hg, ht, var_of_wt (hwt.below hb (wt_lt hwt)), reads_table enc W' _, rfl, rfl⟩ rfl hb⟩
theorem fnDomsOf_holds : Rows.FnDomsOfSaid :=
  OpenClaim.holds_of_wide 6 Tryd.f6 rfl rfl rfl rfl rfl rfl rfl ⟨rfl, rfl, rfl, rfl, rfl⟩ rfl rfl rfl rfl rfl (by kernel_rfl) Tryd.func6 (by kernel_rfl)
    (of_decide_eq_true (by kernel_rfl)) (by unfold Func.isWrapper; rw [if_neg (of_decide_eq_false (by kernel_rfl))]; exact ⟨rfl, rfl⟩)
    (fun os started H enc _ => fnDomsOf_lifted os started H enc)
/-- The tied card of FnDomsOf. -/
theorem fnDomsOf_card : Rows.FnDomsOfCardSaid :=
  Claim7.holds_tied_plain_at .later [] [.data] true (true, "c8792b6d8a45fb4b3257abcf14b3181c97f055eaa201e3cd6a249c3839175b15") false
    fnDomsOf_holds (fun _ h => by cases h) (by kernel_rfl) (fun _ h => by cases h) fnDomsOf_row_tie rfl ⟨rfl, rfl⟩ (by kernel_rfl) rfl
    (fun f fn hf hfn => by
      obtain rfl : f = 6 := Option.some.inj ((show Tryd.prog.funcNamed "loop.example/smallmachines/laws.FnDomsOf" = some 6 by kernel_rfl).symm.trans hf) |>.symm
      obtain rfl : fn = Tryd.f6 := (Option.some.inj (Tryd.func6.symm.trans hfn)).symm
      exact ⟨by kernel_rfl, fun j t ht => by
        rw [Tryd.params6] at ht
        have hm : t ∈ [33] := by simpa using Array.mem_of_getElem? ht
        have hall : ([33].all fun u => !Tryd.prog.wantsStandIn u) = true := by kernel_rfl
        exact (show Tryd.prog.wantsStandIn t = false by simpa using List.all_eq_true.1 hall t hm)⟩)
    (by kernel_rfl)
end Go.Proofs.YtbfgmmljegdbfaaDoor
