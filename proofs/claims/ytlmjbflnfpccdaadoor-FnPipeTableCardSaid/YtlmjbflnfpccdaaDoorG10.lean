/- Instructions in a pipe; plain facts. What may go through the pipe, and who waits for whom, by the model. -/
import Derived.Test.YtlmjbflnfpccdaaDoorW960
import Derived.Test.YtlmjbflnfpccdaaDoorW952
import Derived.Test.YtlmjbflnfpccdaaDoorW110
namespace Go.Proofs.YtlmjbflnfpccdaaDoor
open Go.RowKit
/-- Is a register in a set? -/
def bt (x : Int) (r : Nat) : Bool := x / 2 ^ r % 2 == 1
theorem or_all : ∀ x y : Fin 16, 0 ≤ bits .or .i64 (x.val : Int) (y.val : Int) ∧ bits .or .i64 (x.val : Int) (y.val : Int) < 16 := by decide +kernel
theorem andNot_all : ∀ x y : Fin 16, 0 ≤ bits .andNot .i64 (x.val : Int) (y.val : Int) ∧ bits .andNot .i64 (x.val : Int) (y.val : Int) < 16 ∧ ∀ r : Fin 4, bt (bits .andNot .i64 (x.val : Int) (y.val : Int)) r.val = (bt x.val r.val && !bt y.val r.val) := by decide +kernel
theorem and_all : ∀ (x : Fin 16) (r : Fin 4), ((bits .and .i64 (x.val : Int) (2 ^ r.val)) != 0) = bt x.val r.val := by decide +kernel
/-- It is a set of registers. -/
def S4 (x : Int) : Prop := 0 ≤ x ∧ x < 16
theorem S4.fin {x : Int} (h : S4 x) : ∃ i : Fin 16, x = (i.val : Int) := ⟨⟨x.toNat, by have := h.1; have := h.2; omega⟩, by have := h.1; show x = ((x.toNat : Nat) : Int); omega⟩
theorem S4.or {x y : Int} (hx : S4 x) (hy : S4 y) : S4 (bits .or .i64 x y) := by
  obtain ⟨i, rfl⟩ := hx.fin
  obtain ⟨j, rfl⟩ := hy.fin
  obtain ⟨h1, h2⟩ := or_all i j
  exact ⟨h1, h2⟩
theorem S4.andNot {x y : Int} (hx : S4 x) (hy : S4 y) : S4 (bits .andNot .i64 x y) ∧ ∀ r, r < 4 → bt (bits .andNot .i64 x y) r = (bt x r && !bt y r) := by
  obtain ⟨i, rfl⟩ := hx.fin
  obtain ⟨j, rfl⟩ := hy.fin
  obtain ⟨h1, h2, h3⟩ := andNot_all i j
  exact ⟨⟨h1, h2⟩, fun r hr => h3 ⟨r, hr⟩⟩
theorem S4.and {x : Int} (hx : S4 x) {r : Nat} (hr : r < 4) : ((bits .and .i64 x (2 ^ r)) != 0) = bt x r := by
  obtain ⟨i, rfl⟩ := hx.fin
  exact and_all i ⟨r, hr⟩
theorem S4.zero : S4 0 := ⟨by omega, by omega⟩
theorem and_zero_all : ∀ x : Fin 16, bits .and .i64 (x.val : Int) 0 = 0 := by decide +kernel
theorem S4.and_zero {x : Int} (hx : S4 x) : bits .and .i64 x 0 = 0 := by
  obtain ⟨i, rfl⟩ := hx.fin
  exact and_zero_all i
/-- One register or none. -/
def One (x : Int) : Prop := x = 0 ∨ ∃ r, r < 4 ∧ x = 2 ^ r
theorem One.set {x : Int} (h : One x) : S4 x := by
  rcases h with rfl | ⟨r, hr, rfl⟩
  · exact S4.zero
  · rcases (show r = 0 ∨ r = 1 ∨ r = 2 ∨ r = 3 by omega) with rfl | rfl | rfl | rfl <;> exact ⟨by decide, by decide⟩
theorem sh_one (d : Int) (h0 : 0 ≤ d) (h1 : d ≤ 3) : One (sh d) := by
  rcases (show d = 0 ∨ d = 1 ∨ d = 2 ∨ d = 3 by omega) with rfl | rfl | rfl | rfl
  · exact .inr ⟨0, by omega, by decide +kernel⟩
  · exact .inr ⟨1, by omega, by decide +kernel⟩
  · exact .inr ⟨2, by omega, by decide +kernel⟩
  · exact .inr ⟨3, by omega, by decide +kernel⟩
theorem use_sets {c : Ins} (h : vI c = true) : S4 (rdI c) ∧ One (wrI c) := by
  obtain ⟨_, ⟨b1, b1'⟩, ⟨b2, b2'⟩, ⟨b3, b3'⟩, _⟩ := VI_bounds (vB_true.1 h)
  have sd := sh_one _ b1 b1'
  have sa := sh_one _ b2 b2'
  have sb := sh_one _ b3 b3'
  refine ⟨?_, ?_⟩
  · unfold rdI usesR
    split
    · exact S4.zero
    · split
      · exact S4.or sa.set sb.set
      · split
        · exact sa.set
        · split
          · exact S4.or sd.set sa.set
          · split
            · exact sa.set
            · exact S4.zero
  · unfold wrI usesW
    split
    · exact sd
    · exact .inl rfl
/-- What is left of what is read, behind t of those ahead. -/
def lft (R : Int) (w : Nat → Int) (k : Nat) : Nat → Int
  | 0 => R
  | t + 1 => bits .andNot .i64 (lft R w k t) (w (k - 1 - t))
theorem lft_set {R : Int} {w : Nat → Int} {k : Nat} (hR : S4 R) (hw : ∀ j, j < k → One (w j)) : ∀ t, t ≤ k → S4 (lft R w k t)
  | 0, _ => hR
  | t + 1, h => (S4.andNot (lft_set hR hw t (by omega)) (hw _ (by omega)).set).1
theorem lft_bt {R : Int} {w : Nat → Int} {k : Nat} (hR : S4 R) (hw : ∀ j, j < k → One (w j)) {r : Nat} (hr : r < 4) : ∀ t, t ≤ k → (bt (lft R w k t) r = true ↔ bt R r = true ∧ ∀ j, k - t ≤ j → j < k → bt (w j) r = false)
  | 0, _ => ⟨fun h => ⟨h, fun j h1 h2 => by omega⟩, fun h => h.1⟩
  | t + 1, h => by
    have ih := lft_bt hR hw hr t (by omega)
    have h1 := (S4.andNot (lft_set hR hw t (by omega)) (hw (k - 1 - t) (by omega)).set).2 r hr
    show bt (bits .andNot .i64 (lft R w k t) (w (k - 1 - t))) r = true ↔ _
    rw [h1, Bool.and_eq_true, ih, Bool.not_eq_true']
    constructor
    · rintro ⟨⟨h2, h3⟩, h4⟩
      exact ⟨h2, fun j a b => by
        by_cases e : j = k - 1 - t
        · rw [e]; exact h4
        · exact h3 j (by omega) b⟩
    · rintro ⟨h2, h3⟩
      exact ⟨⟨h2, fun j a b => h3 j (by omega) b⟩, h3 _ (by omega) (by omega)⟩
/-- No one between two writes what the first one writes. -/
def lwB (F : Nat → Ins) (i k : Nat) : Bool := (List.range k).all fun j => decide (j ≤ i) || (bits .and .i64 (wrI (F j)) (wrI (F i)) == 0)
theorem lwB_iff {F : Nat → Ins} {i k : Nat} : lwB F i k = true ↔ ∀ j, i < j → j < k → bits .and .i64 (wrI (F j)) (wrI (F i)) = 0 := by
  unfold lwB
  rw [List.all_eq_true]
  constructor
  · intro h j h1 h2
    have h3 := h j (List.mem_range.2 h2)
    rw [decide_eq_false (by omega), Bool.false_or, beq_iff_eq] at h3
    exact h3
  · intro h j hj
    by_cases e : j ≤ i
    · rw [decide_eq_true e]
      rfl
    · rw [decide_eq_false e, Bool.false_or, beq_iff_eq]
      exact h j (by omega) (List.mem_range.1 hj)
/-- How far behind one that writes what is read. -/
def lg (a : Ins) (fw : Bool) : Int := if fw = false then 3 else if (a.op.toList == [108, 100]) = true then 2 else 1
theorem lg_rng (a : Ins) (fw : Bool) : 1 ≤ lg a fw ∧ lg a fw ≤ 3 := by
  unfold lg
  repeat' split
  all_goals omega
def gpI (a b : Ins) (fw : Bool) : Int := if (bits .and .i64 (wrI a) (rdI b) == 0) = true then 0 else lg a fw
theorem gpI_rng (a b : Ins) (fw : Bool) : 0 ≤ gpI a b fw ∧ gpI a b fw ≤ 3 := by
  have := lg_rng a fw
  unfold gpI
  split <;> omega
/-- How far the instruction k is behind i. -/
def wg (F : Nat → Ins) (fw : Bool) (k i : Nat) : Int := if lwB F i k = true then gpI (F i) (F k) fw else 0
theorem wg_rng (F : Nat → Ins) (fw : Bool) (k i : Nat) : 0 ≤ wg F fw k i ∧ wg F fw k i ≤ 3 := by
  have := gpI_rng (F i) (F k) fw
  unfold wg
  split <;> omega
/-- The program's way to tell this: by what is left of what is read. -/
def wl (F : Nat → Ins) (fw : Bool) (k t : Nat) : Int := if (bits .and .i64 (lft (rdI (F k)) (fun j => wrI (F j)) k t) (wrI (F (k - 1 - t))) != 0) = true then lg (F (k - 1 - t)) fw else 0
theorem bne_f {x : Int} : (x != 0) = false ↔ x = 0 := by simp
theorem wl_is {F : Nat → Ins} {fw : Bool} {k t : Nat} (hv : ∀ j, j ≤ k → vI (F j) = true) (ht : t < k) : wl F fw k t = wg F fw k (k - 1 - t) := by
  have hR := (use_sets (hv k (Nat.le_refl _))).1
  have hw : ∀ j, j < k → One ((fun j => wrI (F j)) j) := fun j hj => (use_sets (hv j (by omega))).2
  have hs := lft_set hR hw t (by omega)
  have ho := hw (k - 1 - t) (by omega)
  have key : (bits .and .i64 (lft (rdI (F k)) (fun j => wrI (F j)) k t) (wrI (F (k - 1 - t))) != 0) = true ↔ ((bits .and .i64 (rdI (F k)) (wrI (F (k - 1 - t))) != 0) = true ∧ lwB F (k - 1 - t) k = true) := by
    rw [lwB_iff]
    rcases ho with ho | ⟨r, hr, ho⟩
    · have ho' : wrI (F (k - 1 - t)) = 0 := ho
      rw [ho', S4.and_zero hs, S4.and_zero hR]
      simp
    · have ho' : wrI (F (k - 1 - t)) = 2 ^ r := ho
      rw [ho', S4.and hs hr, S4.and hR hr, lft_bt hR hw hr t (by omega)]
      constructor
      · rintro ⟨h1, h2⟩
        refine ⟨h1, fun j a b => ?_⟩
        have h3 := S4.and (hw j b).set hr
        rw [h2 j (by omega) b] at h3
        exact bne_f.1 h3
      · rintro ⟨h1, h2⟩
        refine ⟨h1, fun j a b => ?_⟩
        rw [← S4.and (hw j b).set hr]
        exact bne_f.2 (h2 j (by omega) b)
  have hc := and_comm_i (wrI (F (k - 1 - t))) (rdI (F k))
  unfold wl wg gpI
  rw [hc]
  rcases e1 : (bits .and .i64 (rdI (F k)) (wrI (F (k - 1 - t))) != 0) with _ | _
  · have e2 := bne_f.1 e1
    rw [if_neg (fun h => by have := (key.1 h).1; rw [e1] at this; cases this), e2]
    simp
  · have e2 : (bits .and .i64 (rdI (F k)) (wrI (F (k - 1 - t))) == 0) = false := by
      have := e1
      simp only [bne, Bool.not_eq_true'] at this
      exact this
    rcases e3 : lwB F (k - 1 - t) k with _ | _
    · rw [if_neg (fun h => by have := (key.1 h).2; rw [e3] at this; cases this)]
      simp
    · rw [if_pos (key.2 ⟨e1, e3⟩), if_pos rfl, e2]
      simp
theorem sx_congr {a : Int} {w g w' g' : Nat → Int} : ∀ {n : Nat}, (∀ i, i < n → w i = w' i ∧ g i = g' i) → sx a w g n = sx a w' g' n
  | 0, _ => rfl
  | n + 1, h => by
    show (if 0 < w n then max (sx a w g n) (g n + w n) else sx a w g n) = (if 0 < w' n then max (sx a w' g' n) (g' n + w' n) else sx a w' g' n)
    rw [sx_congr (fun i hi => h i (by omega)), (h n (by omega)).1, (h n (by omega)).2]
theorem sx_mono' {a : Int} {w g : Nat → Int} : ∀ {i k : Nat}, i ≤ k → sx a w g i ≤ sx a w g k
  | i, 0, h => by
    obtain rfl : i = 0 := by omega
    exact Int.le_refl _
  | i, k + 1, h => by
    by_cases e : i = k + 1
    · rw [e]
      exact Int.le_refl _
    · have h1 := sx_mono' (a := a) (w := w) (g := g) (show i ≤ k by omega)
      show _ ≤ (if 0 < w k then max (sx a w g k) (g k + w k) else sx a w g k)
      split
      · omega
      · exact h1
/-- From the last one on or from the first one on. -/
theorem sx_turn {a : Int} {w g : Nat → Int} {k m : Nat} (hm : m ≤ k) : sx a (fun t => w (k - 1 - t)) (fun t => g (k - 1 - t)) m = sx a (fun j => w (k - m + j)) (fun j => g (k - m + j)) m := by
  obtain ⟨a1, a2⟩ := sx_le.1 (Int.le_refl (sx a (fun t => w (k - 1 - t)) (fun t => g (k - 1 - t)) m))
  obtain ⟨b1, b2⟩ := sx_le.1 (Int.le_refl (sx a (fun j => w (k - m + j)) (fun j => g (k - m + j)) m))
  have h1 : sx a (fun t => w (k - 1 - t)) (fun t => g (k - 1 - t)) m ≤ sx a (fun j => w (k - m + j)) (fun j => g (k - m + j)) m := sx_le.2 ⟨b1, fun i hi hw => by
    have := b2 (m - 1 - i) (by omega)
    rw [show k - m + (m - 1 - i) = k - 1 - i by omega] at this
    exact this hw⟩
  have h2 : sx a (fun j => w (k - m + j)) (fun j => g (k - m + j)) m ≤ sx a (fun t => w (k - 1 - t)) (fun t => g (k - 1 - t)) m := sx_le.2 ⟨a1, fun i hi hw => by
    have := a2 (m - 1 - i) (by omega)
    rw [show k - 1 - (m - 1 - i) = k - m + i by omega] at this
    exact this hw⟩
  omega
/-- From when on an instruction may be worked out, by the one ahead of it. -/
def st (J : Nat → Bool) (f : Nat → Int) (k : Nat) : Int := if k = 0 then 2 else f (k - 1) + 1 + (if J (k - 1) = true then 2 else 0)
def pkF (F : Nat → Ins) (J : Nat → Bool) (fw : Bool) : Nat → Nat → Int
  | 0 => fun _ => 0
  | k + 1 => fun j => if j = k then sx (st J (pkF F J fw k) k) (fun j => wg F fw k (k - 3 + j)) (fun j => pkF F J fw k (k - 3 + j)) (k - (k - 3)) else pkF F J fw k j
/-- When an instruction is worked out. -/
def pk (F : Nat → Ins) (J : Nat → Bool) (fw : Bool) (j : Nat) : Int := pkF F J fw (j + 1) j
theorem pkF_at (F : Nat → Ins) (J : Nat → Bool) (fw : Bool) {j : Nat} : ∀ {k : Nat}, j < k → pkF F J fw k j = pk F J fw j
  | 0, h => absurd h (Nat.not_lt_zero j)
  | k + 1, h => by
    by_cases e : j = k
    · rw [e]; rfl
    · show (if j = k then _ else pkF F J fw k j) = _
      rw [if_neg e]
      exact pkF_at F J fw (by omega)
theorem pk_eq (F : Nat → Ins) (J : Nat → Bool) (fw : Bool) (k : Nat) : sx (st J (pk F J fw) k) (fun j => wg F fw k (k - 3 + j)) (fun j => pk F J fw (k - 3 + j)) (k - (k - 3)) = pk F J fw k := by
  have h0 : pk F J fw k = sx (st J (pkF F J fw k) k) (fun j => wg F fw k (k - 3 + j)) (fun j => pkF F J fw k (k - 3 + j)) (k - (k - 3)) := if_pos rfl
  have h1 : st J (pkF F J fw k) k = st J (pk F J fw) k := by
    unfold st
    by_cases e : k = 0
    · rw [if_pos e, if_pos e]
    · rw [if_neg e, if_neg e, pkF_at F J fw (by omega)]
  rw [h0, h1]
  exact sx_congr fun i hi => ⟨rfl, (pkF_at F J fw (by omega)).symm⟩
/-- By the program: from the last one on. -/
theorem pk_back {F : Nat → Ins} {J : Nat → Bool} {fw : Bool} {k : Nat} (hv : ∀ j, j ≤ k → vI (F j) = true) : sx (st J (pk F J fw) k) (wl F fw k) (fun t => pk F J fw (k - 1 - t)) (k - (k - 3)) = pk F J fw k := by
  rw [sx_congr (w' := fun t => wg F fw k (k - 1 - t)) (g' := fun t => pk F J fw (k - 1 - t)) (fun i hi => ⟨wl_is hv (by omega), rfl⟩), sx_turn (w := wg F fw k) (g := pk F J fw) (by omega), show k - (k - (k - 3)) = k - 3 by omega]
  exact pk_eq F J fw k
theorem pk_up (F : Nat → Ins) (J : Nat → Bool) (fw : Bool) (k : Nat) : st J (pk F J fw) k ≤ pk F J fw k := by
  have h := (sx_le.1 (Int.le_refl (sx (st J (pk F J fw) k) (fun j => wg F fw k (k - 3 + j)) (fun j => pk F J fw (k - 3 + j)) (k - (k - 3))))).1
  rwa [pk_eq] at h
theorem pk_small (F : Nat → Ins) (J : Nat → Bool) (fw : Bool) : ∀ (m k : Nat), k < m → 2 ≤ pk F J fw k ∧ pk F J fw k ≤ 3 * (k : Int) + 2
  | 0, k, h => absurd h (Nat.not_lt_zero k)
  | m + 1, k, h => by
    have h1 := pk_up F J fw k
    have h3 : 2 ≤ st J (pk F J fw) k ∧ st J (pk F J fw) k ≤ 3 * (k : Int) + 2 := by
      unfold st
      by_cases e : k = 0
      · rw [if_pos e]; omega
      · have h2 := pk_small F J fw m (k - 1) (by omega)
        rw [if_neg e]
        split <;> omega
    refine ⟨by omega, ?_⟩
    rw [← pk_eq F J fw k]
    refine sx_le.2 ⟨h3.2, fun i hi _ => ?_⟩
    have h1 := pk_small F J fw m (k - 3 + i) (by omega)
    have h2 := wg_rng F fw k (k - 3 + i)
    show pk F J fw (k - 3 + i) + wg F fw k (k - 3 + i) ≤ _
    omega
theorem pk_rng (F : Nat → Ins) (J : Nat → Bool) (fw : Bool) (k : Nat) : 2 ≤ pk F J fw k ∧ pk F J fw k ≤ 3 * (k : Int) + 2 := pk_small F J fw (k + 1) k (by omega)
/-- May instructions go through the pipe? -/
def pvI (c : Ins) : Bool := vI c && !(c.op.toList == [104, 108, 116])
def vpB (n : Nat) (F : Nat → Ins) (m : Nat) : Bool := ((List.range n).all fun j => pvI (F j)) && (decide (n ≤ 300) && decide (m = n))
theorem allP_iff {n : Nat} {F : Nat → Ins} : ((List.range n).all fun j => pvI (F j)) = true ↔ ∀ j, j < n → pvI (F j) = true := by
  simp [List.all_eq_true]
theorem vpB_no {n k m : Nat} {F : Nat → Ins} (hk : k < n) (h : pvI (F k) = false) : vpB n F m = false := by
  rw [Bool.eq_false_iff]
  intro hv
  simp only [vpB, Bool.and_eq_true] at hv
  rw [allP_iff.1 hv.1 k hk] at h
  cases h
theorem vpB_all {n m : Nat} {F : Nat → Ins} (h : ∀ j, j < n → pvI (F j) = true) : vpB n F m = (decide (n ≤ 300) && decide (m = n)) := by
  unfold vpB
  rw [allP_iff.2 h]
  rfl
theorem vpB_big {n m : Nat} {F : Nat → Ins} (h : 300 < n) : vpB n F m = false := by
  unfold vpB
  rw [show decide (n ≤ 300) = false from decide_eq_false (by omega), Bool.false_and, Bool.and_false]
theorem vpB_len {n m : Nat} {F : Nat → Ins} (h : m ≠ n) : vpB n F m = false := by
  unfold vpB
  rw [show decide (m = n) = false from decide_eq_false h, Bool.and_false, Bool.and_false]
theorem vpB_yes {n m : Nat} {F : Nat → Ins} (h : vpB n F m = true) : n ≤ 300 ∧ m = n ∧ ∀ j, j < n → vI (F j) = true := by
  simp only [vpB, Bool.and_eq_true, decide_eq_true_eq] at h
  refine ⟨h.2.1, h.2.2, fun j hj => ?_⟩
  have h1 := allP_iff.1 h.1 j hj
  unfold pvI at h1
  simp only [Bool.and_eq_true] at h1
  exact h1.1
/-- When all are written. -/
def ptm (n : Nat) (f : Nat → Int) : Int := if n = 0 then 0 else f (n - 1) + 3
/-- In which part an instruction is at a tick. -/
def prt (J : Nat → Bool) (f : Nat → Int) (k : Nat) (t : Int) : Int :=
  if t = st J f k - 2 then 0 else if st J f k - 1 ≤ t ∧ t < f k then 1 else if f k ≤ t ∧ t < f k + 3 then 2 + t - f k else -1
/-- How many ticks jumps cost. -/
def bub (J : Nat → Bool) : Nat → Int
  | 0 => 0
  | k + 1 => bub J k + (if J k = true then 2 else 0)
theorem bub_rng (J : Nat → Bool) : ∀ k, 0 ≤ bub J k ∧ bub J k ≤ 2 * (k : Int)
  | 0 => ⟨Int.le_refl _, Int.le_refl _⟩
  | k + 1 => by
    have := bub_rng J k
    show 0 ≤ bub J k + (if J k = true then 2 else 0) ∧ bub J k + (if J k = true then 2 else 0) ≤ _
    split <;> omega
end Go.Proofs.YtlmjbflnfpccdaaDoor

namespace Go.Proofs.YtlmjbflnfpccdaaDoor
open Go.RowKit
set_option linter.unusedSimpArgs false
theorem validTrace_zero (A : Option Addr) (c : Nat) (w : World) :
    Calls Tryd.prog 52 #[.slice A 0 c] w fun e w' => e = .returned (.bool true) ∧ w.grownBy w' none := by
  go_enter Tryd.func52, Tryd.ntmps52
  go_wp2
  refine wp_loop_rounds 1 ?_
  rw [rounds_succ]
  go_wp2
  go_ret
  exact ⟨rfl, World.grownBy.refl _ _⟩
/-- Are they a trace? -/
def trB (n : Nat) (F : Nat → Ins) : Bool := ((List.range n).all fun j => pvI (F j)) && decide (n ≤ 300)
theorem trB_no {n k : Nat} {F : Nat → Ins} (hk : k < n) (h : pvI (F k) = false) : trB n F = false := by
  rw [Bool.eq_false_iff]
  intro hv
  simp only [trB, Bool.and_eq_true] at hv
  rw [allP_iff.1 hv.1 k hk] at h
  cases h
theorem trB_all {n : Nat} {F : Nat → Ins} (h : ∀ j, j < n → pvI (F j) = true) : trB n F = decide (n ≤ 300) := by
  unfold trB
  rw [allP_iff.2 h]
  rfl
theorem vpB_tr (n : Nat) (F : Nat → Ins) (m : Nat) : vpB n F m = (trB n F && decide (m = n)) := by
  unfold vpB trB
  rw [Bool.and_assoc]
set_option maxHeartbeats 8000000 in
theorem validTrace_at (b off n c : Nat) (F : Nat → Ins) (w : World) (hn : n ≤ 9223372036854775807) (h : Code w (some ⟨b, off, none⟩) n F) :
    Calls Tryd.prog 52 #[.slice (some ⟨b, off, none⟩) n c] w fun e w' => e = .returned (.bool (trB n F)) ∧ w.grownBy w' none := by
  have H := shade h
  clear h
  go_enter Tryd.func52, Tryd.ntmps52
  go_wp2
  go_loopw [3] (fun i wr => ∃ k : Nat, k ≤ n ∧ i = .int .i64 k ∧ (∀ j, j < k → pvI (F j) = true) ∧ w.grownBy wr none) (fun i _ => n - (intOf i).toNat)
  case atStart => exact ⟨0, Nat.zero_le _, rfl, fun j hj => absurd hj (by omega), World.grownBy.refl _ _⟩
  case round =>
    obtain ⟨k, hk, rfl, hall, hg⟩ := hrel
    have HA := shade hall
    clear hall
    by_cases hkn : k < n
    · obtain ⟨q0, q1, q2, q3, q4⟩ := (H.out.on hg).five hkn
      have HG := shade hg
      clear hg
      generalize hc : F k = cc at *
      obtain ⟨op, d, a, b', kk⟩ := cc
      simp only [] at q0 q1 q2 q3 q4
      have HC := shade hc
      clear hc
      have HO := shade (fun x (h : pvI ⟨op, d, a, b', kk⟩ = x) => show pvI (F k) = x by rw [HC.out]; exact h)
      have HN := shade (fun (h : pvI (F k) = true) j (hj : j < k + 1) => show pvI (F j) = true by
        by_cases e : j = k
        · rw [e]; exact h
        · exact HA.out j (by omega))
      have HVI := shade (fun W => validInstr_any op d a b' kk W)
      rcases hv : vB op.toList d a b' kk with _ | _
      · rw [hv] at HVI
        have HK := shade (HO.out false (by simp [pvI, vI, hv]))
        clear hv
        go_wp2_with fail
        refine (HVI.out _).mono ?_
        rintro e w2 ⟨rfl, o2, rfl⟩
        go_wp2_with fail
        go_ret
        exact ⟨ret_b (trB_no hkn HK.out).symm, grown_alloc HG.out _⟩
      · rw [hv] at HVI
        have HV := shade hv
        clear hv
        rcases e3 : (op.toList == [104, 108, 116]) with _ | _
        · have HK := shade (HO.out true (by simp [pvI, vI, HV.out, e3]))
          go_wp2_with fail
          refine (HVI.out _).mono ?_
          rintro e w2 ⟨rfl, o2, rfl⟩
          have z := World.block_lt_of_cell? _ _ q0; replace q0 := (World.cell?_alloc_some wr _ o2 (by rw [q0]; rfl)).trans q0
          go_wp2_with fail
          go_roundw
          case rel => exact ⟨k + 1, by omega, by go_num, HN.out HK.out, grown_alloc HG.out _⟩
          case measure => simp [intOf]; omega
        · have HK := shade (HO.out false (by simp [pvI, vI, HV.out, e3]))
          go_wp2_with fail
          refine (HVI.out _).mono ?_
          rintro e w2 ⟨rfl, o2, rfl⟩
          have z := World.block_lt_of_cell? _ _ q0; replace q0 := (World.cell?_alloc_some wr _ o2 (by rw [q0]; rfl)).trans q0
          go_wp2_with fail
          go_ret
          exact ⟨ret_b (trB_no hkn HK.out).symm, grown_alloc HG.out _⟩
    · have hkn2 : k = n := by omega
      subst hkn2
      have HG := shade hg
      clear hg
      go_wp2
      go_ret
      exact ⟨ret_b (by rw [trB_all HA.out, Bool.eq_iff_iff]; simp; try omega), HG.out⟩
theorem validTrace_any (A : Option Addr) (n c : Nat) (F : Nat → Ins) (w : World) (hn : n ≤ 9223372036854775807) (h : Code w A n F) :
    Calls Tryd.prog 52 #[.slice A n c] w fun e w' => e = .returned (.bool (trB n F)) ∧ w.grownBy w' none := by
  by_cases h0 : n = 0
  · subst h0
    exact validTrace_zero A c w
  · obtain ⟨b, off, rfl, _⟩ := h.resolve_left h0
    exact validTrace_at b off n c F w hn h
set_option maxHeartbeats 4000000 in
theorem validPipe_any (A : Option Addr) (n c : Nat) (F : Nat → Ins) (AJ : Option Addr) (m cj : Nat) (w : World) (hn : n ≤ 9223372036854775807) (h : Code w A n F) :
    Calls Tryd.prog 40 #[.slice A n c, .slice AJ m cj] w fun e w' => e = .returned (.bool (vpB n F m)) ∧ w.grownBy w' none := by
  have H := shade (validTrace_any A n c F w hn h)
  clear h
  rw [vpB_tr]
  rcases ht : trB n F with _ | _
  · rw [ht] at H
    go_enter Tryd.func40, Tryd.ntmps40
    go_wp2_with fail
    refine H.out.mono ?_
    rintro e w1 ⟨rfl, hg⟩
    have HG := shade hg
    clear hg
    go_wp2_with fail
    go_ret
    exact ⟨rfl, HG.out⟩
  · rw [ht] at H
    by_cases e : m = n
    · subst e
      rw [decide_eq_true rfl]
      go_enter Tryd.func40, Tryd.ntmps40
      go_wp2_with fail
      refine H.out.mono ?_
      rintro e w1 ⟨rfl, hg⟩
      have HG := shade hg
      clear hg
      go_wp2_with fail
      go_ret
      exact ⟨by simp, HG.out⟩
    · rw [decide_eq_false e]
      have h2 : ¬ (m : Int) = (n : Int) := by omega
      go_enter Tryd.func40, Tryd.ntmps40
      go_wp2_with fail
      refine H.out.mono ?_
      rintro e w1 ⟨rfl, hg⟩
      have HG := shade hg
      clear hg
      go_wp2_with fail
      go_ret
      exact ⟨by simp [h2], HG.out⟩
set_option maxRecDepth 100000 in
set_option maxHeartbeats 4000000 in
theorem gap_any (ca cb : Ins) (fw : Bool) (ha : vI ca = true) (hb : vI cb = true) (w : World) :
    Calls Tryd.prog 53 #[IV ca.op ca.d ca.a ca.b ca.k, IV cb.op cb.d cb.a cb.b cb.k, .bool fw] w fun e w' => e = .returned (.int .i64 (gpI ca cb fw)) ∧ w.grownBy w' none := by
  obtain ⟨opa, da, aa, ba, ka⟩ := ca
  obtain ⟨opb, db, ab, bb, kb⟩ := cb
  have HUA := shade (fun W => uses_spec _ ha W)
  have HUB := shade (fun W => uses_spec _ hb W)
  dsimp only at HUA HUB
  unfold gpI lg
  dsimp only
  clear ha hb
  generalize rdI ⟨opa, da, aa, ba, ka⟩ = ra at *
  generalize wrI ⟨opa, da, aa, ba, ka⟩ = wa at *
  generalize rdI ⟨opb, db, ab, bb, kb⟩ = rb at *
  generalize wrI ⟨opb, db, ab, bb, kb⟩ = wb at *
  rcases c1 : (bits .and .i64 wa rb == 0) with _ | _
  all_goals rcases fw with _ | _
  all_goals rcases e1 : (opa.toList == [108, 100]) with _ | _
  all_goals
    go_enter Tryd.func53, Tryd.ntmps53
    go_wp2_with fail
    refine (HUA.out _).mono ?_
    rintro e w1 ⟨rfl, hb1⟩
    have ha1 := (((Holds5.fresh w 53 #[.string opa, .int .i64 da, .int .i64 aa, .int .i64 ba, .int .i64 ka]).alloc (.cells #[.string opb, .int .i64 db, .int .i64 ab, .int .i64 bb, .int .i64 kb] 53)).below hb1 (by simp; omega))
    have HR1 := shade (grown_same (grown_same (World.grownBy_alloc w (.cells #[.string opa, .int .i64 da, .int .i64 aa, .int .i64 ba, .int .i64 ka] 53) none) (World.grownBy_alloc _ (.cells #[.string opb, .int .i64 db, .int .i64 ab, .int .i64 bb, .int .i64 kb] 53) none)) (grown_of_below hb1))
    have hb1' := ((Holds5.fresh (w.alloc (.cells #[.string opa, .int .i64 da, .int .i64 aa, .int .i64 ba, .int .i64 ka] 53)) 53 #[.string opb, .int .i64 db, .int .i64 ab, .int .i64 bb, .int .i64 kb]).below hb1 (by simp))
    rw [World.size_alloc] at hb1'
    have HA1 := shade ha1
    clear hb1 ha1
    have p0 := hb1'.look 0; have p1 := hb1'.look 1; have p2 := hb1'.look 2; have p3 := hb1'.look 3; have p4 := hb1'.look 4
    simp at p0 p1 p2 p3 p4
    clear hb1'
    go_wp2_with fail
    refine (HUB.out _).mono ?_
    rintro e w2 ⟨rfl, hb2⟩
    have ha2 := HA1.out.below hb2 HA1.out.inside
    have HR2 := shade (grown_same HR1.out (grown_of_below hb2))
    clear hb2 HR1 HA1 p0 p1 p2 p3 p4
    have p0 := ha2.look 0
    simp at p0
    clear ha2
    go_wp2_with fail
    go_ret
    exact ⟨rfl, HR2.out⟩
set_option maxRecDepth 100000 in
set_option maxHeartbeats 8000000 in
theorem lastWriter_at (b off n c : Nat) (F : Nat → Ins) (i k : Nat) (w : World) (hn : n ≤ 300) (hi : i < n) (hk : k ≤ n) (hik : i < k) (hv : ∀ j, j < n → vI (F j) = true) (h : Code w (some ⟨b, off, none⟩) n F) :
    Calls Tryd.prog 54 #[.slice (some ⟨b, off, none⟩) n c, .int .i64 (i : Int), .int .i64 (k : Int)] w fun e w' => e = .returned (.bool (lwB F i k)) ∧ w.grownBy w' none := by
  have H := shade h
  have HV := shade hv
  have HUI := shade (fun W => uses_spec (F i) (hv i hi) W)
  obtain ⟨q0, q1, q2, q3, q4⟩ := h.five hi
  have HLW := shade (@lwB_iff F i k)
  clear h hv
  obtain ⟨wi, hwi⟩ : ∃ wi, wrI (F i) = wi := ⟨_, rfl⟩
  rw [hwi] at HUI HLW
  clear hwi
  generalize F i = cc at *
  obtain ⟨op, d, a, b', kk⟩ := cc
  simp only [] at q0 q1 q2 q3 q4 HUI
  go_enter Tryd.func54, Tryd.ntmps54
  go_wp2_with fail
  refine (HUI.out _).mono ?_
  rintro e w1 ⟨rfl, hb1⟩
  have HG1 := shade (grown_of_below hb1)
  clear hb1 q0 q1 q2 q3 q4
  go_wp2_with fail
  go_loopw [9] (fun q wr => ∃ j : Nat, i < j ∧ j ≤ k ∧ q = .int .i64 (j : Int) ∧ (∀ t, i < t → t < j → bits .and .i64 (wrI (F t)) wi = 0) ∧ w.grownBy wr none) (fun q _ => k - (intOf q).toNat)
  case atStart => exact ⟨i + 1, by omega, by omega, by go_num, fun t h1 h2 => by omega, HG1.out⟩
  case round =>
    obtain ⟨j, hij, hjk, rfl, hall, hg⟩ := hrel
    have HA := shade hall
    have HG := shade hg
    clear hall hg
    by_cases hlt : j < k
    · have hjn : j < n := by omega
      have HUJ := shade (fun W => uses_spec (F j) (HV.out j hjn) W)
      obtain ⟨q0, q1, q2, q3, q4⟩ := (H.out.on HG.out).five hjn
      obtain ⟨wj, hwj⟩ : ∃ wj, wrI (F j) = wj := ⟨_, rfl⟩
      rw [hwj] at HUJ
      have HWJ := shade hwj
      clear hwj
      have i2 : (j : Int) < (n : Int) := by omega
      have i3 : (0 : Int) ≤ (j : Int) := by omega
      have i4 : (j : Int) < (k : Int) := by omega
      generalize F j = cj at q0 q1 q2 q3 q4 HUJ
      obtain ⟨op2, d2, a2, b2', kk2⟩ := cj
      simp only [] at q0 q1 q2 q3 q4 HUJ
      rcases c1 : (bits .and .i64 wj wi != 0) with _ | _
      · have HC1 := shade (bne_f.1 c1)
        go_wp2_with fail
        refine (HUJ.out _).mono ?_
        rintro e w2 ⟨rfl, hb2⟩
        have HG2 := shade (grown_same HG.out (grown_of_below hb2))
        clear hb2
        go_wp2_with fail
        go_roundw
        case rel => exact ⟨j + 1, by omega, by omega, by go_num, fun t h1 h2 => by
          by_cases e : t = j
          · rw [e, HWJ.out]; exact HC1.out
          · exact HA.out t h1 (by omega), HG2.out⟩
        case measure => simp [intOf]; omega
      · go_wp2_with fail
        refine (HUJ.out _).mono ?_
        rintro e w2 ⟨rfl, hb2⟩
        have HG2 := shade (grown_same HG.out (grown_of_below hb2))
        clear hb2
        go_wp2_with fail
        go_ret
        refine ⟨ret_b ?_, HG2.out⟩
        rw [eq_comm, Bool.eq_false_iff]
        intro hl
        have h3 := HLW.out.1 hl j hij hlt
        rw [HWJ.out] at h3
        rw [h3] at c1
        cases c1
    · obtain rfl : j = k := by omega
      go_wp2_with fail
      go_ret
      exact ⟨ret_b (HLW.out.2 HA.out).symm, HG.out⟩
end Go.Proofs.YtlmjbflnfpccdaaDoor
