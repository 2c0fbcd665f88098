/- Plain facts of counters, of what went before, and of guesses. -/
import Derived.Test.YtfmcmndhghfoeaaW0
namespace Go.Proofs.Ytfmcmndhghfoeaa

/-- How many of the first ones are so. -/
def cntB (p : Nat → Bool) : Nat → Nat
  | 0 => 0
  | m + 1 => cntB p m + (if p m = true then 1 else 0)
/-- The sum of the first ones. -/
def sumN (f : Nat → Nat) : Nat → Nat
  | 0 => 0
  | k + 1 => sumN f k + f k
theorem cntB_le (p : Nat → Bool) (m : Nat) : cntB p m ≤ m := by
  induction m with
  | zero => exact Nat.le_refl _
  | succ m ih => simp only [cntB]; split <;> omega
theorem cntB_congr {p q : Nat → Bool} (m : Nat) (h : ∀ j, j < m → p j = q j) : cntB p m = cntB q m := by
  induction m with
  | zero => rfl
  | succ m ih => simp only [cntB]; rw [ih (fun j hj => h j (by omega)), h m (by omega)]
theorem cntB_not (p q : Nat → Bool) (m : Nat) (h : ∀ j, j < m → q j = !p j) : cntB p m + cntB q m = m := by
  induction m with
  | zero => rfl
  | succ m ih =>
    have := ih (fun j hj => h j (by omega))
    simp only [cntB]; rw [h m (by omega)]
    cases p m <;> simp <;> omega
theorem sumN_congr {f g : Nat → Nat} (k : Nat) (h : ∀ i, i < k → f i = g i) : sumN f k = sumN g k := by
  induction k with
  | zero => rfl
  | succ k ih => simp only [sumN]; rw [ih (fun j hj => h j (by omega)), h k (by omega)]
theorem sumN_mono {f g : Nat → Nat} (k : Nat) (h : ∀ i, i < k → f i ≤ g i) : sumN f k ≤ sumN g k := by
  induction k with
  | zero => exact Nat.le_refl _
  | succ k ih => have := ih (fun j hj => h j (by omega)); have := h k (by omega); simp only [sumN]; omega
theorem sumN_add (f g : Nat → Nat) (k : Nat) : sumN (fun i => f i + g i) k = sumN f k + sumN g k := by
  induction k with
  | zero => rfl
  | succ k ih => simp only [sumN]; omega
theorem sumN_twice (f : Nat → Nat) (k : Nat) : sumN (fun i => 2 * f i + 1) k = 2 * sumN f k + k := by
  induction k with
  | zero => rfl
  | succ k ih => simp only [sumN]; omega
theorem sumN_min (f g : Nat → Nat) (k : Nat) : sumN (fun i => min (f i) (g i)) k ≤ min (sumN f k) (sumN g k) := by
  have h1 := sumN_mono (f := fun i => min (f i) (g i)) (g := f) k (fun i _ => Nat.min_le_left _ _)
  have h2 := sumN_mono (f := fun i => min (f i) (g i)) (g := g) k (fun i _ => Nat.min_le_right _ _)
  omega
theorem sumN_zero (f : Nat → Nat) (k : Nat) (h : ∀ i, i < k → f i = 0) : sumN f k = 0 := by
  induction k with
  | zero => rfl
  | succ k ih => simp only [sumN]; rw [ih (fun j hj => h j (by omega)), h k (by omega)]
theorem sumN_one (f : Nat → Nat) (k t : Nat) (ht : t < k) (h : ∀ i, i ≠ t → f i = 0) : sumN f k = f t := by
  induction k with
  | zero => omega
  | succ k ih =>
    simp only [sumN]
    by_cases e : t = k
    · rw [sumN_zero f k (fun i hi => h i (by omega)), e]; omega
    · rw [ih (by omega), h k (fun e' => e e'.symm)]; omega
theorem sumN_split (f : Nat → Nat) (k l : Nat) : sumN f (k + l) = sumN f k + sumN (fun i => f (k + i)) l := by
  induction l with
  | zero => rfl
  | succ l ih => rw [← Nat.add_assoc]; simp only [sumN]; rw [ih]; omega
/-- Each one is counted where it lies. -/
theorem sumN_cnt (t : Nat → Nat) (q : Nat → Bool) (N m : Nat) (h : ∀ k, k < m → t k < N) : sumN (fun i => cntB (fun k => t k == i && q k) m) N = cntB q m := by
  induction m with
  | zero => exact sumN_zero _ _ (fun _ _ => rfl)
  | succ m ih =>
    have e : (fun i => cntB (fun k => t k == i && q k) (m + 1)) = (fun i => cntB (fun k => t k == i && q k) m + (if (t m == i && q m) = true then 1 else 0)) := rfl
    rw [e, sumN_add, ih (fun k hk => h k (by omega))]
    show _ = cntB q m + _
    congr 1
    rw [sumN_one _ N (t m) (h m (by omega)) (fun i hi => by
      show (if _ then 1 else 0) = 0
      rw [if_neg (by simp; intro e; exact absurd e.symm hi)])]
    show (if (t m == t m && q m) = true then 1 else 0) = _
    simp
/-- A counter behind a jump. -/
def stp (n : Int) (b : Bool) (most : Int) : Int := if b = true then min (n + 1) most else max (n - 1) 0
theorem stp_rng {n most : Int} (b : Bool) (h0 : 0 ≤ n) (h1 : n ≤ most) : 0 ≤ stp n b most ∧ stp n b most ≤ most := by
  unfold stp
  split <;> omega
/-- The counter. -/
def ct (most from' : Int) (J : Nat → Bool) : Nat → Int
  | 0 => from'
  | j + 1 => stp (ct most from' J j) (J j) most
theorem ct_rng {most from' : Int} (J : Nat → Bool) (h0 : 0 ≤ from') (h1 : from' ≤ most) (j : Nat) : 0 ≤ ct most from' J j ∧ ct most from' J j ≤ most := by
  induction j with
  | zero => exact ⟨h0, h1⟩
  | succ j ih => exact stp_rng (J j) ih.1 ih.2
/-- Its guess. -/
def cg (most from' half : Int) (J : Nat → Bool) (j : Nat) : Bool := decide (half ≤ ct most from' J j)
/-- How many jumps are not guessed so. -/
def msB (J g : Nat → Bool) (m : Nat) : Nat := cntB (fun j => J j != g j) m
theorem msB_le (J g : Nat → Bool) (m : Nat) : msB J g m ≤ m := cntB_le _ _
theorem still_sum (J : Nat → Bool) (y : Bool) (m : Nat) : msB J (fun _ => y) m + msB J (fun _ => !y) m = m :=
  cntB_not _ _ m (fun j _ => by cases J j <;> cases y <;> rfl)
theorem count_bound (most from' half : Int) (J : Nat → Bool) (m : Nat) (h0 : 0 ≤ from') (h1 : from' ≤ most) (hm : most = 2 * half - 1) :
    (msB J (cg most from' half J) m : Int) + max (half - ct most from' J m) 0 ≤ 2 * (msB J (fun _ => true) m : Int) + max (half - from') 0 ∧
    (msB J (cg most from' half J) m : Int) + max (ct most from' J m - (half - 1)) 0 ≤ 2 * (msB J (fun _ => false) m : Int) + max (from' - (half - 1)) 0 := by
  induction m with
  | zero => simp only [msB, cntB, ct]; omega
  | succ m ih =>
    have hr := ct_rng J h0 h1 m
    have hs : ct most from' J (m + 1) = stp (ct most from' J m) (J m) most := rfl
    have e (g : Nat → Bool) : msB J g (m + 1) = msB J g m + (if (J m != g m) = true then 1 else 0) := rfl
    have hc : cg most from' half J m = decide (half ≤ ct most from' J m) := rfl
    rw [e, e, e, hs, hc]
    generalize ct most from' J m = c at *
    generalize msB J (cg most from' half J) m = x at *
    generalize msB J (fun _ => true) m = y at *
    generalize msB J (fun _ => false) m = z at *
    unfold stp
    rcases J m with _ | _ <;> by_cases hh : half ≤ c <;> simp [hh] <;> omega
theorem count_law (most from' half : Int) (J : Nat → Bool) (m : Nat) (y : Bool) (h0 : 0 ≤ from') (h1 : from' ≤ most) (hm : most = 2 * half - 1) :
    (msB J (cg most from' half J) m : Int) ≤ 2 * (msB J (fun _ => y) m : Int) + half := by
  have := count_bound most from' half J m h0 h1 hm
  rcases y with _ | _ <;> omega
/-- The way that the last ones went. -/
def tw (s : Nat) (J : Nat → Bool) : Nat → Nat
  | 0 => 0
  | j + 1 => (2 * tw s J j + (J j).toNat) % 2 ^ s
theorem pow_pos2 (s : Nat) : 0 < 2 ^ s := Nat.pow_pos (by omega)
theorem tw_lt (s : Nat) (J : Nat → Bool) (j : Nat) : tw s J j < 2 ^ s := by
  cases j with
  | zero => exact pow_pos2 s
  | succ j => exact Nat.mod_lt _ (pow_pos2 s)
/-- The counters of the ways. -/
def tb (s : Nat) (J : Nat → Bool) : Nat → Nat → Int
  | 0, _ => 1
  | j + 1, i => if i = tw s J j then stp (tb s J j (tw s J j)) (J j) 3 else tb s J j i
theorem tb_rng (s : Nat) (J : Nat → Bool) (j i : Nat) : 0 ≤ tb s J j i ∧ tb s J j i ≤ 3 := by
  induction j generalizing i with
  | zero => simp [tb]
  | succ j ih =>
    simp only [tb]
    split
    · exact stp_rng (J j) (ih _).1 (ih _).2
    · exact ih i
/-- The guess by what went before. -/
def pg (s : Nat) (J : Nat → Bool) (j : Nat) : Bool := decide (2 ≤ tb s J j (tw s J j))
/-- How often each way was followed by a jump, or by none. -/
def yn (s : Nat) (J : Nat → Bool) (v : Bool) (m i : Nat) : Nat := cntB (fun k => tw s J k == i && (J k == v)) m
theorem yn_le (s : Nat) (J : Nat → Bool) (v : Bool) (m i : Nat) : yn s J v m i ≤ m := cntB_le _ _
theorem yn_succ (s : Nat) (J : Nat → Bool) (v : Bool) (m i : Nat) : yn s J v (m + 1) i = yn s J v m i + (if i = tw s J m then (if J m = v then 1 else 0) else 0) := by
  show yn s J v m i + _ = _
  congr 1
  by_cases h : i = tw s J m
  · subst h; rcases hj : J m with _ | _ <;> cases v <;> simp [hj]
  · rw [if_neg h, if_neg (by simp; intro e; exact absurd e.symm h)]
/-- What the best table gets wrong. -/
def bt (s : Nat) (J : Nat → Bool) (m : Nat) : Nat := sumN (fun i => min (yn s J true m i) (yn s J false m i)) (2 ^ s)
theorem past_bound (s : Nat) (J : Nat → Bool) (m i : Nat) :
    (cntB (fun k => tw s J k == i && (J k != pg s J k)) m : Int) + max (2 - tb s J m i) 0 ≤ 2 * (yn s J false m i : Int) + 1 ∧
    (cntB (fun k => tw s J k == i && (J k != pg s J k)) m : Int) + max (tb s J m i - 1) 0 ≤ 2 * (yn s J true m i : Int) := by
  induction m with
  | zero => simp only [yn, cntB, tb]; omega
  | succ m ih =>
    have hr := tb_rng s J m i
    rw [yn_succ, yn_succ]
    have e : cntB (fun k => tw s J k == i && (J k != pg s J k)) (m + 1) = cntB (fun k => tw s J k == i && (J k != pg s J k)) m + (if (tw s J m == i && (J m != pg s J m)) = true then 1 else 0) := rfl
    rw [e]
    have hs : tb s J (m + 1) i = if i = tw s J m then stp (tb s J m (tw s J m)) (J m) 3 else tb s J m i := rfl
    have hp : pg s J m = decide (2 ≤ tb s J m (tw s J m)) := rfl
    rw [hs, hp]
    by_cases h : i = tw s J m
    · rw [← h]
      generalize tb s J m i = c at *
      generalize cntB (fun k => tw s J k == i && (J k != pg s J k)) m = x at *
      generalize yn s J false m i = y at *
      generalize yn s J true m i = z at *
      unfold stp
      rcases J m with _ | _ <;> by_cases hh : 2 ≤ c <;> simp [hh] <;> omega
    · have h' : (tw s J m == i) = false := by rw [beq_eq_false_iff_ne]; exact fun e => h e.symm
      simp only [h', if_neg h, Bool.false_and]
      simpa using ih
theorem past_law (s : Nat) (J : Nat → Bool) (m : Nat) : msB J (pg s J) m ≤ 2 * bt s J m + 2 ^ s := by
  unfold msB bt
  rw [← sumN_cnt (tw s J) (fun k => J k != pg s J k) (2 ^ s) m (fun k _ => tw_lt s J k), ← sumN_twice]
  refine sumN_mono _ (fun i _ => ?_)
  have := past_bound s J m i
  show cntB (fun k => tw s J k == i && (J k != pg s J k)) m ≤ 2 * min (yn s J true m i) (yn s J false m i) + 1
  omega
theorem tw_zero (J : Nat → Bool) (j : Nat) : tw 0 J j = 0 := by have := tw_lt 0 J j; omega
theorem past_zero (J : Nat → Bool) (m : Nat) : msB J (pg 0 J) m = msB J (cg 3 1 2 J) m := by
  refine cntB_congr m (fun j _ => ?_)
  have : ∀ j, tb 0 J j 0 = ct 3 1 J j := by
    intro j
    induction j with
    | zero => rfl
    | succ j ih => simp only [tb, ct, tw_zero, if_true]; rw [ih]
  show (J j != decide (2 ≤ tb 0 J j (tw 0 J j))) = (J j != decide (2 ≤ ct 3 1 J j))
  rw [tw_zero, this]
/-- The counter that chooses. -/
def cn (a b J : Nat → Bool) : Nat → Int
  | 0 => 1
  | j + 1 => if a j = b j then cn a b J j else stp (cn a b J j) (b j == J j) 3
theorem cn_rng (a b J : Nat → Bool) (j : Nat) : 0 ≤ cn a b J j ∧ cn a b J j ≤ 3 := by
  induction j with
  | zero => simp [cn]
  | succ j ih =>
    simp only [cn]
    split
    · exact ih
    · exact stp_rng _ ih.1 ih.2
/-- The guess that is chosen. -/
def chg9 (a b J : Nat → Bool) (j : Nat) : Bool := if 2 ≤ cn a b J j then b j else a j
theorem choose_bound (a b J : Nat → Bool) (m : Nat) :
    (msB J (chg9 a b J) m : Int) + max (2 - cn a b J m) 0 ≤ 2 * (msB J b m : Int) + 1 ∧ (msB J (chg9 a b J) m : Int) + max (cn a b J m - 1) 0 ≤ 2 * (msB J a m : Int) := by
  induction m with
  | zero => simp only [msB, cntB, cn]; omega
  | succ m ih =>
    have hr := cn_rng a b J m
    have e (g : Nat → Bool) : msB J g (m + 1) = msB J g m + (if (J m != g m) = true then 1 else 0) := rfl
    have hs : cn a b J (m + 1) = if a m = b m then cn a b J m else stp (cn a b J m) (b m == J m) 3 := rfl
    have hc : chg9 a b J m = if 2 ≤ cn a b J m then b m else a m := rfl
    rw [e, e, e, hs, hc]
    generalize cn a b J m = c at *
    generalize msB J (chg9 a b J) m = x at *
    generalize msB J a m = y at *
    generalize msB J b m = z at *
    unfold stp
    rcases J m with _ | _ <;> rcases a m with _ | _ <;> rcases b m with _ | _ <;> by_cases hh : 2 ≤ c <;> simp [hh] <;> omega
theorem choose_law (a b J : Nat → Bool) (m : Nat) : msB J (chg9 a b J) m ≤ 2 * min (msB J a m) (msB J b m) + 2 := by
  have := choose_bound a b J m
  omega
theorem choose_same (a J : Nat → Bool) (m : Nat) : msB J (chg9 a a J) m = msB J a m :=
  cntB_congr m (fun j _ => by show (J j != chg9 a a J j) = _; unfold chg9; split <;> rfl)
theorem tw_mod (s : Nat) (J : Nat → Bool) (j : Nat) : tw s J j = tw (s + 1) J j % 2 ^ s := by
  induction j with
  | zero => simp [tw]
  | succ j ih =>
    have hd : 2 ^ s ∣ 2 ^ (s + 1) := ⟨2, by rw [Nat.pow_succ]⟩
    simp only [tw]
    rw [ih, Nat.mod_mod_of_dvd _ hd]
    rw [Nat.add_mod, Nat.mul_mod, Nat.mod_mod, ← Nat.mul_mod, ← Nat.add_mod]
theorem yn_two (s : Nat) (J : Nat → Bool) (v : Bool) (m i : Nat) (hi : i < 2 ^ s) : yn s J v m i = yn (s + 1) J v m i + yn (s + 1) J v m (2 ^ s + i) := by
  induction m with
  | zero => rfl
  | succ m ih =>
    rw [yn_succ, yn_succ, yn_succ, ih]
    have h1 := tw_mod s J m
    have h2 := tw_lt (s + 1) J m
    have h3 : 2 ^ (s + 1) = 2 ^ s + 2 ^ s := by rw [Nat.pow_succ]; omega
    generalize tw (s + 1) J m = t at *
    generalize tw s J m = u at *
    generalize (if J m = v then 1 else 0) = z at *
    by_cases ht : t < 2 ^ s
    · rw [Nat.mod_eq_of_lt ht] at h1
      subst h1
      rw [if_neg (show ¬ 2 ^ s + i = u by omega)]
      omega
    · have h4 : t % 2 ^ s = t - 2 ^ s := by
        rw [Nat.mod_eq_sub_mod (by omega), Nat.mod_eq_of_lt (by omega)]
      rw [h4] at h1
      rw [if_neg (show ¬ i = t by omega)]
      by_cases h5 : i = u
      · rw [if_pos h5, if_pos (by omega)]; omega
      · rw [if_neg h5, if_neg (by omega)]; omega
theorem best_more (s : Nat) (J : Nat → Bool) (m : Nat) : bt (s + 1) J m ≤ bt s J m := by
  unfold bt
  rw [show 2 ^ (s + 1) = 2 ^ s + 2 ^ s by rw [Nat.pow_succ]; omega, sumN_split, ← sumN_add]
  refine sumN_mono _ (fun i hi => ?_)
  show min (yn (s + 1) J true m i) (yn (s + 1) J false m i) + min (yn (s + 1) J true m (2 ^ s + i)) (yn (s + 1) J false m (2 ^ s + i)) ≤ min (yn s J true m i) (yn s J false m i)
  rw [yn_two s J true m i hi, yn_two s J false m i hi]
  omega
theorem yn_sum (s : Nat) (J : Nat → Bool) (v : Bool) (m : Nat) : sumN (yn s J v m) (2 ^ s) = cntB (fun k => J k == v) m :=
  sumN_cnt (tw s J) (fun k => J k == v) (2 ^ s) m (fun k _ => tw_lt s J k)
theorem still_is (J : Nat → Bool) (v : Bool) (m : Nat) : cntB (fun k => J k == v) m = msB J (fun _ => !v) m :=
  cntB_congr m (fun j _ => by cases J j <;> cases v <;> rfl)
theorem best_still (s : Nat) (J : Nat → Bool) (m : Nat) : bt s J m ≤ min (msB J (fun _ => true) m) (msB J (fun _ => false) m) := by
  have h := sumN_min (yn s J true m) (yn s J false m) (2 ^ s)
  rw [yn_sum, yn_sum, still_is, still_is] at h
  show sumN (fun i => min (yn s J true m i) (yn s J false m i)) (2 ^ s) ≤ _
  simp only [Bool.not_true, Bool.not_false] at h
  omega
theorem best_zero (J : Nat → Bool) (m : Nat) : bt 0 J m = min (msB J (fun _ => true) m) (msB J (fun _ => false) m) := by
  have h1 := yn_sum 0 J true m
  have h2 := yn_sum 0 J false m
  rw [still_is] at h1 h2
  show 0 + min (yn 0 J true m 0) (yn 0 J false m 0) = _
  change 0 + yn 0 J true m 0 = _ at h1
  change 0 + yn 0 J false m 0 = _ at h2
  simp only [Bool.not_true, Bool.not_false] at h1 h2
  omega
theorem bt_le (s : Nat) (J : Nat → Bool) (m : Nat) : bt s J m ≤ m := by
  have h1 := best_still s J m
  have h2 := msB_le J (fun _ => true) m
  omega
end Go.Proofs.Ytfmcmndhghfoeaa
