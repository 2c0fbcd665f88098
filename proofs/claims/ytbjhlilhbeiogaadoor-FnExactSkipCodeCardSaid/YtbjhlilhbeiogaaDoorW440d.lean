/- Ways through a program: plain facts. -/
import Derived.Test.YtbjhlilhbeiogaaDoorG410
namespace Go.Proofs.YtbjhlilhbeiogaaDoor
open Go.RowKit
/-- y is on a way from a; no way goes on behind one that is cut. -/
def Way (F : Nat → Ins) (n : Nat) (cut : Nat → Bool) (a y : Nat) : Prop :=
  ∀ X : Nat → Prop, X a → (∀ x z : Nat, X x → x < n → cut x = false → (z : Int) ∈ nxI (F x) x → X z) → X y
theorem Way.start (F : Nat → Ins) (n : Nat) (cut : Nat → Bool) (a : Nat) : Way F n cut a a := fun _ h _ => h
theorem Way.step {F : Nat → Ins} {n : Nat} {cut : Nat → Bool} {a x y : Nat} (h : Way F n cut a x) (hx : x < n) (hc : cut x = false) (hy : (y : Int) ∈ nxI (F x) x) : Way F n cut a y :=
  fun X h0 hs => hs x y (h X h0 hs) hx hc hy
/-- What comes next is in the program or its end. -/
theorem nx_in {F : Nat → Ins} {n x : Nat} {z : Int} (hv : vcB n F = true) (hx : x < n) (hz : z ∈ nxI (F x) x) : ∃ y : Nat, z = y ∧ y ≤ n := by
  have hk := okI_k hv hx
  have one : ∀ z : Int, z = (x : Int) + 1 → ∃ y : Nat, z = y ∧ y ≤ n := fun z e => ⟨x + 1, by omega, by omega⟩
  have two : jmpB (F x).op.toList = true → ∀ z : Int, z = (F x).k → ∃ y : Nat, z = y ∧ y ≤ n := fun hj z e => by
    obtain ⟨h0, h1⟩ := hk hj
    exact ⟨z.toNat, by omega, by omega⟩
  unfold nxI at hz
  split at hz
  · cases hz
  · split at hz
    · rename_i h8
      exact two (by unfold jmpB; rw [h8]; simp) z (by simpa using hz)
    · split at hz
      · rename_i h7
        split at hz
        · exact one z (by simpa using hz)
        · rcases (show z = (x : Int) + 1 ∨ z = (F x).k by simpa using hz) with e | e
          · exact one z e
          · exact two (by unfold jmpB; rw [h7]; rfl) z e
      · exact one z (by simpa using hz)
/-- How many of the first k are not met. -/
def unm (M : Nat → Bool) : Nat → Nat
  | 0 => 0
  | k + 1 => unm M k + (if M k = true then 0 else 1)
theorem unm_congr (M M' : Nat → Bool) : ∀ k, (∀ x, x < k → M x = M' x) → unm M k = unm M' k := by
  intro k
  induction k with
  | zero => intro _; rfl
  | succ k ih =>
    intro h
    show unm M k + _ = unm M' k + _
    rw [ih (fun x hx => h x (by omega)), h k (by omega)]
theorem unm_set (M : Nat → Bool) (y : Nat) (hy : M y = false) : ∀ k, y < k → unm (fun x => if x = y then true else M x) k + 1 = unm M k := by
  intro k
  induction k with
  | zero => intro h; omega
  | succ k ih =>
    intro h
    show unm _ k + (if (if k = y then true else M k) = true then 0 else 1) + 1 = unm M k + (if M k = true then 0 else 1)
    by_cases e : k = y
    · subst e
      rw [if_pos rfl, hy, if_pos rfl, if_neg (by simp), unm_congr _ M k (fun x hx => by rw [if_neg (by omega)])]
    · rw [if_neg e]
      have := ih (by omega)
      omega
theorem unm_one (a : Nat) : ∀ k, a < k → unm (fun x => x == a) k + 1 = k := by
  intro k
  induction k with
  | zero => intro h; omega
  | succ k ih =>
    intro h
    show unm _ k + (if (k == a) = true then 0 else 1) + 1 = k + 1
    by_cases e : k = a
    · subst e
      rw [if_pos (by simp)]
      have : unm (fun x => x == k) k = k := by
        have hh : ∀ j, j ≤ k → unm (fun x => x == k) j = j := by
          intro j
          induction j with
          | zero => intro _; rfl
          | succ j ih2 =>
            intro hj
            show unm _ j + (if (j == k) = true then 0 else 1) = j + 1
            rw [ih2 (by omega), if_neg (by simp; omega)]
        exact hh k (Nat.le_refl _)
      omega
    · rw [if_neg (by simpa using e)]
      have := ih (by omega)
      omega
/-- A search under way: pre have come, st are ahead, M are met; what comes next behind those of cl is met. -/
structure Dfs (F : Nat → Ins) (n : Nat) (cut : Nat → Bool) (a : Nat) (cl pre st : List Nat) (M : Nat → Bool) : Prop where
  beg : M a = true
  mem : ∀ x, M x = true ↔ (x ∈ pre ∨ x ∈ st)
  cnt : pre.length + st.length + unm M (n + 1) = n + 1
  way : ∀ x, M x = true → x ≤ n ∧ Way F n cut a x
  closed : ∀ x, x ∈ cl → x < n → cut x = false → ∀ y : Nat, (y : Int) ∈ nxI (F x) x → M y = true
section
variable {F : Nat → Ins} {n : Nat} {cut : Nat → Bool} {a : Nat} {cl pre st : List Nat} {M : Nat → Bool}
theorem Dfs.first (ha : a ≤ n) : Dfs F n cut a [] [] [a] (fun x => x == a) := by
  refine ⟨by simp, fun x => by simp, ?_, fun x hx => ?_, fun x hx => by cases hx⟩
  · have := unm_one a (n + 1) (by omega)
    simp
    omega
  · obtain rfl : x = a := by simpa using hx
    exact ⟨ha, Way.start _ _ _ _⟩
theorem Dfs.pop {x : Nat} (h : Dfs F n cut a cl pre (st ++ [x]) M) : Dfs F n cut a cl (pre ++ [x]) st M := by
  refine ⟨h.beg, fun z => ?_, ?_, h.way, h.closed⟩
  · rw [h.mem z]
    simp only [List.mem_append, List.mem_singleton]
    constructor
    · rintro (h | h | h)
      · exact .inl (.inl h)
      · exact .inr h
      · exact .inl (.inr h)
    · rintro ((h | h) | h)
      · exact .inl h
      · exact .inr (.inr h)
      · exact .inr (.inl h)
  · have := h.cnt
    simp only [List.length_append, List.length_singleton] at this ⊢
    omega
theorem Dfs.push {y : Nat} (h : Dfs F n cut a cl pre st M) (hy : M y = false) (hn : y ≤ n) (hw : Way F n cut a y) : Dfs F n cut a cl pre (st ++ [y]) (fun x => if x = y then true else M x) := by
  have keep : ∀ x, M x = true → (if x = y then true else M x) = true := fun x hx => by
    by_cases e : x = y
    · rw [if_pos e]
    · rw [if_neg e]; exact hx
  refine ⟨keep _ h.beg, fun z => ?_, ?_, fun z hz => ?_, fun x hx hxn hc z hz => keep _ (h.closed x hx hxn hc z hz)⟩
  · show (if z = y then true else M z) = true ↔ _
    simp only [List.mem_append, List.mem_singleton]
    by_cases e : z = y
    · subst e
      rw [if_pos rfl]
      simp
    · rw [if_neg e, h.mem z]
      simp [e]
  · have h1 := h.cnt
    have h2 := unm_set M y hy (n + 1) (by omega)
    simp only [List.length_append, List.length_singleton]
    omega
  · by_cases e : z = y
    · subst e
      exact ⟨hn, hw⟩
    · have hz' : (if z = y then true else M z) = true := hz
      rw [if_neg e] at hz'
      exact h.way z hz'
theorem Dfs.close {x : Nat} (h : Dfs F n cut a cl pre st M) (hx : x < n → cut x = false → ∀ y : Nat, (y : Int) ∈ nxI (F x) x → M y = true) : Dfs F n cut a (cl ++ [x]) pre st M := by
  refine ⟨h.beg, h.mem, h.cnt, h.way, fun z hz hzn hc y hy => ?_⟩
  rcases List.mem_append.1 hz with hz | hz
  · exact h.closed z hz hzn hc y hy
  · obtain rfl : z = x := by simpa using hz
    exact hx hzn hc y hy
theorem Dfs.congr {M' : Nat → Bool} (h : Dfs F n cut a cl pre st M) (hM : ∀ x, M x = M' x) : Dfs F n cut a cl pre st M' := by
  obtain rfl : M = M' := funext hM
  exact h
/-- At the end just those on a way have come. -/
theorem Dfs.done (h : Dfs F n cut a pre pre [] M) (y : Nat) : y ∈ pre ↔ Way F n cut a y := by
  have e : ∀ x, M x = true ↔ x ∈ pre := fun x => by rw [h.mem x]; simp
  constructor
  · intro hy
    exact (h.way y ((e y).2 hy)).2
  · intro hy
    exact (e y).1 (hy (fun z => M z = true) h.beg (fun x z hx hxn hc hz => h.closed x ((e x).1 hx) hxn hc z hz))
theorem Dfs.few (h : Dfs F n cut a cl pre st M) : pre.length + st.length ≤ n + 1 := by
  have := h.cnt
  omega
end
end Go.Proofs.YtbjhlilhbeiogaaDoor
