/- What ShrinkCode leaves does as the program, and has nothing to drop: plain facts. -/
import Derived.Test.YtjeflaodeafhbaaDoorG609
import Derived.Test.YtjeflaodeafhbaaDoorW613
namespace Go.Proofs.YtjeflaodeafhbaaDoor
open Go.RowKit
set_option linter.unusedSimpArgs false
theorem way_same {F F' : Nat → Ins} {n : Nat} {cut : Nat → Bool} (h : ∀ x, x < n → F x = F' x) {a y : Nat} (hw : Way F n cut a y) : Way F' n cut a y :=
  fun X h0 hs => hw X h0 (fun x z hx hxn hc hz => hs x z hx hxn hc (by rw [← h x hxn]; exact hz))
theorem uw_same {F F' : Nat → Ins} {n : Nat} (h : ∀ x, x < n → F x = F' x) (x : Nat) : urO F n x = urO F' n x ∧ uwO F n x = uwO F' n x := by
  unfold urO uwO
  by_cases hx : x < n
  · rw [if_pos hx, if_pos hx, if_pos hx, if_pos hx, h x hx]
    exact ⟨rfl, rfl⟩
  · rw [if_neg hx, if_neg hx, if_neg hx, if_neg hx]
    exact ⟨rfl, rfl⟩
theorem need_same {F F' : Nat → Ins} {n : Nat} (h : ∀ x, x < n → F x = F' x) {r x : Nat} (hn : Need F n r x) : Need F' n r x := by
  obtain ⟨y, hy, hw, hr⟩ := hn
  refine ⟨y, hy, ?_, by rw [← (uw_same h y).1]; exact hr⟩
  have h2 := way_same h hw
  have e : (fun z => bt (uwO F n z) r) = (fun z => bt (uwO F' n z) r) := funext fun z => by rw [(uw_same h z).2]
  rw [e] at h2
  exact h2
/-- What is kept is one's alone. -/
theorem DropG.uniq {F F' : Nat → Ins} {n : Nat} {g g' : Nat → Bool} (hd : DropG F n g) (hd' : DropG F' n g') (h : ∀ x, x < n → F x = F' x) : ∀ i, g i = g' i := by
  obtain ⟨f, gx, hf, hgx, rfl⟩ := hd
  obtain ⟨f', gx', hf', hgx', rfl⟩ := hd'
  have hb : ∀ x, x < n → F' x = F x := fun x hx => (h x hx).symm
  intro i
  unfold kpD
  have e1 : f i = f' i := by
    rw [Bool.eq_iff_iff, hf i, hf' i]
    exact ⟨way_same h, way_same hb⟩
  have e2 : gx (i + 1) = gx' (i + 1) := S4.ext (hgx _).1 (hgx' _).1 (fun r hr => by
    rw [Bool.eq_iff_iff, (hgx _).2 r hr, (hgx' _).2 r hr]
    exact ⟨need_same h, need_same hb⟩)
  rw [e1, e2, (uw_same h i).2]
theorem ctK_congr {g g' : Nat → Bool} : ∀ n, (∀ i, i < n → g i = g' i) → ctK g n = ctK g' n := by
  intro n
  induction n with
  | zero => exact fun _ => rfl
  | succ n ih =>
    intro h
    show ctK g n + (if g n = true then 1 else 0) = ctK g' n + (if g' n = true then 1 else 0)
    rw [ih (fun i hi => h i (by omega)), h n (by omega)]
theorem ctK_full {g : Nat → Bool} : ∀ n, ctK g n = n → ∀ i, i < n → g i = true ∧ ctK g i = i := by
  intro n
  induction n with
  | zero => exact fun _ i hi => absurd hi (Nat.not_lt_zero i)
  | succ n ih =>
    intro h i hi
    have hl := ctK_le g n
    have h1 : g n = true := by
      rcases e : g n with _ | _
      · rw [ctK_no e] at h
        omega
      · rfl
    rw [ctK_yes h1] at h
    by_cases e : i = n
    · rw [e]
      exact ⟨h1, by omega⟩
    · exact ih (by omega) i (by omega)
theorem ctK_all {g : Nat → Bool} : ∀ n, (∀ i, i < n → g i = true) → ∀ i, i ≤ n → ctK g i = i := by
  intro n h i hi
  induction i with
  | zero => rfl
  | succ i ih => rw [ctK_yes (h i (by omega)), ih (by omega)]
/-- Where all is kept nothing changes. -/
theorem koP_all {F : Nat → Ins} {n : Nat} {g : Nat → Bool} (hv : vcB n F = true) (h : ∀ i, i < n → g i = true) : ∀ j, j < n → koP F g n j = F j := by
  intro j hj
  have hc := ctK_all n h
  have h1 := koP_at (F := F) hj (h j hj)
  rw [hc j (by omega)] at h1
  rw [h1]
  rcases hjm : jmpB (F j).op.toList with _ | _
  · exact mvK_no hjm
  · rw [mvK_yes hjm]
    obtain ⟨k0, k1⟩ := okI_k hv hj hjm
    rw [hc _ (by omega), Int.toNat_of_nonneg k0]
theorem Chn.down {F : Nat → Ins} {n : Nat} {s : Nat → (Nat → Ins) × Nat} {k : Nat} (h : Chn F n s k) : ∀ j, (s (j + 1)).2 ≤ (s 1).2 := by
  intro j
  induction j with
  | zero => exact Nat.le_refl _
  | succ j ih =>
    obtain ⟨g, _, e⟩ := h.next (j + 1)
    have : (s (j + 1 + 1)).2 ≤ (s (j + 1)).2 := by
      rw [e]
      exact ctK_le g _
    omega
/-- Dropping once leaves no fewer. -/
theorem Chn.first {F : Nat → Ins} {n : Nat} {s : Nat → (Nat → Ins) × Nat} {k : Nat} (h : Chn F n s k) {g : Nat → Bool} (hd : DropG F n g) : (s (k + 1)).2 ≤ ctK g n := by
  have h1 := h.down k
  obtain ⟨g0, hd0, e⟩ := h.next 0
  rw [h.zero] at hd0 e
  have e2 : (s 1).2 = ctK g0 n := by rw [e]
  have hu := hd0.uniq hd (fun _ _ => rfl)
  rw [e2, ctK_congr n (fun i _ => hu i)] at h1
  exact h1
/-- What is left has nothing to drop. -/
theorem Chn.done {F : Nat → Ins} {n : Nat} {s : Nat → (Nat → Ins) × Nat} {k : Nat} (h : Chn F n s k) {g : Nat → Bool} (hd : DropG (s (k + 1)).1 (s (k + 1)).2 g) :
    ctK g (s (k + 1)).2 = (s (k + 1)).2 ∧ ∀ j, j < (s (k + 1)).2 → koP (s (k + 1)).1 g (s (k + 1)).2 j = (s (k + 1)).1 j := by
  obtain ⟨g0, hd0, e⟩ := h.next k
  have hl := h.last
  have hv := h.val k
  have hv2 := h.val (k + 1)
  have e1 : (s (k + 1)).1 = koP (s k).1 g0 (s k).2 := by rw [e]
  have e2 : ctK g0 (s k).2 = (s k).2 := by
    rw [e] at hl
    exact hl
  have hall := fun i hi => (ctK_full _ e2 i hi).1
  have hsame : ∀ j, j < (s k).2 → (s k).1 j = (s (k + 1)).1 j := fun j hj => by
    rw [e1]
    exact (koP_all hv hall j hj).symm
  rw [hl] at hd hv2 ⊢
  have hu := hd0.uniq hd hsame
  have hall2 : ∀ i, i < (s k).2 → g i = true := fun i hi => by
    rw [← hu i]
    exact hall i hi
  exact ⟨ctK_all _ hall2 _ (Nat.le_refl _), koP_all hv2 hall2⟩
/-- What is left does as the program. -/
theorem Chn.run {F : Nat → Ins} {n : Nat} {s : Nat → (Nat → Ins) × Nat} {k : Nat} (h : Chn F n s k) (st : Sta) (hs : OkS st) (h0 : st.at' = 0) (K : Nat) (hgo : ∀ i, i < K → sHalt n F (sN F st i) = false) (hh : sHalt n F (sN F st K) = true) :
    ∀ j, EndsBy (s j).1 (s j).2 st K (sN F st K).m := by
  intro j
  induction j with
  | zero =>
    rw [h.zero]
    exact ⟨K, Nat.le_refl _, hgo, hh, rfl⟩
  | succ j ih =>
    obtain ⟨K', k1, k2, k3, k4⟩ := ih
    obtain ⟨g, hd, e⟩ := h.next j
    have h2 := drop_run (h.val j) hd st hs h0 K' k2 k3
    rw [k4] at h2
    rw [e]
    exact h2.more k1
end Go.Proofs.YtjeflaodeafhbaaDoor
