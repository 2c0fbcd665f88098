/- A region that draws its order, whose last operation waits for all others: a condition on the world that holds ahead of the last operation alone. -/
import Derived.Test.YtbfgmmljegdbfaaDoorRows
import Derived.OrdersHeld
import Derived.StillTail
import Derived.Deep.RegionHeld
import Derived.Deep.RegionLawGrows
import Derived.Lib.Hide
namespace Go.Proofs.YtbfgmmljegdbfaaDoor
open Go
section
variable {P : Program} {ops : Array Oper} {Q : Exit → Act → World → Prop} {md : Region.Mode} {S : World → Prop} {n : Nat}
/-- Whatever order is picked from here on; S holds behind every operation ahead of number n. -/
def wpAnyG (P : Program) (md : Region.Mode) (ops : Array Oper) (Q : Exit → Act → World → Prop) (S : World → Prop) (n : Nat) : Nat → Array Bool → Act → World → Prop
  | 0, listed, a, w => Region.ready md ops listed = [] ∧ Q .normal a w
  | fuel + 1, listed, a, w =>
    (Region.ready md ops listed = [] → Q .normal a w) ∧
    ∀ i ∈ Region.ready md ops listed, wpOp P ops Q i (fun a' w' => (i < n → S w') ∧ wpAnyG P md ops Q S n fuel (listed.setIfInBounds i true) a' w') a w
theorem wpAny_of_G : ∀ (fuel : Nat) (listed : Array Bool) (a : Act) (w : World), wpAnyG P md ops Q S n fuel listed a w → wpAny P md ops Q fuel listed a w
  | 0, _, _, _, h => h
  | fuel + 1, _, _, _, h => ⟨h.1, fun i hi => wpOp_mono (fun a' w' h' => wpAny_of_G fuel _ a' w' h'.2) (h.2 i hi)⟩
theorem wpAnyG_first {i : Nat} {oi : Oper} {v : Value} (hi : ops[i]? = some oi) (hsel : ∀ (j : Nat) (o : Oper) cs b, ops[j]? = some o → o.op ≠ .select cs b)
    (hQ : ∀ c a w, Q (.panic c) (a.put oi.dst v) w → Q (.panic c) a w) (hs : Region.sinkB md ops n = true) (hc : Region.chainB md ops n = true) (hn : n < ops.size) (hin : i < n) :
    ∀ (fuel : Nat) (listed : Array Bool) (a : Act) (w : World), HeadInv md ops n listed →
      (∀ j oj, ops[j]? = some oj → j ≠ i → listed.getD j true = false → (∀ e ∈ oj.after, Region.binds md e = true → e.on ≠ i) → oi.apart ops oj = true) →
      i ∈ Region.ready md ops listed → YieldsIf P ops S oi v a → S w →
      wpAnyG P md ops Q S n fuel (listed.setIfInBounds i true) (a.put oi.dst v) w → wpAnyG P md ops Q S n (fuel + 1) listed a w := by
  intro fuel
  induction fuel with
  | zero =>
    intro listed a w inv _ hr hy hS H
    refine ⟨fun h => (by rw [h] at hr; cases hr), fun j hj => ?_⟩
    by_cases hji : j = i
    · subst hji; exact hy.wpOp hi hS ⟨fun _ => hS, H⟩
    · have := ready_mono hj hji
      rw [H.1] at this
      cases this
  | succ fuel ih =>
    intro listed a w inv hfree hr hy hS H
    refine ⟨fun h => (by rw [h] at hr; cases hr), fun j hj => ?_⟩
    have hun := (mem_ready.1 hr).1
    have hjn : j < n := by
      rcases Nat.lt_or_ge j n with h | h
      · exact h
      · exact absurd hj (tail_waits hs hc hn inv _ i rfl hin hun j h)
    by_cases hji : j = i
    · subst hji; exact hy.wpOp hi hS ⟨fun _ => hS, H⟩
    · have h1 := H.2 j (ready_mono hj hji)
      obtain ⟨hjun, oj, hoj, hall⟩ := mem_ready.1 hj
      have hnot : ∀ e ∈ oj.after, Region.binds md e = true → e.on ≠ i := fun e he hb heq => by
        have h1 := hall e he hb
        have h0 := (mem_ready.1 hr).1
        rw [heq] at h1
        rcases Nat.lt_or_ge i listed.size with h' | h'
        · simp [h'] at h0 h1; rw [h0] at h1; cases h1
        · simp [Array.getElem?_eq_none h'] at h1
      have h2 := wpOp_putIf hoj (hfree j oj hoj hji hjun hnot) (fun cs b => hsel i oi cs b hi) (fun cs b => hsel j oj cs b hoj) hQ hy h1
      have hfree' : ∀ k ok, ops[k]? = some ok → k ≠ i → (listed.setIfInBounds j true).getD k true = false →
          (∀ e ∈ ok.after, Region.binds md e = true → e.on ≠ i) → oi.apart ops ok = true := fun k ok hk hki hun hno => by
        refine hfree k ok hk hki ?_ hno
        by_cases hjk : j = k
        · subst hjk; exact hjun
        · rw [getD_set_ne true hjk] at hun; exact hun
      refine wpOp_mono (fun a' w' h3 => ⟨fun _ => h3.2.1 hjn, ih (listed.setIfInBounds j true) a' w' (inv.set hj hjn) hfree' (ready_mono hr (Ne.symm hji)) h3.1 (h3.2.1 hjn) ?_⟩) h2
      rw [Array.setIfInBounds_comm _ _ hji]
      exact h3.2.2
end
section
variable {P : Program} {l : List Oper} {Q : Exit → Act → World → Prop} {S : World → Prop} {n : Nat}
/-- From here on, in a walk. -/
def WG (P : Program) (l : List Oper) (Q : Exit → Act → World → Prop) (S : World → Prop) (n fuel : Nat) (listed : List Bool) (a : Act) (w : World) : Prop :=
  HeadInv .any l.toArray n listed.toArray → wpAnyG P .any l.toArray Q S n fuel listed.toArray a w
/-- The beginning. -/
theorem wp_region_G {id : Nat} {a : Act} {w : World} (hm : P.follows .mixedOrders = true) (S : World → Prop) (n N : Nat) (L : List Bool) (hN : l.length = N) (hL : List.replicate N false = L) (h : WG P l Q S n N L a w.drew) : (Code.region id l.toArray true).wp P Q a w := by
  subst hN
  subst hL
  refine wp_region_any hm (wpAny_of_G (S := S) (n := n) _ _ _ _ ?_)
  have inv : HeadInv .any l.toArray n (List.replicate l.length false).toArray := by
    refine ⟨by simp, fun j oj _ hl => ?_, fun t ht ht' => ?_⟩
    · rw [List.toArray_replicate, getD_replicate_false] at hl
      cases hl
    · rw [List.toArray_replicate]
      simp at ht'
      simp [ht']
  have key := h inv
  rw [List.toArray_replicate] at key
  simpa using key
/-- Number i may be taken first. -/
theorem WG.take {i : Nat} {oi : Oper} {v : Value} {fuel : Nat} {listed : List Bool} {a : Act} {w : World} (hi : l[i]? = some oi)
    (hsel : Region.noSelect l.toArray = true) (hs : Region.sinkB .any l.toArray n = true) (hc : Region.chainB .any l.toArray n = true) (hn : decide (n < l.length ∧ i < n) = true)
    (hf : Region.free .any l.toArray listed.toArray i = true) (hr : (Region.ready .any l.toArray listed.toArray).contains i = true)
    (hQ : ∀ c a w, Q (.panic c) (a.put oi.dst v) w → Q (.panic c) a w) (hy : YieldsIf P l.toArray S oi v a) (hS : S w)
    (h : WG P l Q S n fuel (listed.set i true) (a.put oi.dst v) w) : WG P l Q S n (fuel + 1) listed a w := fun inv => by
  have hn' := of_decide_eq_true hn
  have hi' : l.toArray[i]? = some oi := by simpa using hi
  have hr' : i ∈ Region.ready .any l.toArray listed.toArray := by simpa using hr
  have inv' := inv.set hr' hn'.2
  have e : listed.toArray.setIfInBounds i true = (listed.set i true).toArray := by simp
  rw [e] at inv'
  have h' := h inv'
  rw [← e] at h'
  exact wpAnyG_first hi' (Region.noSelect_spec hsel) hQ hs hc (by simpa using hn'.1) hn'.2 fuel listed.toArray a w inv (Region.free_spec hi' hf) hr' hy hS h'
/-- Whichever comes up of those that may: behind it S is shown anew. -/
theorem WG.all {rs : List Nat} {fuel : Nat} {listed : List Bool} {a : Act} {w : World} (hr : Region.ready .any l.toArray listed.toArray = rs) (hne : rs ≠ []) (hlt : ∀ i ∈ rs, i < n)
    (h : ∀ i ∈ rs, wpOp P l.toArray Q i (fun a' w' => S w' ∧ WG P l Q S n fuel (listed.set i true) a' w') a w) : WG P l Q S n (fuel + 1) listed a w := fun inv => by
  refine ⟨fun h0 => absurd (hr ▸ h0) hne, fun i hi => wpOp_mono (fun a' w' h' => ⟨fun _ => h'.1, ?_⟩) (h i (hr ▸ hi))⟩
  have inv' := inv.set hi (hlt i (hr ▸ hi))
  have e : listed.toArray.setIfInBounds i true = (listed.set i true).toArray := by simp
  rw [e] at inv' ⊢
  exact h'.2 inv'
/-- The last one. -/
theorem WG.last {fuel : Nat} {listed : List Bool} {a : Act} {w : World} (hr : Region.ready .any l.toArray listed.toArray = [n]) (hr2 : Region.ready .any l.toArray (listed.set n true).toArray = [])
    (h : wpOp P l.toArray Q n (fun a' w' => Q .normal a' w') a w) : WG P l Q S n (fuel + 1) listed a w := fun _ => by
  refine ⟨fun h0 => (by rw [hr] at h0; cases h0), fun i hi => ?_⟩
  rw [hr, List.mem_singleton] at hi
  subst hi
  refine wpOp_mono (fun a' w' h' => ⟨fun hh => absurd hh (Nat.lt_irrefl _), ?_⟩) h
  have e : listed.toArray.setIfInBounds i true = (listed.set i true).toArray := by simp
  rw [e]
  cases fuel with
  | zero => exact ⟨hr2, h'⟩
  | succ f => exact ⟨fun _ => h', (by rw [hr2]; intro j hj; cases hj)⟩
/-- One operation that comes up, laid open. -/
theorem wpOp_lay {i : Nat} {o : Oper} {K0 : Act → World → Prop} {a : Act} {w : World} (hi : l[i]? = some o)
    (h : ∀ K : Act → World → Prop, RowKit.Hid (∀ a' w', K0 a' w' → K a' w') → if Region.wanted o (yielded l.toArray a.tmps) = true then Oper.wp P o a w K Q else K (a.put o.dst undef) w) : wpOp P l.toArray Q i K0 a w := by
  have h0 := h K0 (Lib.hid fun _ _ h => h)
  unfold wpOp
  simp only [List.getElem?_toArray, hi]
  split
  · rename_i hw
    rw [if_pos hw] at h0
    exact .inl h0
  · rename_i hw
    rw [if_neg hw] at h0
    exact h0
end
end Go.Proofs.YtbfgmmljegdbfaaDoor
