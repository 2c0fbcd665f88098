/- A region that draws its order, whose last operation waits for all others: a condition on the world that holds ahead of the last operation alone. RunMachine and its model: what they answer. The model's run: the machine behind the steps, and how many. RunMachine and its model answer alike; runs put together. -/
import Derived.Test.YtkljjacailgdaaaDoorRows
import Derived.OrdersHeld
import Derived.StillTail
import Derived.Deep.RegionHeld
import Derived.Deep.RegionLawGrows
import Derived.Lib.Hide
import Derived.Test.YtkljjacailgdaaaDoorG96
import Derived.Test.YtkljjacailgdaaaDoorG77
import Derived.Deep.RegionHeld3
import Derived.Deep.DeepCutAuto
import Derived.Deep.AppendLies
import Derived.Deep.CutRange
namespace Go.Proofs.YtkljjacailgdaaaDoor
open Go
section
variable {P : Program} {ops : Array Oper} {Q : Exit → Act → World → Prop} {md : Region.Mode} {S : World → Prop} {n : Nat}
/-- Whatever order is picked from here on; S holds behind every operation ahead of number n. -/
def wpAnyG (P : Program) (md : Region.Mode) (ops : Array Oper) (Q : Exit → Act → World → Prop) (S : World → Prop) (n : Nat) : Nat → Array Bool → Act → World → Prop
  | 0, listed, a, w => Region.ready md ops listed = [] ∧ Q .normal a w
  | fuel + 1, listed, a, w =>
    (Region.ready md ops listed = [] → Q .normal a w) ∧
    ∀ i ∈ Region.ready md ops listed, wpOp P ops Q i (fun a' w' => (i < n → S w') ∧ wpAnyG P md ops Q S n fuel (listed.setIfInBounds i true) a' w') a w
theorem wpAny_of_G : ∀ (fuel : Nat) (listed : Array Bool) (a : Act) (w : World), wpAnyG P md ops Q S n fuel listed a w → wpAny P md ops Q fuel listed a w
  | 0, _, _, _, h => h
  | fuel + 1, _, _, _, h => ⟨h.1, fun i hi => wpOp_mono (fun a' w' h' => wpAny_of_G fuel _ a' w' h'.2) (h.2 i hi)⟩
theorem wpAnyG_first {i : Nat} {oi : Oper} {v : Value} (hi : ops[i]? = some oi) (hsel : ∀ (j : Nat) (o : Oper) cs b, ops[j]? = some o → o.op ≠ .select cs b)
    (hQ : ∀ c a w, Q (.panic c) (a.put oi.dst v) w → Q (.panic c) a w) (hs : Region.sinkB md ops n = true) (hc : Region.chainB md ops n = true) (hn : n < ops.size) (hin : i < n) :
    ∀ (fuel : Nat) (listed : Array Bool) (a : Act) (w : World), HeadInv md ops n listed →
      (∀ j oj, ops[j]? = some oj → j ≠ i → listed.getD j true = false → (∀ e ∈ oj.after, Region.binds md e = true → e.on ≠ i) → oi.apart ops oj = true) →
      i ∈ Region.ready md ops listed → YieldsIf P ops S oi v a → S w →
      wpAnyG P md ops Q S n fuel (listed.setIfInBounds i true) (a.put oi.dst v) w → wpAnyG P md ops Q S n (fuel + 1) listed a w := by
  intro fuel
  induction fuel with
  | zero =>
    intro listed a w inv _ hr hy hS H
    refine ⟨fun h => (by rw [h] at hr; cases hr), fun j hj => ?_⟩
    by_cases hji : j = i
    · subst hji; exact hy.wpOp hi hS ⟨fun _ => hS, H⟩
    · have := ready_mono hj hji
      rw [H.1] at this
      cases this
  | succ fuel ih =>
    intro listed a w inv hfree hr hy hS H
    refine ⟨fun h => (by rw [h] at hr; cases hr), fun j hj => ?_⟩
    have hun := (mem_ready.1 hr).1
    have hjn : j < n := by
      rcases Nat.lt_or_ge j n with h | h
      · exact h
      · exact absurd hj (tail_waits hs hc hn inv _ i rfl hin hun j h)
    by_cases hji : j = i
    · subst hji; exact hy.wpOp hi hS ⟨fun _ => hS, H⟩
    · have h1 := H.2 j (ready_mono hj hji)
      obtain ⟨hjun, oj, hoj, hall⟩ := mem_ready.1 hj
      have hnot : ∀ e ∈ oj.after, Region.binds md e = true → e.on ≠ i := fun e he hb heq => by
        have h1 := hall e he hb
        have h0 := (mem_ready.1 hr).1
        rw [heq] at h1
        rcases Nat.lt_or_ge i listed.size with h' | h'
        · simp [h'] at h0 h1; rw [h0] at h1; cases h1
        · simp [Array.getElem?_eq_none h'] at h1
      have h2 := wpOp_putIf hoj (hfree j oj hoj hji hjun hnot) (fun cs b => hsel i oi cs b hi) (fun cs b => hsel j oj cs b hoj) hQ hy h1
      have hfree' : ∀ k ok, ops[k]? = some ok → k ≠ i → (listed.setIfInBounds j true).getD k true = false →
          (∀ e ∈ ok.after, Region.binds md e = true → e.on ≠ i) → oi.apart ops ok = true := fun k ok hk hki hun hno => by
        refine hfree k ok hk hki ?_ hno
        by_cases hjk : j = k
        · subst hjk; exact hjun
        · rw [getD_set_ne true hjk] at hun; exact hun
      refine wpOp_mono (fun a' w' h3 => ⟨fun _ => h3.2.1 hjn, ih (listed.setIfInBounds j true) a' w' (inv.set hj hjn) hfree' (ready_mono hr (Ne.symm hji)) h3.1 (h3.2.1 hjn) ?_⟩) h2
      rw [Array.setIfInBounds_comm _ _ hji]
      exact h3.2.2
end
section
variable {P : Program} {l : List Oper} {Q : Exit → Act → World → Prop} {S : World → Prop} {n : Nat}
/-- From here on, in a walk. -/
def WG (P : Program) (l : List Oper) (Q : Exit → Act → World → Prop) (S : World → Prop) (n fuel : Nat) (listed : List Bool) (a : Act) (w : World) : Prop :=
  HeadInv .any l.toArray n listed.toArray → wpAnyG P .any l.toArray Q S n fuel listed.toArray a w
/-- The beginning. -/
theorem wp_region_G {id : Nat} {a : Act} {w : World} (hm : P.follows .mixedOrders = true) (S : World → Prop) (n N : Nat) (L : List Bool) (hN : l.length = N) (hL : List.replicate N false = L) (h : WG P l Q S n N L a w.drew) : (Code.region id l.toArray true).wp P Q a w := by
  subst hN
  subst hL
  refine wp_region_any hm (wpAny_of_G (S := S) (n := n) _ _ _ _ ?_)
  have inv : HeadInv .any l.toArray n (List.replicate l.length false).toArray := by
    refine ⟨by simp, fun j oj _ hl => ?_, fun t ht ht' => ?_⟩
    · rw [List.toArray_replicate, getD_replicate_false] at hl
      cases hl
    · rw [List.toArray_replicate]
      simp at ht'
      simp [ht']
  have key := h inv
  rw [List.toArray_replicate] at key
  simpa using key
/-- Number i may be taken first. -/
theorem WG.take {i : Nat} {oi : Oper} {v : Value} {fuel : Nat} {listed : List Bool} {a : Act} {w : World} (hi : l[i]? = some oi)
    (hsel : Region.noSelect l.toArray = true) (hs : Region.sinkB .any l.toArray n = true) (hc : Region.chainB .any l.toArray n = true) (hn : decide (n < l.length ∧ i < n) = true)
    (hf : Region.free .any l.toArray listed.toArray i = true) (hr : (Region.ready .any l.toArray listed.toArray).contains i = true)
    (hQ : ∀ c a w, Q (.panic c) (a.put oi.dst v) w → Q (.panic c) a w) (hy : YieldsIf P l.toArray S oi v a) (hS : S w)
    (h : WG P l Q S n fuel (listed.set i true) (a.put oi.dst v) w) : WG P l Q S n (fuel + 1) listed a w := fun inv => by
  have hn' := of_decide_eq_true hn
  have hi' : l.toArray[i]? = some oi := by simpa using hi
  have hr' : i ∈ Region.ready .any l.toArray listed.toArray := by simpa using hr
  have inv' := inv.set hr' hn'.2
  have e : listed.toArray.setIfInBounds i true = (listed.set i true).toArray := by simp
  rw [e] at inv'
  have h' := h inv'
  rw [← e] at h'
  exact wpAnyG_first hi' (Region.noSelect_spec hsel) hQ hs hc (by simpa using hn'.1) hn'.2 fuel listed.toArray a w inv (Region.free_spec hi' hf) hr' hy hS h'
/-- Whichever comes up of those that may: behind it S is shown anew. -/
theorem WG.all {rs : List Nat} {fuel : Nat} {listed : List Bool} {a : Act} {w : World} (hr : Region.ready .any l.toArray listed.toArray = rs) (hne : rs ≠ []) (hlt : ∀ i ∈ rs, i < n)
    (h : ∀ i ∈ rs, wpOp P l.toArray Q i (fun a' w' => S w' ∧ WG P l Q S n fuel (listed.set i true) a' w') a w) : WG P l Q S n (fuel + 1) listed a w := fun inv => by
  refine ⟨fun h0 => absurd (hr ▸ h0) hne, fun i hi => wpOp_mono (fun a' w' h' => ⟨fun _ => h'.1, ?_⟩) (h i (hr ▸ hi))⟩
  have inv' := inv.set hi (hlt i (hr ▸ hi))
  have e : listed.toArray.setIfInBounds i true = (listed.set i true).toArray := by simp
  rw [e] at inv' ⊢
  exact h'.2 inv'
/-- The last one. -/
theorem WG.last {fuel : Nat} {listed : List Bool} {a : Act} {w : World} (hr : Region.ready .any l.toArray listed.toArray = [n]) (hr2 : Region.ready .any l.toArray (listed.set n true).toArray = [])
    (h : wpOp P l.toArray Q n (fun a' w' => Q .normal a' w') a w) : WG P l Q S n (fuel + 1) listed a w := fun _ => by
  refine ⟨fun h0 => (by rw [hr] at h0; cases h0), fun i hi => ?_⟩
  rw [hr, List.mem_singleton] at hi
  subst hi
  refine wpOp_mono (fun a' w' h' => ⟨fun hh => absurd hh (Nat.lt_irrefl _), ?_⟩) h
  have e : listed.toArray.setIfInBounds i true = (listed.set i true).toArray := by simp
  rw [e]
  cases fuel with
  | zero => exact ⟨hr2, h'⟩
  | succ f => exact ⟨fun _ => h', (by rw [hr2]; intro j hj; cases hj)⟩
/-- One operation that comes up, laid open. -/
theorem wpOp_lay {i : Nat} {o : Oper} {K0 : Act → World → Prop} {a : Act} {w : World} (hi : l[i]? = some o)
    (h : ∀ K : Act → World → Prop, RowKit.Hid (∀ a' w', K0 a' w' → K a' w') → if Region.wanted o (yielded l.toArray a.tmps) = true then Oper.wp P o a w K Q else K (a.put o.dst undef) w) : wpOp P l.toArray Q i K0 a w := by
  have h0 := h K0 (Lib.hid fun _ _ h => h)
  unfold wpOp
  simp only [List.getElem?_toArray, hi]
  split
  · rename_i hw
    rw [if_pos hw] at h0
    exact .inl h0
  · rename_i hw
    rw [if_neg hw] at h0
    exact h0
end
end Go.Proofs.YtkljjacailgdaaaDoor

namespace Go.Proofs.YtkljjacailgdaaaDoor
open Go.RowKit
set_option linter.unusedSimpArgs false
/-- What runOf leaves, all but the states told. -/
def RunResE (k : Nat) (t : Sta) (d b : Bool) (w : World) (e : Ending) (w' : World) : Prop :=
  ∃ (A0 : Option Addr) (l0 c0 : Nat) (A3 : Option Addr) (c3 : Nat), e = .returned (.tuple #[.agg #[.slice A0 l0 c0, .slice A3 k c3, .int .i64 t.at', .int .i64 (t.r 0), .int .i64 (t.r 1), .int .i64 (t.r 2), .int .i64 (t.r 3), .int .i64 (t.m 0), .int .i64 (t.m 1), .int .i64 (t.m 2), .int .i64 (t.m 3), .int .i64 (t.m 4), .int .i64 (t.m 5), .int .i64 (t.m 6), .int .i64 (t.m 7), .bool d], .bool b]) ∧ w.grownBy w' none
theorem NoRun.resE {w : World} {e : Ending} {w' : World} (h : NoRun w e w') : RunResE 0 zSta false false w e w' := ⟨none, 0, 0, none, 0, h.1, h.2⟩
theorem YesRun.resE {A : Option Addr} {len cap : Nat} {F : Nat → Ins} {s : Sta} {fuel K : Nat} {w : World} {e : Ending} {w' : World} (hK : RunEnd len F s fuel K) (h : YesRun A len cap F s fuel w e w') : RunResE K (sN F s K) (sHalt len F (sN F s K)) true w e w' := by
  obtain ⟨k, A3, c3, hre, he, hst, hsep, hgr⟩ := h
  obtain rfl := hre.uniq hK
  exact ⟨A, len, cap, A3, c3, he, hgr⟩
/-- What RunMachine leaves. -/
def RunMRes (w : World) (at2 : Int) (k1 k2 : Nat) (g1 g2 : Nat → Int) (n : Int) (d : Bool) (e : Ending) (w' : World) : Prop :=
  ∃ B1 d1 B2 d2, e = .returned (.tuple #[MV at2 B1 k1 d1 B2 k2 d2, .int .i64 n, .bool d]) ∧ RM w' w.heap.size B1 k1 d1 B2 k2 d2 g1 g2 ∧ w.grownBy w' none
theorem Holds5.put3o {w : World} {g : Nat} {t : TypeId} {cs : Array Value} {r : Nat} (h : Holds5 w g t cs) (hne : g ≠ r) (x y z : Value) : Holds5 (((w.setCell ⟨r, 0, none⟩ x).setCell ⟨r, 1, none⟩ y).setCell ⟨r, 2, none⟩ z) g t cs :=
  ((h.other (p := ⟨r, 0, none⟩) hne x).other (p := ⟨r, 1, none⟩) hne y).other (p := ⟨r, 2, none⟩) hne z
theorem box3m {w : World} {g : Nat} {t : TypeId} {a b c : Value} (h : Holds5 w g t #[a, b, c]) : w.cell? ⟨g, 0, none⟩ = some a ∧ w.cell? ⟨g, 1, none⟩ = some b ∧ w.cell? ⟨g, 2, none⟩ = some c :=
  ⟨(h.look 0).trans rfl, (h.look 1).trans rfl, (h.look 2).trans rfl⟩
theorem runBox {wr : World} {R : Nat} {A0 : Option Addr} {l0 c0 : Nat} {A3 : Option Addr} {k c3 : Nat} {t : Sta} {d : Bool} (h : Holds5 wr R 84 #[.slice A0 l0 c0, .slice A3 k c3, .int .i64 t.at', .int .i64 (t.r 0), .int .i64 (t.r 1), .int .i64 (t.r 2), .int .i64 (t.r 3), .int .i64 (t.m 0), .int .i64 (t.m 1), .int .i64 (t.m 2), .int .i64 (t.m 3), .int .i64 (t.m 4), .int .i64 (t.m 5), .int .i64 (t.m 6), .int .i64 (t.m 7), .bool d]) : wr.cell? ⟨R, 1, none⟩ = some (.slice A3 k c3) ∧ wr.cell? ⟨R, 2, none⟩ = some (.int .i64 t.at') ∧ wr.cell? ⟨R, 3, none⟩ = some (.int .i64 (t.r 0)) ∧ wr.cell? ⟨R, 4, none⟩ = some (.int .i64 (t.r 1)) ∧ wr.cell? ⟨R, 5, none⟩ = some (.int .i64 (t.r 2)) ∧ wr.cell? ⟨R, 6, none⟩ = some (.int .i64 (t.r 3)) ∧ wr.cell? ⟨R, 7, none⟩ = some (.int .i64 (t.m 0)) ∧ wr.cell? ⟨R, 8, none⟩ = some (.int .i64 (t.m 1)) ∧ wr.cell? ⟨R, 9, none⟩ = some (.int .i64 (t.m 2)) ∧ wr.cell? ⟨R, 10, none⟩ = some (.int .i64 (t.m 3)) ∧ wr.cell? ⟨R, 11, none⟩ = some (.int .i64 (t.m 4)) ∧ wr.cell? ⟨R, 12, none⟩ = some (.int .i64 (t.m 5)) ∧ wr.cell? ⟨R, 13, none⟩ = some (.int .i64 (t.m 6)) ∧ wr.cell? ⟨R, 14, none⟩ = some (.int .i64 (t.m 7)) ∧ wr.cell? ⟨R, 15, none⟩ = some (.bool d) :=
  ⟨(h.look 1).trans rfl, (h.look 2).trans rfl, (h.look 3).trans rfl, (h.look 4).trans rfl, (h.look 5).trans rfl, (h.look 6).trans rfl, (h.look 7).trans rfl, (h.look 8).trans rfl, (h.look 9).trans rfl, (h.look 10).trans rfl, (h.look 11).trans rfl, (h.look 12).trans rfl, (h.look 13).trans rfl, (h.look 14).trans rfl, (h.look 15).trans rfl⟩
set_option maxRecDepth 100000 in
set_option maxHeartbeats 8000000 in
theorem RunMachine_no (A : Option Addr) (len cap : Nat) (at' : Int) (A1 : Option Addr) (n1 c1 : Nat) (A2 : Option Addr) (n2 c2 : Nat) (fuel : Int) (k : Nat) (t : Sta) (d : Bool) (g1 g2 : Nat → Int) (w : World) (hR : ∀ W, w.grownBy W none → Calls Tryd.prog 66 #[.slice A len cap, MV at' A1 n1 c1 A2 n2 c2, .int .i64 fuel] W (RunResE k t d false W)) :
    Calls Tryd.prog 21 #[.slice A len cap, MV at' A1 n1 c1 A2 n2 c2, .int .i64 fuel] w (RunMRes w 0 0 0 g1 g2 (-1) false) := by
  obtain ⟨W0, hW0⟩ : ∃ W0, (w.alloc (.cells #[.int .i64 at', .slice A1 n1 c1, .slice A2 n2 c2] 31)).alloc (.cells #[.int .i64 0, .slice none 0 0, .slice none 0 0] 31) = W0 := ⟨_, rfl⟩
  have e1 : Holds5 W0 w.heap.size 31 #[.int .i64 at', .slice A1 n1 c1, .slice A2 n2 c2] := by
    rw [← hW0]
    exact (Holds5.fresh w 31 #[.int .i64 at', .slice A1 n1 c1, .slice A2 n2 c2]).alloc _
  have e2 : Holds5 W0 (w.heap.size + 1) 31 #[.int .i64 0, .slice none 0 0, .slice none 0 0] := by
    rw [← hW0]
    have := Holds5.fresh (w.alloc (.cells #[.int .i64 at', .slice A1 n1 c1, .slice A2 n2 c2] 31)) 31 #[.int .i64 0, .slice none 0 0, .slice none 0 0]
    rwa [World.size_alloc] at this
  have e3 : w.grownBy W0 none := by
    rw [← hW0]
    exact grown_same (World.grownBy_alloc _ _ _) (World.grownBy_alloc _ _ _)
  have HR := shade (hR _ e3)
  have HW0 := shade hW0
  have E1 := shade e1; have E2 := shade e2; have E3 := shade e3
  clear e1 e2 e3 hW0 hR
  go_enter Tryd.func21, Tryd.ntmps21
  go_upto_region 1 with (fail)
  rw [HW0.out]
  clear HW0
  have x0 := E1.out.look 0; have x1 := E1.out.look 1; have x2 := E1.out.look 2
  simp at x0 x1 x2
  go_wp2_with fail
  refine HR.out.mono ?_
  rintro e w1 ⟨A0, l0, c0, A3, c3, rfl, hgr⟩
  have h2 := (E2.out.grown hgr (by intro e; cases e)).alloc (.cells #[.slice A0 l0 c0, .slice A3 k c3, .int .i64 t.at', .int .i64 (t.r 0), .int .i64 (t.r 1), .int .i64 (t.r 2), .int .i64 (t.r 3), .int .i64 (t.m 0), .int .i64 (t.m 1), .int .i64 (t.m 2), .int .i64 (t.m 3), .int .i64 (t.m 4), .int .i64 (t.m 5), .int .i64 (t.m 6), .int .i64 (t.m 7), .bool d] 84)
  have h3 := grown_same (grown_same E3.out hgr) (World.grownBy_alloc w1 (.cells #[.slice A0 l0 c0, .slice A3 k c3, .int .i64 t.at', .int .i64 (t.r 0), .int .i64 (t.r 1), .int .i64 (t.r 2), .int .i64 (t.r 3), .int .i64 (t.m 0), .int .i64 (t.m 1), .int .i64 (t.m 2), .int .i64 (t.m 3), .int .i64 (t.m 4), .int .i64 (t.m 5), .int .i64 (t.m 6), .int .i64 (t.m 7), .bool d] 84) none)
  clear hgr x0 x1 x2 HR E1 E2 E3
  go_upto_region 2 with (fail)
  obtain ⟨W2, hW⟩ : ∃ W2, w1.alloc (.cells #[.slice A0 l0 c0, .slice A3 k c3, .int .i64 t.at', .int .i64 (t.r 0), .int .i64 (t.r 1), .int .i64 (t.r 2), .int .i64 (t.r 3), .int .i64 (t.m 0), .int .i64 (t.m 1), .int .i64 (t.m 2), .int .i64 (t.m 3), .int .i64 (t.m 4), .int .i64 (t.m 5), .int .i64 (t.m 6), .int .i64 (t.m 7), .bool d] 84) = W2 := ⟨_, rfl⟩
  rw [hW] at h2 h3 ⊢
  clear hW
  have r0 := h2.look 0; have r1 := h2.look 1; have r2 := h2.look 2; have t0 := h2.free 0; have t1 := h2.free 1; have t2 := h2.free 2
  simp at r0 r1 r2
  have hP := ((h2.put 0 (.int .i64 0)).put 1 (.slice none 0 0)).put 2 (.slice none 0 0)
  simp at hP
  have HP := shade hP
  have HGF := shade (grown_put (r := w.heap.size + 1) (grown_put (r := w.heap.size + 1) (grown_put (r := w.heap.size + 1) h3 (by omega) 0 (.int .i64 0)) (by omega) 1 (.slice none 0 0)) (by omega) 2 (.slice none 0 0))
  clear h2 hP h3
  go_wp2_with fail
  have hP := HP.out
  have q0 := hP.look 0; have q1 := hP.look 1; have q2 := hP.look 2
  simp at q0 q1 q2
  refine bodyPost_ret (v := .tuple #[MV 0 none 0 0 none 0 0, .int .i64 (-1), .bool false]) (by simp [results, Tryd.results21, go_sem, q0, q1, q2]) rfl ⟨none, 0, none, 0, rfl, .inl ⟨rfl, rfl, rfl, rfl⟩, HGF.out⟩

set_option maxRecDepth 100000 in
set_option maxHeartbeats 16000000 in
theorem RunMachine_yes (A : Option Addr) (len cap : Nat) (at' : Int) (A1 : Option Addr) (n1 c1 : Nat) (A2 : Option Addr) (n2 c2 : Nat) (fuel : Int) (k : Nat) (t : Sta) (d : Bool) (w : World) (_hk : k ≤ 300) (hR : ∀ W, w.grownBy W none → Calls Tryd.prog 66 #[.slice A len cap, MV at' A1 n1 c1 A2 n2 c2, .int .i64 fuel] W (RunResE k t d true W)) :
    Calls Tryd.prog 21 #[.slice A len cap, MV at' A1 n1 c1 A2 n2 c2, .int .i64 fuel] w (RunMRes w t.at' 4 8 t.r t.m k d) := by
  obtain ⟨W0, hW0⟩ : ∃ W0, (w.alloc (.cells #[.int .i64 at', .slice A1 n1 c1, .slice A2 n2 c2] 31)).alloc (.cells #[.int .i64 0, .slice none 0 0, .slice none 0 0] 31) = W0 := ⟨_, rfl⟩
  have e1 : Holds5 W0 w.heap.size 31 #[.int .i64 at', .slice A1 n1 c1, .slice A2 n2 c2] := by
    rw [← hW0]
    exact (Holds5.fresh w 31 #[.int .i64 at', .slice A1 n1 c1, .slice A2 n2 c2]).alloc _
  have e2 : Holds5 W0 (w.heap.size + 1) 31 #[.int .i64 0, .slice none 0 0, .slice none 0 0] := by
    rw [← hW0]
    have := Holds5.fresh (w.alloc (.cells #[.int .i64 at', .slice A1 n1 c1, .slice A2 n2 c2] 31)) 31 #[.int .i64 0, .slice none 0 0, .slice none 0 0]
    rwa [World.size_alloc] at this
  have e3 : w.grownBy W0 none := by
    rw [← hW0]
    exact grown_same (World.grownBy_alloc _ _ _) (World.grownBy_alloc _ _ _)
  have HR := shade (hR _ e3)
  have HW0 := shade hW0
  have E1 := shade e1; have E2 := shade e2; have E3 := shade e3
  clear e1 e2 e3 hW0 hR
  go_enter Tryd.func21, Tryd.ntmps21
  go_upto_region 1 with (fail)
  rw [HW0.out]
  clear HW0
  have x0 := E1.out.look 0; have x1 := E1.out.look 1; have x2 := E1.out.look 2
  simp at x0 x1 x2
  go_wp2_with fail
  refine HR.out.mono ?_
  rintro e w1 ⟨A0, l0, c0, A3, c3, rfl, hgr⟩
  have h2 := (E2.out.grown hgr (by intro e; cases e)).alloc (.cells #[.slice A0 l0 c0, .slice A3 k c3, .int .i64 t.at', .int .i64 (t.r 0), .int .i64 (t.r 1), .int .i64 (t.r 2), .int .i64 (t.r 3), .int .i64 (t.m 0), .int .i64 (t.m 1), .int .i64 (t.m 2), .int .i64 (t.m 3), .int .i64 (t.m 4), .int .i64 (t.m 5), .int .i64 (t.m 6), .int .i64 (t.m 7), .bool d] 84)
  have h3 := grown_same (grown_same E3.out hgr) (World.grownBy_alloc w1 (.cells #[.slice A0 l0 c0, .slice A3 k c3, .int .i64 t.at', .int .i64 (t.r 0), .int .i64 (t.r 1), .int .i64 (t.r 2), .int .i64 (t.r 3), .int .i64 (t.m 0), .int .i64 (t.m 1), .int .i64 (t.m 2), .int .i64 (t.m 3), .int .i64 (t.m 4), .int .i64 (t.m 5), .int .i64 (t.m 6), .int .i64 (t.m 7), .bool d] 84) none)
  have h4 : Holds5 (w1.alloc (.cells #[.slice A0 l0 c0, .slice A3 k c3, .int .i64 t.at', .int .i64 (t.r 0), .int .i64 (t.r 1), .int .i64 (t.r 2), .int .i64 (t.r 3), .int .i64 (t.m 0), .int .i64 (t.m 1), .int .i64 (t.m 2), .int .i64 (t.m 3), .int .i64 (t.m 4), .int .i64 (t.m 5), .int .i64 (t.m 6), .int .i64 (t.m 7), .bool d] 84)) w1.heap.size 84 #[.slice A0 l0 c0, .slice A3 k c3, .int .i64 t.at', .int .i64 (t.r 0), .int .i64 (t.r 1), .int .i64 (t.r 2), .int .i64 (t.r 3), .int .i64 (t.m 0), .int .i64 (t.m 1), .int .i64 (t.m 2), .int .i64 (t.m 3), .int .i64 (t.m 4), .int .i64 (t.m 5), .int .i64 (t.m 6), .int .i64 (t.m 7), .bool d] := Holds5.fresh w1 84 #[.slice A0 l0 c0, .slice A3 k c3, .int .i64 t.at', .int .i64 (t.r 0), .int .i64 (t.r 1), .int .i64 (t.r 2), .int .i64 (t.r 3), .int .i64 (t.m 0), .int .i64 (t.m 1), .int .i64 (t.m 2), .int .i64 (t.m 3), .int .i64 (t.m 4), .int .i64 (t.m 5), .int .i64 (t.m 6), .int .i64 (t.m 7), .bool d]
  have z2 := (E2.out.grown hgr (by intro e; cases e)).inside
  clear hgr x0 x1 x2 HR E1 E2 E3
  go_upto_region 2 with (fail)
  obtain ⟨W2, hW⟩ : ∃ W2, w1.alloc (.cells #[.slice A0 l0 c0, .slice A3 k c3, .int .i64 t.at', .int .i64 (t.r 0), .int .i64 (t.r 1), .int .i64 (t.r 2), .int .i64 (t.r 3), .int .i64 (t.m 0), .int .i64 (t.m 1), .int .i64 (t.m 2), .int .i64 (t.m 3), .int .i64 (t.m 4), .int .i64 (t.m 5), .int .i64 (t.m 6), .int .i64 (t.m 7), .bool d] 84) = W2 := ⟨_, rfl⟩
  obtain ⟨R, hR⟩ : ∃ R, w1.heap.size = R := ⟨_, rfl⟩
  rw [hR] at h4 z2 ⊢
  rw [hW] at h2 h3 h4 ⊢
  clear hW hR
  have hRne : R ≠ w.heap.size + 1 := by omega
  have H2 := shade h2; have H3 := shade h3; have H4 := shade h4
  clear h2 h3 h4
  go_upto_region 4 with (fail)
  go_region_held3 (fun w' => w'.cell? ⟨R, 1, none⟩ = some (.slice A3 k c3) ∧ w'.cell? ⟨R, 2, none⟩ = some (.int .i64 t.at') ∧ w'.cell? ⟨R, 3, none⟩ = some (.int .i64 (t.r 0)) ∧ w'.cell? ⟨R, 4, none⟩ = some (.int .i64 (t.r 1)) ∧ w'.cell? ⟨R, 5, none⟩ = some (.int .i64 (t.r 2)) ∧ w'.cell? ⟨R, 6, none⟩ = some (.int .i64 (t.r 3)) ∧ w'.cell? ⟨R, 7, none⟩ = some (.int .i64 (t.m 0)) ∧ w'.cell? ⟨R, 8, none⟩ = some (.int .i64 (t.m 1)) ∧ w'.cell? ⟨R, 9, none⟩ = some (.int .i64 (t.m 2)) ∧ w'.cell? ⟨R, 10, none⟩ = some (.int .i64 (t.m 3)) ∧ w'.cell? ⟨R, 11, none⟩ = some (.int .i64 (t.m 4)) ∧ w'.cell? ⟨R, 12, none⟩ = some (.int .i64 (t.m 5)) ∧ w'.cell? ⟨R, 13, none⟩ = some (.int .i64 (t.m 6)) ∧ w'.cell? ⟨R, 14, none⟩ = some (.int .i64 (t.m 7)) ∧ w'.cell? ⟨R, 15, none⟩ = some (.bool d))
    (first | with_reducible exact runBox H4.out.drew | with_reducible exact runBox HB.out | with_reducible exact runBox (HB.out.put3o hRne _ _ _))
    (first | (go_at_call 62; refine (stateMachine_any t.at' t.r t.m _).mono ?_; rintro e w5 ⟨r1, d1, r2, d2, rfl, hne, ho1, ho2, hgr⟩; have HB := shade (H4.out.drew.grown hgr (by intro e; cases e)); have hl1 := ho1.lt; have hl2 := ho2.lt; simp only [size_drewS] at hl1 hl2; have hd := H2.out.drew.grown hgr (by intro e; cases e); have zi := H2.out.inside; have y0 := hd.look 0; have y1 := hd.look 1; have y2 := hd.look 2; have t0 := hd.free 0; have t1 := hd.free 1; have t2 := hd.free 2; simp at y0 y1 y2; have hP := ((hd.put 0 (.int .i64 t.at')).put 1 (.slice (some ⟨r1, 0, none⟩) 4 d1)).put 2 (.slice (some ⟨r2, 0, none⟩) 8 d2); simp at hP; have HP := shade hP; have h3d := grown_same (grown_same H3.out (grown_drew1 W2)) hgr; have HGF := shade (grown_put (r := w.heap.size + 1) (grown_put (r := w.heap.size + 1) (grown_put (r := w.heap.size + 1) h3d (by omega) 0 (.int .i64 t.at')) (by omega) 1 (.slice (some ⟨r1, 0, none⟩) 4 d1)) (by omega) 2 (.slice (some ⟨r2, 0, none⟩) 8 d2)); have M1 := shade ((((Own.lower (B' := w.heap.size) ho1 (by simp only [size_drewS]; omega)).far (r := w.heap.size + 1) (by omega) 0 (.int .i64 t.at')).far (r := w.heap.size + 1) (by omega) 1 (.slice (some ⟨r1, 0, none⟩) 4 d1)).far (r := w.heap.size + 1) (by omega) 2 (.slice (some ⟨r2, 0, none⟩) 8 d2)); have M2 := shade ((((Own.lower (B' := w.heap.size) ho2 (by simp only [size_drewS]; omega)).far (r := w.heap.size + 1) (by omega) 0 (.int .i64 t.at')).far (r := w.heap.size + 1) (by omega) 1 (.slice (some ⟨r1, 0, none⟩) 4 d1)).far (r := w.heap.size + 1) (by omega) 2 (.slice (some ⟨r2, 0, none⟩) 8 d2)); have HN := shade hne; clear ho1 ho2 hgr hne hd hP h3d hl1 hl2 zi))
  all_goals (go_wp2_with fail; have hP := HP.out; have q0 := hP.look 0; have q1 := hP.look 1; have q2 := hP.look 2; simp at q0 q1 q2; refine bodyPost_ret (v := .tuple #[MV t.at' (some ⟨r1, 0, none⟩) 4 d1 (some ⟨r2, 0, none⟩) 8 d2, .int .i64 k, .bool d]) (by simp [results, Tryd.results21, go_sem, q0, q1, q2]) rfl ⟨_, d1, _, d2, rfl, .inr ⟨r1, r2, rfl, rfl, HN.out, M1.out, M2.out⟩, HGF.out⟩)

end Go.Proofs.YtkljjacailgdaaaDoor

namespace Go.Proofs.YtkljjacailgdaaaDoor
open Go.RowKit
set_option linter.unusedSimpArgs false
/-- What stands while the model runs: i steps so far. The machine is kept in the first block, a block for the answer behind it. -/
structure MoR (w wr : World) (F : Nat → Ins) (s : Sta) (i : Nat) (g1 d1 g2 d2 : Nat) : Prop where
  box : Holds5 wr w.heap.size 31 #[.int .i64 (sN F s i).at', .slice (some ⟨g1, 0, none⟩) 4 d1, .slice (some ⟨g2, 0, none⟩) 8 d2]
  res : Holds5 wr (w.heap.size + 1) 31 #[.int .i64 0, .slice none 0 0, .slice none 0 0]
  o1 : Own wr (w.heap.size + 2) (some ⟨g1, 0, none⟩) 4 d1 (sN F s i).r
  o2 : Own wr (w.heap.size + 2) (some ⟨g2, 0, none⟩) 8 d2 (sN F s i).m
  ne : g1 ≠ g2
  low : w.grownBy wr none
section
variable {w wr w2 : World} {F : Nat → Ins} {s : Sta} {i B g1 d1 g2 d2 : Nat} {a b c : Value}
/-- The machine is stored anew. -/
theorem MoR.made (hb : Holds5 w2 w.heap.size 31 #[a, b, c]) (hr : Holds5 w2 (w.heap.size + 1) 31 #[.int .i64 0, .slice none 0 0, .slice none 0 0]) (h1 : Own w2 B (some ⟨g1, 0, none⟩) 4 d1 (sN F s i).r) (h2 : Own w2 B (some ⟨g2, 0, none⟩) 8 d2 (sN F s i).m) (hB : w.heap.size + 2 ≤ B) (hne : g1 ≠ g2) (hg : w.grownBy w2 none) :
    MoR w (((w2.setCell ⟨w.heap.size, 0, none⟩ (.int .i64 (sN F s i).at')).setCell ⟨w.heap.size, 1, none⟩ (.slice (some ⟨g1, 0, none⟩) 4 d1)).setCell ⟨w.heap.size, 2, none⟩ (.slice (some ⟨g2, 0, none⟩) 8 d2)) F s i g1 d1 g2 d2 := by
  have l1 := h1.lt
  have l2 := h2.lt
  have hP := ((hb.put 0 (.int .i64 (sN F s i).at')).put 1 (.slice (some ⟨g1, 0, none⟩) 4 d1)).put 2 (.slice (some ⟨g2, 0, none⟩) 8 d2)
  simp at hP
  have n1 : g1 ≠ w.heap.size := by omega
  have n2 : g2 ≠ w.heap.size := by omega
  have n3 : w.heap.size + 1 ≠ w.heap.size := by omega
  exact ⟨hP, ((hr.other (p := ⟨w.heap.size, 0, none⟩) n3 _).other (p := ⟨w.heap.size, 1, none⟩) n3 _).other (p := ⟨w.heap.size, 2, none⟩) n3 _,
    (((h1.lower hB).far n1 0 _).far n1 1 _).far n1 2 _, (((h2.lower hB).far n2 0 _).far n2 1 _).far n2 2 _, hne, grown_then hg (grown_set3 _ _ _ _ _) (Nat.le_refl _)⟩
theorem MoR.made0 (hb : Holds5 w2 w.heap.size 31 #[a, b, c]) (hr : Holds5 w2 (w.heap.size + 1) 31 #[.int .i64 0, .slice none 0 0, .slice none 0 0]) (h1 : Own w2 B (some ⟨g1, 0, none⟩) 4 d1 s.r) (h2 : Own w2 B (some ⟨g2, 0, none⟩) 8 d2 s.m) (hB : w.heap.size + 2 ≤ B) (hne : g1 ≠ g2) (hg : w.grownBy w2 none) :
    MoR w (((w2.setCell ⟨w.heap.size, 0, none⟩ (.int .i64 s.at')).setCell ⟨w.heap.size, 1, none⟩ (.slice (some ⟨g1, 0, none⟩) 4 d1)).setCell ⟨w.heap.size, 2, none⟩ (.slice (some ⟨g2, 0, none⟩) 8 d2)) F s 0 g1 d1 g2 d2 := by
  have e : sN F s 0 = s := rfl
  have := MoR.made (F := F) (s := s) (i := 0) hb hr (by rw [e]; exact h1) (by rw [e]; exact h2) hB hne hg
  rw [e] at this
  exact this
end
/-- What run leaves. -/
def SRunRes (w : World) (F : Nat → Ins) (s : Sta) (k : Nat) (e : Ending) (w' : World) : Prop :=
  ∃ g1 d1 g2 d2, e = .returned (.tuple #[MV (sN F s k).at' (some ⟨g1, 0, none⟩) 4 d1 (some ⟨g2, 0, none⟩) 8 d2, .int .i64 k]) ∧ g1 ≠ g2 ∧ Own w' w.heap.size (some ⟨g1, 0, none⟩) 4 d1 (sN F s k).r ∧ Own w' w.heap.size (some ⟨g2, 0, none⟩) 8 d2 (sN F s k).m ∧ w.grownBy w' none
/-- The answer is stored. -/
theorem MoR.ret {w wr : World} {F : Nat → Ins} {s : Sta} {i g1 d1 g2 d2 : Nat} (h : MoR w wr F s i g1 d1 g2 d2) :
    Holds5 (((wr.setCell ⟨w.heap.size + 1, 0, none⟩ (.int .i64 (sN F s i).at')).setCell ⟨w.heap.size + 1, 1, none⟩ (.slice (some ⟨g1, 0, none⟩) 4 d1)).setCell ⟨w.heap.size + 1, 2, none⟩ (.slice (some ⟨g2, 0, none⟩) 8 d2)) (w.heap.size + 1) 31 #[.int .i64 (sN F s i).at', .slice (some ⟨g1, 0, none⟩) 4 d1, .slice (some ⟨g2, 0, none⟩) 8 d2] ∧
    Own (((wr.setCell ⟨w.heap.size + 1, 0, none⟩ (.int .i64 (sN F s i).at')).setCell ⟨w.heap.size + 1, 1, none⟩ (.slice (some ⟨g1, 0, none⟩) 4 d1)).setCell ⟨w.heap.size + 1, 2, none⟩ (.slice (some ⟨g2, 0, none⟩) 8 d2)) w.heap.size (some ⟨g1, 0, none⟩) 4 d1 (sN F s i).r ∧
    Own (((wr.setCell ⟨w.heap.size + 1, 0, none⟩ (.int .i64 (sN F s i).at')).setCell ⟨w.heap.size + 1, 1, none⟩ (.slice (some ⟨g1, 0, none⟩) 4 d1)).setCell ⟨w.heap.size + 1, 2, none⟩ (.slice (some ⟨g2, 0, none⟩) 8 d2)) w.heap.size (some ⟨g2, 0, none⟩) 8 d2 (sN F s i).m ∧
    w.grownBy (((wr.setCell ⟨w.heap.size + 1, 0, none⟩ (.int .i64 (sN F s i).at')).setCell ⟨w.heap.size + 1, 1, none⟩ (.slice (some ⟨g1, 0, none⟩) 4 d1)).setCell ⟨w.heap.size + 1, 2, none⟩ (.slice (some ⟨g2, 0, none⟩) 8 d2)) none := by
  have l1 := h.o1.lt
  have l2 := h.o2.lt
  have hP := ((h.res.put 0 (.int .i64 (sN F s i).at')).put 1 (.slice (some ⟨g1, 0, none⟩) 4 d1)).put 2 (.slice (some ⟨g2, 0, none⟩) 8 d2)
  simp at hP
  have n1 : g1 ≠ w.heap.size + 1 := by omega
  have n2 : g2 ≠ w.heap.size + 1 := by omega
  exact ⟨hP, (((h.o1.lower (by omega)).far n1 0 _).far n1 1 _).far n1 2 _, (((h.o2.lower (by omega)).far n2 0 _).far n2 1 _).far n2 2 _, grown_then h.low (grown_set3 _ _ _ _ _) (by omega)⟩
/-- What run leaves, however many steps there are. -/
def SRunAny (w : World) (len : Nat) (F : Nat → Ins) (s : Sta) (fuel : Nat) (e : Ending) (w' : World) : Prop := ∃ k, RunEnd len F s fuel k ∧ SRunRes w F s k e w'
/-- What the model's RunMachine leaves. -/
def SRMRes (w : World) (len : Nat) (F : Nat → Ins) (s : Sta) (fuel : Nat) (e : Ending) (w' : World) : Prop := ∃ k : Nat, RunEnd len F s fuel k ∧ RunMRes w (sN F s k).at' 4 8 (sN F s k).r (sN F s k).m k (sHalt len F (sN F s k)) e w'
theorem fresh_row {cur nxt : World} {B : Nat} {n : Nat} {v : Value} {f : Nat → Int} (hn : 0 < n) (hb : B ≤ cur.heap.size) (ho : nxt.ownsRow cur.heap.size 3 1 v (0 + n) ([] ++ numL n f)) : ∃ g c, v = .slice (some ⟨g, 0, none⟩) n c ∧ Own nxt B (some ⟨g, 0, none⟩) n c f ∧ cur.heap.size ≤ g := by
  rw [Nat.zero_add, List.nil_append] at ho
  obtain ⟨g, c, rfl, h1, _⟩ := ho.form hn
  exact ⟨g, c, rfl, Own.lower ho hb, h1⟩
/-- What the region that makes the machine anew keeps. -/
structure RB (w cur : World) (s : Sta) (b1 o1 c1 b2 o2 c2 : Nat) : Prop where
  box : Holds5 cur w.heap.size 31 #[.int .i64 s.at', .slice (some ⟨b1, o1, none⟩) 4 c1, .slice (some ⟨b2, o2, none⟩) 8 c2]
  res : Holds5 cur (w.heap.size + 1) 31 #[.int .i64 0, .slice none 0 0, .slice none 0 0]
  n1 : Nums cur (some ⟨b1, o1, none⟩) 4 s.r
  n2 : Nums cur (some ⟨b2, o2, none⟩) 8 s.m
  low : w.grownBy cur none
  big : w.heap.size + 2 ≤ cur.heap.size
theorem RB.on {w cur nxt : World} {s : Sta} {b1 o1 c1 b2 o2 c2 : Nat} (h : RB w cur s b1 o1 c1 b2 o2 c2) (hg : cur.grownBy nxt none) : RB w nxt s b1 o1 c1 b2 o2 c2 :=
  ⟨h.box.grown hg (by intro e; cases e), h.res.grown hg (by intro e; cases e), h.n1.on hg, h.n2.on hg, grown_same h.low hg, Nat.le_trans h.big hg.size⟩
set_option maxRecDepth 100000 in
set_option maxHeartbeats 16000000 in
theorem specRun_any (A : Option Addr) (len cap : Nat) (F : Nat → Ins) (s : Sta) (b1 o1 c1 b2 o2 c2 : Nat) (fuel : Nat) (w : World) (hC : Code w A len F) (h1 : Nums w (some ⟨b1, o1, none⟩) 4 s.r) (h2 : Nums w (some ⟨b2, o2, none⟩) 8 s.m) (hv : vcB len F = true) (hok : OkS s) (hf : fuel ≤ 300) :
    Calls Tryd.prog 68 #[.slice A len cap, MV s.at' (some ⟨b1, o1, none⟩) 4 c1 (some ⟨b2, o2, none⟩) 8 c2, .int .i64 fuel] w (SRunAny w len F s fuel) := by
  obtain ⟨W0, hW0⟩ : ∃ W0, (w.alloc (.cells #[.int .i64 s.at', .slice (some ⟨b1, o1, none⟩) 4 c1, .slice (some ⟨b2, o2, none⟩) 8 c2] 31)).alloc (.cells #[.int .i64 0, .slice none 0 0, .slice none 0 0] 31) = W0 := ⟨_, rfl⟩
  have e1 : Holds5 W0 w.heap.size 31 #[.int .i64 s.at', .slice (some ⟨b1, o1, none⟩) 4 c1, .slice (some ⟨b2, o2, none⟩) 8 c2] := by
    rw [← hW0]
    exact (Holds5.fresh w 31 #[.int .i64 s.at', .slice (some ⟨b1, o1, none⟩) 4 c1, .slice (some ⟨b2, o2, none⟩) 8 c2]).alloc _
  have e2 : Holds5 W0 (w.heap.size + 1) 31 #[.int .i64 0, .slice none 0 0, .slice none 0 0] := by
    rw [← hW0]
    have := Holds5.fresh (w.alloc (.cells #[.int .i64 s.at', .slice (some ⟨b1, o1, none⟩) 4 c1, .slice (some ⟨b2, o2, none⟩) 8 c2] 31)) 31 #[.int .i64 0, .slice none 0 0, .slice none 0 0]
    rwa [World.size_alloc] at this
  have e3 : w.grownBy W0 none := by
    rw [← hW0]
    exact grown_same (World.grownBy_alloc _ _ _) (World.grownBy_alloc _ _ _)
  have hz : W0.heap.size = w.heap.size + 2 := by
    rw [← hW0, World.size_alloc, World.size_alloc]
  have HC0 := shade hC
  have HV := shade hv
  have h40 : len ≤ 40 := by
    have hv2 := hv
    simp only [vcB, Bool.and_eq_true, decide_eq_true_eq] at hv2
    exact hv2.2
  have HOK := shade hok
  have N1 := shade (h1.on e3)
  have N2 := shade (h2.on e3)
  have HW0 := shade hW0
  have E1 := shade e1; have E2 := shade e2; have E3 := shade e3; have HZ := shade hz
  clear e1 e2 e3 hW0 hC h1 h2 hv hok hz
  obtain ⟨i0, hi0, hz0, hz1, hz2⟩ := info_parts info3
  go_enter Tryd.func68, Tryd.ntmps68
  go_upto_region 1 with (fail)
  rw [HW0.out]
  clear HW0
  go_upto_region 2 with (fail)
  have x0 := E1.out.look 0; have x1 := E1.out.look 1; have x2 := E1.out.look 2
  simp at x0 x1 x2
  go_cut [] (fun wx => ∃ g1 d1 g2 d2, MoR w wx F s 0 g1 d1 g2 d2)
  case first =>
    have h0 : RB w W0.drew s b1 o1 c1 b2 o2 c2 := ⟨E1.out.drew, E2.out.drew, N1.out.on (grown_drew1 W0), N2.out.on (grown_drew1 W0), grown_same E3.out (grown_drew1 W0), by have := HZ.out; simp only [size_drewS]; omega⟩
    have H0 := shade h0
    clear h0 x0 x1 x2 E1 E2 E3 N1 N2 HZ HC0 HV HOK
    refine wp_region_G (by kernel_rfl) (fun w' => w'.cell? ⟨w.heap.size, 0, none⟩ = some (.int .i64 s.at') ∧ w'.cell? ⟨w.heap.size, 1, none⟩ = some (.slice (some ⟨b1, o1, none⟩) 4 c1) ∧ w'.cell? ⟨w.heap.size, 2, none⟩ = some (.slice (some ⟨b2, o2, none⟩) 8 c2)) 11 12 [false, false, false, false, false, false, false, false, false, false, false, false] rfl rfl ?_
    obtain ⟨V0, hV⟩ : ∃ V0, W0.drew = V0 := ⟨_, rfl⟩
    rw [hV] at H0 ⊢
    clear hV
    refine WG.take (i := 0) (v := ?_) rfl (by kernel_rfl) (by kernel_rfl) (by kernel_rfl) (by kernel_rfl) (by kernel_rfl) (by kernel_rfl) (fun _ _ _ h => h) (Or.inl ⟨by rfl, ?_⟩) (box3m H0.out.box) ?_
    rotate_left
    · intro w' hSw
      try dsimp only at hSw
      go_simp
      try with_reducible rfl
    (try simp only [Act.put, List.setIfInBounds_toArray, List.set_cons_zero, List.set_cons_succ])
    refine WG.take (i := 1) (v := ?_) rfl (by kernel_rfl) (by kernel_rfl) (by kernel_rfl) (by kernel_rfl) (by kernel_rfl) (by kernel_rfl) (fun _ _ _ h => h) (Or.inl ⟨by rfl, ?_⟩) (box3m H0.out.box) ?_
    rotate_left
    · intro w' hSw
      try dsimp only at hSw
      go_simp
      try with_reducible rfl
    (try simp only [Act.put, List.setIfInBounds_toArray, List.set_cons_zero, List.set_cons_succ])
    refine WG.take (i := 3) (v := ?_) rfl (by kernel_rfl) (by kernel_rfl) (by kernel_rfl) (by kernel_rfl) (by kernel_rfl) (by kernel_rfl) (fun _ _ _ h => h) (Or.inl ⟨by rfl, ?_⟩) (box3m H0.out.box) ?_
    rotate_left
    · intro w' hSw
      try dsimp only at hSw
      go_simp
      try with_reducible rfl
    (try simp only [Act.put, List.setIfInBounds_toArray, List.set_cons_zero, List.set_cons_succ])
    refine WG.take (i := 4) (v := ?_) rfl (by kernel_rfl) (by kernel_rfl) (by kernel_rfl) (by kernel_rfl) (by kernel_rfl) (by kernel_rfl) (fun _ _ _ h => h) (Or.inl ⟨by rfl, ?_⟩) (box3m H0.out.box) ?_
    rotate_left
    · intro w' hSw
      try dsimp only at hSw
      go_simp
      try with_reducible rfl
    (try simp only [Act.put, List.setIfInBounds_toArray, List.set_cons_zero, List.set_cons_succ])
    refine WG.take (i := 7) (v := ?_) rfl (by kernel_rfl) (by kernel_rfl) (by kernel_rfl) (by kernel_rfl) (by kernel_rfl) (by kernel_rfl) (fun _ _ _ h => h) (Or.inl ⟨by rfl, ?_⟩) (box3m H0.out.box) ?_
    rotate_left
    · intro w' hSw
      try dsimp only at hSw
      go_simp
      try with_reducible rfl
    (try simp only [Act.put, List.setIfInBounds_toArray, List.set_cons_zero, List.set_cons_succ])
    refine WG.take (i := 8) (v := ?_) rfl (by kernel_rfl) (by kernel_rfl) (by kernel_rfl) (by kernel_rfl) (by kernel_rfl) (by kernel_rfl) (fun _ _ _ h => h) (Or.inl ⟨by rfl, ?_⟩) (box3m H0.out.box) ?_
    rotate_left
    · intro w' hSw
      try dsimp only at hSw
      go_simp
      try with_reducible rfl
    (try simp only [Act.put, List.setIfInBounds_toArray, List.set_cons_zero, List.set_cons_succ])
    refine WG.all (rs := [2, 6]) (by kernel_rfl) (by simp) (by decide) ?_
    intro i hi
    simp only [List.mem_cons, List.not_mem_nil, or_false] at hi
    rcases hi with rfl | rfl
    · refine wpOp_lay (by rfl) (fun K hK => ?_)
      go_simp
      have hg := World.grownBy_alloc V0 (.cells #[] 3) none
      refine hK.out _ _ ⟨box3m (H0.out.on hg).box, ?_⟩
      clear hK K
      (try simp only [Act.put, List.setIfInBounds_toArray, List.set_cons_zero, List.set_cons_succ])
      obtain ⟨V1, hV⟩ : ∃ V, V0.alloc (.cells #[] 3) = V := ⟨_, rfl⟩
      rw [hV] at hg ⊢
      have H1 := shade (H0.out.on hg)
      clear hg hV
      refine WG.all (rs := [5, 6]) (by kernel_rfl) (by simp) (by decide) ?_
      intro i hi
      simp only [List.mem_cons, List.not_mem_nil, or_false] at hi
      rcases hi with rfl | rfl
      · refine wpOp_lay (by rfl) (fun K hK => ?_)
        refine step_append_grows (by rfl) (.tmp 11) (.tmp 13) 29 (by rfl) 3 i0 (.int .i64 0) 1 8 Tryd.underlying29 hi0 hz0 hz1 hz2 rfl (by decide) (some ⟨V0.heap.size, 0, none⟩) 0 0 [] (by rfl) (by intro h; cases h) rfl (by intro b _ j u h; simp at h) ⟨b1, o1, none⟩ 4 c1 (numL 4 s.r) (by rfl) (by simp [numL_len]) (H1.out.n1.cells) (numL_oneCell 4 s.r) (by omega) (by unfold maxLen; omega) (by omega) ?_
        intro v' V2 hown hg
        obtain ⟨g1, d1, rfl, hO, hge⟩ := fresh_row (by omega) H1.out.big hown
        refine hK.out _ _ ⟨box3m (H1.out.on hg).box, ?_⟩
        clear hK K
        (try simp only [Act.put, List.setIfInBounds_toArray, List.set_cons_zero, List.set_cons_succ])
        have H2 := shade (H1.out.on hg); have O12 := shade hO
        clear hg hown hO hge
        refine WG.all (rs := [6]) (by kernel_rfl) (by simp) (by decide) ?_
        intro i hi
        simp only [List.mem_cons, List.not_mem_nil, or_false] at hi
        subst hi
        refine wpOp_lay (by rfl) (fun K hK => ?_)
        go_simp
        have hg := World.grownBy_alloc V2 (.cells #[] 3) none
        refine hK.out _ _ ⟨box3m (H2.out.on hg).box, ?_⟩
        clear hK K
        (try simp only [Act.put, List.setIfInBounds_toArray, List.set_cons_zero, List.set_cons_succ])
        obtain ⟨V3, hV⟩ : ∃ V, V2.alloc (.cells #[] 3) = V := ⟨_, rfl⟩
        rw [hV] at hg ⊢
        have H3 := shade (H2.out.on hg); have O13 := shade (O12.out.on hg)
        clear hg hV
        refine WG.all (rs := [9]) (by kernel_rfl) (by simp) (by decide) ?_
        intro i hi
        simp only [List.mem_cons, List.not_mem_nil, or_false] at hi
        subst hi
        refine wpOp_lay (by rfl) (fun K hK => ?_)
        refine step_append_grows (by rfl) (.tmp 15) (.tmp 17) 29 (by rfl) 3 i0 (.int .i64 0) 1 8 Tryd.underlying29 hi0 hz0 hz1 hz2 rfl (by decide) (some ⟨V2.heap.size, 0, none⟩) 0 0 [] (by rfl) (by intro h; cases h) rfl (by intro b _ j u h; simp at h) ⟨b2, o2, none⟩ 8 c2 (numL 8 s.m) (by rfl) (by simp [numL_len]) (H3.out.n2.cells) (numL_oneCell 8 s.m) (by omega) (by unfold maxLen; omega) (by omega) ?_
        intro v' V4 hown hg
        obtain ⟨g2, d2, rfl, hO, hge⟩ := fresh_row (by omega) H3.out.big hown
        refine hK.out _ _ ⟨box3m (H3.out.on hg).box, ?_⟩
        clear hK K
        (try simp only [Act.put, List.setIfInBounds_toArray, List.set_cons_zero, List.set_cons_succ])
        have H4 := shade (H3.out.on hg); have O24 := shade hO; have O14 := shade (O13.out.on hg)
        have hne : g1 ≠ g2 := by have l1 := O13.out.lt; omega
        have HNE := shade hne
        clear hne
        clear hg hown hO hge
        refine WG.take (i := 10) (v := ?_) rfl (by kernel_rfl) (by kernel_rfl) (by kernel_rfl) (by kernel_rfl) (by kernel_rfl) (by kernel_rfl) (fun _ _ _ h => h) (Or.inl ⟨by rfl, ?_⟩) (box3m H4.out.box) ?_
        rotate_left
        · intro w' hSw
          try dsimp only at hSw
          go_simp
          try with_reducible rfl
        (try simp only [Act.put, List.setIfInBounds_toArray, List.set_cons_zero, List.set_cons_succ])
        refine WG.last (by kernel_rfl) (by kernel_rfl) ?_
        have y0 := H4.out.box.look 0; have y1 := H4.out.box.look 1; have y2 := H4.out.box.look 2; have t0 := H4.out.box.free 0; have t1 := H4.out.box.free 1; have t2 := H4.out.box.free 2
        simp at y0 y1 y2
        refine wpOp_lay (by rfl) (fun K hK => ?_)
        go_simp
        refine hK.out _ _ ?_
        clear hK K y0 y1 y2 t0 t1 t2
        have hM := MoR.made0 H4.out.box H4.out.res O14.out O24.out (Nat.le_refl _) HNE.out H4.out.low (F := F)
        have HM := shade hM
        clear hM
        go_wp2_with fail
        go_meet
        exact ⟨g1, d1, g2, d2, HM.out⟩
      · refine wpOp_lay (by rfl) (fun K hK => ?_)
        go_simp
        have hg := World.grownBy_alloc V1 (.cells #[] 3) none
        refine hK.out _ _ ⟨box3m (H1.out.on hg).box, ?_⟩
        clear hK K
        (try simp only [Act.put, List.setIfInBounds_toArray, List.set_cons_zero, List.set_cons_succ])
        obtain ⟨V2, hV⟩ : ∃ V, V1.alloc (.cells #[] 3) = V := ⟨_, rfl⟩
        rw [hV] at hg ⊢
        have H2 := shade (H1.out.on hg)
        clear hg hV
        refine WG.all (rs := [5]) (by kernel_rfl) (by simp) (by decide) ?_
        intro i hi
        simp only [List.mem_cons, List.not_mem_nil, or_false] at hi
        subst hi
        refine wpOp_lay (by rfl) (fun K hK => ?_)
        refine step_append_grows (by rfl) (.tmp 11) (.tmp 13) 29 (by rfl) 3 i0 (.int .i64 0) 1 8 Tryd.underlying29 hi0 hz0 hz1 hz2 rfl (by decide) (some ⟨V0.heap.size, 0, none⟩) 0 0 [] (by rfl) (by intro h; cases h) rfl (by intro b _ j u h; simp at h) ⟨b1, o1, none⟩ 4 c1 (numL 4 s.r) (by rfl) (by simp [numL_len]) (H2.out.n1.cells) (numL_oneCell 4 s.r) (by omega) (by unfold maxLen; omega) (by omega) ?_
        intro v' V3 hown hg
        obtain ⟨g1, d1, rfl, hO, hge⟩ := fresh_row (by omega) H2.out.big hown
        refine hK.out _ _ ⟨box3m (H2.out.on hg).box, ?_⟩
        clear hK K
        (try simp only [Act.put, List.setIfInBounds_toArray, List.set_cons_zero, List.set_cons_succ])
        have H3 := shade (H2.out.on hg); have O13 := shade hO
        clear hg hown hO hge
        refine WG.all (rs := [9]) (by kernel_rfl) (by simp) (by decide) ?_
        intro i hi
        simp only [List.mem_cons, List.not_mem_nil, or_false] at hi
        subst hi
        refine wpOp_lay (by rfl) (fun K hK => ?_)
        refine step_append_grows (by rfl) (.tmp 15) (.tmp 17) 29 (by rfl) 3 i0 (.int .i64 0) 1 8 Tryd.underlying29 hi0 hz0 hz1 hz2 rfl (by decide) (some ⟨V1.heap.size, 0, none⟩) 0 0 [] (by rfl) (by intro h; cases h) rfl (by intro b _ j u h; simp at h) ⟨b2, o2, none⟩ 8 c2 (numL 8 s.m) (by rfl) (by simp [numL_len]) (H3.out.n2.cells) (numL_oneCell 8 s.m) (by omega) (by unfold maxLen; omega) (by omega) ?_
        intro v' V4 hown hg
        obtain ⟨g2, d2, rfl, hO, hge⟩ := fresh_row (by omega) H3.out.big hown
        refine hK.out _ _ ⟨box3m (H3.out.on hg).box, ?_⟩
        clear hK K
        (try simp only [Act.put, List.setIfInBounds_toArray, List.set_cons_zero, List.set_cons_succ])
        have H4 := shade (H3.out.on hg); have O24 := shade hO; have O14 := shade (O13.out.on hg)
        have hne : g1 ≠ g2 := by have l1 := O13.out.lt; omega
        have HNE := shade hne
        clear hne
        clear hg hown hO hge
        refine WG.take (i := 10) (v := ?_) rfl (by kernel_rfl) (by kernel_rfl) (by kernel_rfl) (by kernel_rfl) (by kernel_rfl) (by kernel_rfl) (fun _ _ _ h => h) (Or.inl ⟨by rfl, ?_⟩) (box3m H4.out.box) ?_
        rotate_left
        · intro w' hSw
          try dsimp only at hSw
          go_simp
          try with_reducible rfl
        (try simp only [Act.put, List.setIfInBounds_toArray, List.set_cons_zero, List.set_cons_succ])
        refine WG.last (by kernel_rfl) (by kernel_rfl) ?_
        have y0 := H4.out.box.look 0; have y1 := H4.out.box.look 1; have y2 := H4.out.box.look 2; have t0 := H4.out.box.free 0; have t1 := H4.out.box.free 1; have t2 := H4.out.box.free 2
        simp at y0 y1 y2
        refine wpOp_lay (by rfl) (fun K hK => ?_)
        go_simp
        refine hK.out _ _ ?_
        clear hK K y0 y1 y2 t0 t1 t2
        have hM := MoR.made0 H4.out.box H4.out.res O14.out O24.out (Nat.le_refl _) HNE.out H4.out.low (F := F)
        have HM := shade hM
        clear hM
        go_wp2_with fail
        go_meet
        exact ⟨g1, d1, g2, d2, HM.out⟩
    · refine wpOp_lay (by rfl) (fun K hK => ?_)
      go_simp
      have hg := World.grownBy_alloc V0 (.cells #[] 3) none
      refine hK.out _ _ ⟨box3m (H0.out.on hg).box, ?_⟩
      clear hK K
      (try simp only [Act.put, List.setIfInBounds_toArray, List.set_cons_zero, List.set_cons_succ])
      obtain ⟨V1, hV⟩ : ∃ V, V0.alloc (.cells #[] 3) = V := ⟨_, rfl⟩
      rw [hV] at hg ⊢
      have H1 := shade (H0.out.on hg)
      clear hg hV
      refine WG.all (rs := [2]) (by kernel_rfl) (by simp) (by decide) ?_
      intro i hi
      simp only [List.mem_cons, List.not_mem_nil, or_false] at hi
      subst hi
      refine wpOp_lay (by rfl) (fun K hK => ?_)
      go_simp
      have hg := World.grownBy_alloc V1 (.cells #[] 3) none
      refine hK.out _ _ ⟨box3m (H1.out.on hg).box, ?_⟩
      clear hK K
      (try simp only [Act.put, List.setIfInBounds_toArray, List.set_cons_zero, List.set_cons_succ])
      obtain ⟨V2, hV⟩ : ∃ V, V1.alloc (.cells #[] 3) = V := ⟨_, rfl⟩
      rw [hV] at hg ⊢
      have H2 := shade (H1.out.on hg)
      clear hg hV
      refine WG.all (rs := [5]) (by kernel_rfl) (by simp) (by decide) ?_
      intro i hi
      simp only [List.mem_cons, List.not_mem_nil, or_false] at hi
      subst hi
      refine wpOp_lay (by rfl) (fun K hK => ?_)
      refine step_append_grows (by rfl) (.tmp 11) (.tmp 13) 29 (by rfl) 3 i0 (.int .i64 0) 1 8 Tryd.underlying29 hi0 hz0 hz1 hz2 rfl (by decide) (some ⟨V1.heap.size, 0, none⟩) 0 0 [] (by rfl) (by intro h; cases h) rfl (by intro b _ j u h; simp at h) ⟨b1, o1, none⟩ 4 c1 (numL 4 s.r) (by rfl) (by simp [numL_len]) (H2.out.n1.cells) (numL_oneCell 4 s.r) (by omega) (by unfold maxLen; omega) (by omega) ?_
      intro v' V3 hown hg
      obtain ⟨g1, d1, rfl, hO, hge⟩ := fresh_row (by omega) H2.out.big hown
      refine hK.out _ _ ⟨box3m (H2.out.on hg).box, ?_⟩
      clear hK K
      (try simp only [Act.put, List.setIfInBounds_toArray, List.set_cons_zero, List.set_cons_succ])
      have H3 := shade (H2.out.on hg); have O13 := shade hO
      clear hg hown hO hge
      refine WG.all (rs := [9]) (by kernel_rfl) (by simp) (by decide) ?_
      intro i hi
      simp only [List.mem_cons, List.not_mem_nil, or_false] at hi
      subst hi
      refine wpOp_lay (by rfl) (fun K hK => ?_)
      refine step_append_grows (by rfl) (.tmp 15) (.tmp 17) 29 (by rfl) 3 i0 (.int .i64 0) 1 8 Tryd.underlying29 hi0 hz0 hz1 hz2 rfl (by decide) (some ⟨V0.heap.size, 0, none⟩) 0 0 [] (by rfl) (by intro h; cases h) rfl (by intro b _ j u h; simp at h) ⟨b2, o2, none⟩ 8 c2 (numL 8 s.m) (by rfl) (by simp [numL_len]) (H3.out.n2.cells) (numL_oneCell 8 s.m) (by omega) (by unfold maxLen; omega) (by omega) ?_
      intro v' V4 hown hg
      obtain ⟨g2, d2, rfl, hO, hge⟩ := fresh_row (by omega) H3.out.big hown
      refine hK.out _ _ ⟨box3m (H3.out.on hg).box, ?_⟩
      clear hK K
      (try simp only [Act.put, List.setIfInBounds_toArray, List.set_cons_zero, List.set_cons_succ])
      have H4 := shade (H3.out.on hg); have O24 := shade hO; have O14 := shade (O13.out.on hg)
      have hne : g1 ≠ g2 := by have l1 := O13.out.lt; omega
      have HNE := shade hne
      clear hne
      clear hg hown hO hge
      refine WG.take (i := 10) (v := ?_) rfl (by kernel_rfl) (by kernel_rfl) (by kernel_rfl) (by kernel_rfl) (by kernel_rfl) (by kernel_rfl) (fun _ _ _ h => h) (Or.inl ⟨by rfl, ?_⟩) (box3m H4.out.box) ?_
      rotate_left
      · intro w' hSw
        try dsimp only at hSw
        go_simp
        try with_reducible rfl
      (try simp only [Act.put, List.setIfInBounds_toArray, List.set_cons_zero, List.set_cons_succ])
      refine WG.last (by kernel_rfl) (by kernel_rfl) ?_
      have y0 := H4.out.box.look 0; have y1 := H4.out.box.look 1; have y2 := H4.out.box.look 2; have t0 := H4.out.box.free 0; have t1 := H4.out.box.free 1; have t2 := H4.out.box.free 2
      simp at y0 y1 y2
      refine wpOp_lay (by rfl) (fun K hK => ?_)
      go_simp
      refine hK.out _ _ ?_
      clear hK K y0 y1 y2 t0 t1 t2
      have hM := MoR.made0 H4.out.box H4.out.res O14.out O24.out (Nat.le_refl _) HNE.out H4.out.low (F := F)
      have HM := shade hM
      clear hM
      go_wp2_with fail
      go_meet
      exact ⟨g1, d1, g2, d2, HM.out⟩
  case rest =>
    obtain ⟨g1, d1, g2, d2, hM⟩ := hcut
    have HM := shade hM
    clear hM E1 E2 E3 N1 N2 HZ x0 x1 x2 hi0 hz0 hz1 hz2
    go_wp2_with fail
    go_loopw [8] (fun q wr => ∃ (i g1 d1 g2 d2 : Nat), i ≤ fuel ∧ q = .int .i64 i ∧ (∀ j, j < i → sHalt len F (sN F s j) = false) ∧ MoR w wr F s i g1 d1 g2 d2) (fun q _ => fuel - (intOf q).toNat)
    case atStart => exact ⟨0, g1, d1, g2, d2, Nat.zero_le _, rfl, fun j hj => absurd hj (Nat.not_lt_zero j), HM.out⟩
    case round =>
      clear HM
      obtain ⟨i, m1, k1, m2, k2, hi, rfl, hgo, hs⟩ := hrel
      have hok := HOK.out.run HV.out i hgo
      have he : (((sN F s i).at'.toNat : Nat) : Int) = (sN F s i).at' := Int.toNat_of_nonneg hok.lo
      have hc2 : Code wr A len F := HC0.out.on hs.low
      have HHA := shade (halted_any A len cap (sN F s i).at'.toNat F wr hc2 h40)
      rw [he] at HHA
      have x0 := hs.box.look 0; have x1 := hs.box.look 1; have x2 := hs.box.look 2
      simp at x0 x1 x2
      have HGO := shade hgo
      have H5 := shade hs
      have HK := shade hok
      clear hs hgo hok hc2 he
      by_cases hif : i < fuel
      · rcases hh : haltB len F (sN F s i).at'.toNat with _ | _
        · have HH := shade (show sHalt len F (sN F s i) = false from hh)
          rw [hh] at HHA
          clear hh
          go_wp2_with fail
          refine HHA.out.mono ?_
          rintro e w' ⟨rfl, rfl⟩
          clear HHA
          go_wp2_with fail
          refine (specStep_yes A len cap F (sN F s i) m1 0 k1 m2 0 k2 _ (HC0.out.on H5.out.low) HV.out HK.out HH.out H5.out.o1.nums H5.out.o2.nums).mono ?_
          rintro e w9 ⟨g1, d1, g2, d2, rfl, hne, ho1, ho2, hgr⟩
          have hb9 := H5.out.box.grown hgr (by intro e; cases e)
          have H9 := shade (MoR.made (F := F) (s := s) (i := i + 1) hb9 (H5.out.res.grown hgr (by intro e; cases e)) ho1 ho2 (by have := H5.out.res.inside; omega) hne (grown_same H5.out.low hgr))
          have y0 := hb9.look 0; have y1 := hb9.look 1; have y2 := hb9.look 2; have t0 := hb9.free 0; have t1 := hb9.free 1; have t2 := hb9.free 2
          simp at y0 y1 y2
          have hgx : ∀ j, j < i + 1 → sHalt len F (sN F s j) = false := by
            intro j hj
            by_cases e : j = i
            · rw [e]
              exact HH.out
            · exact HGO.out j (by omega)
          have HGX := shade hgx
          clear hgr ho1 ho2 hb9 x0 x1 x2 H5 hgx HK HH HGO hne
          go_wp2
          go_roundw
          case rel => exact ⟨i + 1, g1, d1, g2, d2, by omega, by go_num, HGX.out, H9.out⟩
          case measure => simp [intOf]; omega
        · have HHH := shade hh
          rw [hh] at HHA
          clear hh
          go_wp2_with fail
          refine HHA.out.mono ?_
          rintro e w' ⟨rfl, rfl⟩
          clear HHA
          have hr := H5.out.ret
          have z0 := H5.out.res.look 0; have z1 := H5.out.res.look 1; have z2 := H5.out.res.look 2; have t0 := H5.out.res.free 0; have t1 := H5.out.res.free 1; have t2 := H5.out.res.free 2
          simp at z0 z1 z2
          have HR := shade hr
          have HNE := shade H5.out.ne
          clear hr
          go_wp2_with fail
          have hP := HR.out.1
          have q0 := hP.look 0; have q1 := hP.look 1; have q2 := hP.look 2
          simp at q0 q1 q2
          refine bodyPost_ret (v := .tuple #[MV (sN F s i).at' (some ⟨m1, 0, none⟩) 4 k1 (some ⟨m2, 0, none⟩) 8 k2, .int .i64 i]) (by simp [results, Tryd.results68, go_sem, q0, q1, q2]) rfl ?_
          exact ⟨i, ⟨by omega, HGO.out, .inr HHH.out⟩, m1, k1, m2, k2, rfl, HNE.out, HR.out.2.1, HR.out.2.2.1, HR.out.2.2.2⟩
      · clear HHA
        have hr := H5.out.ret
        have z0 := H5.out.res.look 0; have z1 := H5.out.res.look 1; have z2 := H5.out.res.look 2; have t0 := H5.out.res.free 0; have t1 := H5.out.res.free 1; have t2 := H5.out.res.free 2
        simp at z0 z1 z2
        have HR := shade hr
        have HNE := shade H5.out.ne
        clear hr
        go_wp2_with fail
        have hP := HR.out.1
        have q0 := hP.look 0; have q1 := hP.look 1; have q2 := hP.look 2
        simp at q0 q1 q2
        refine bodyPost_ret (v := .tuple #[MV (sN F s i).at' (some ⟨m1, 0, none⟩) 4 k1 (some ⟨m2, 0, none⟩) 8 k2, .int .i64 i]) (by simp [results, Tryd.results68, go_sem, q0, q1, q2]) rfl ?_
        exact ⟨i, ⟨by omega, HGO.out, .inl (by omega)⟩, m1, k1, m2, k2, rfl, HNE.out, HR.out.2.1, HR.out.2.2.1, HR.out.2.2.2⟩


set_option maxRecDepth 100000 in
set_option maxHeartbeats 8000000 in
theorem SpecRunMachine_no (A : Option Addr) (len cap : Nat) (F : Nat → Ins) (at' : Int) (A1 : Option Addr) (n1 c1 : Nat) (A2 : Option Addr) (n2 c2 : Nat) (f1 f2 : Nat → Int) (fuel : Int) (w : World) (hl : len ≤ 9223372036854775807) (hC : Code w A len F) (h1 : Nums w A1 n1 f1) (h2 : Nums w A2 n2 f2) (hn1 : n1 ≤ 9223372036854775807) (hn2 : n2 ≤ 9223372036854775807) (hr : runB len F at' n1 n2 f1 f2 fuel = false) (g1 g2 : Nat → Int) :
    Calls Tryd.prog 22 #[.slice A len cap, MV at' A1 n1 c1 A2 n2 c2, .int .i64 fuel] w (RunMRes w 0 0 0 g1 g2 (-1) false) := by
  obtain ⟨W0, hW0⟩ : ∃ W0, (w.alloc (.cells #[.int .i64 at', .slice A1 n1 c1, .slice A2 n2 c2] 31)).alloc (.cells #[.int .i64 0, .slice none 0 0, .slice none 0 0] 31) = W0 := ⟨_, rfl⟩
  have e1 : Holds5 W0 w.heap.size 31 #[.int .i64 at', .slice A1 n1 c1, .slice A2 n2 c2] := by
    rw [← hW0]
    exact (Holds5.fresh w 31 #[.int .i64 at', .slice A1 n1 c1, .slice A2 n2 c2]).alloc _
  have e2 : Holds5 W0 (w.heap.size + 1) 31 #[.int .i64 0, .slice none 0 0, .slice none 0 0] := by
    rw [← hW0]
    have := Holds5.fresh (w.alloc (.cells #[.int .i64 at', .slice A1 n1 c1, .slice A2 n2 c2] 31)) 31 #[.int .i64 0, .slice none 0 0, .slice none 0 0]
    rwa [World.size_alloc] at this
  have e3 : w.grownBy W0 none := by
    rw [← hW0]
    exact grown_same (World.grownBy_alloc _ _ _) (World.grownBy_alloc _ _ _)
  have HVR := shade (validRun_any A len cap F at' A1 n1 c1 A2 n2 c2 f1 f2 fuel W0 hl (hC.on e3) (h1.on e3) (h2.on e3) hn1 hn2)
  rw [hr] at HVR
  have HW0 := shade hW0
  have E1 := shade e1; have E2 := shade e2; have E3 := shade e3
  clear e1 e2 e3 hW0 hC h1 h2 hr
  go_enter Tryd.func22, Tryd.ntmps22
  go_upto_region 1 with (fail)
  rw [HW0.out]
  clear HW0
  have x0 := E1.out.look 0; have x1 := E1.out.look 1; have x2 := E1.out.look 2
  simp at x0 x1 x2
  go_wp2_with fail
  refine HVR.out.mono ?_
  rintro e w1 ⟨rfl, hgr⟩
  have h2 := E2.out.grown hgr (by intro e; cases e)
  have h3 := grown_same E3.out hgr
  clear hgr x0 x1 x2 HVR E1 E2 E3
  have r0 := h2.look 0; have r1 := h2.look 1; have r2 := h2.look 2; have t0 := h2.free 0; have t1 := h2.free 1; have t2 := h2.free 2
  simp at r0 r1 r2
  have hP := ((h2.put 0 (.int .i64 0)).put 1 (.slice none 0 0)).put 2 (.slice none 0 0)
  simp at hP
  have HP := shade hP
  have HGF := shade (grown_put (r := w.heap.size + 1) (grown_put (r := w.heap.size + 1) (grown_put (r := w.heap.size + 1) h3 (by omega) 0 (.int .i64 0)) (by omega) 1 (.slice none 0 0)) (by omega) 2 (.slice none 0 0))
  clear h2 hP h3
  go_wp2_with fail
  have hP := HP.out
  have q0 := hP.look 0; have q1 := hP.look 1; have q2 := hP.look 2
  simp at q0 q1 q2
  refine bodyPost_ret (v := .tuple #[MV 0 none 0 0 none 0 0, .int .i64 (-1), .bool false]) (by simp [results, Tryd.results22, go_sem, q0, q1, q2]) rfl ⟨none, 0, none, 0, rfl, .inl ⟨rfl, rfl, rfl, rfl⟩, HGF.out⟩

set_option maxRecDepth 100000 in
set_option maxHeartbeats 8000000 in
theorem SpecRunMachine_yes (A : Option Addr) (len cap : Nat) (F : Nat → Ins) (s : Sta) (b1 o1 c1 b2 o2 c2 : Nat) (fuel : Nat) (w : World) (hl : len ≤ 9223372036854775807) (hC : Code w A len F) (h1 : Nums w (some ⟨b1, o1, none⟩) 4 s.r) (h2 : Nums w (some ⟨b2, o2, none⟩) 8 s.m) (hv : vcB len F = true) (hm : vmB s.at' 4 8 s.r s.m = true) (hf : fuel ≤ 300) :
    Calls Tryd.prog 22 #[.slice A len cap, MV s.at' (some ⟨b1, o1, none⟩) 4 c1 (some ⟨b2, o2, none⟩) 8 c2, .int .i64 fuel] w (SRMRes w len F s fuel) := by
  obtain ⟨W0, hW0⟩ : ∃ W0, (w.alloc (.cells #[.int .i64 s.at', .slice (some ⟨b1, o1, none⟩) 4 c1, .slice (some ⟨b2, o2, none⟩) 8 c2] 31)).alloc (.cells #[.int .i64 0, .slice none 0 0, .slice none 0 0] 31) = W0 := ⟨_, rfl⟩
  have e1 : Holds5 W0 w.heap.size 31 #[.int .i64 s.at', .slice (some ⟨b1, o1, none⟩) 4 c1, .slice (some ⟨b2, o2, none⟩) 8 c2] := by
    rw [← hW0]
    exact (Holds5.fresh w 31 #[.int .i64 s.at', .slice (some ⟨b1, o1, none⟩) 4 c1, .slice (some ⟨b2, o2, none⟩) 8 c2]).alloc _
  have e2 : Holds5 W0 (w.heap.size + 1) 31 #[.int .i64 0, .slice none 0 0, .slice none 0 0] := by
    rw [← hW0]
    have := Holds5.fresh (w.alloc (.cells #[.int .i64 s.at', .slice (some ⟨b1, o1, none⟩) 4 c1, .slice (some ⟨b2, o2, none⟩) 8 c2] 31)) 31 #[.int .i64 0, .slice none 0 0, .slice none 0 0]
    rwa [World.size_alloc] at this
  have e3 : w.grownBy W0 none := by
    rw [← hW0]
    exact grown_same (World.grownBy_alloc _ _ _) (World.grownBy_alloc _ _ _)
  have HVR := shade (validRun_any A len cap F s.at' (some ⟨b1, o1, none⟩) 4 c1 (some ⟨b2, o2, none⟩) 8 c2 s.r s.m fuel W0 hl (hC.on e3) (h1.on e3) (h2.on e3) (by omega) (by omega))
  rw [show runB len F s.at' 4 8 s.r s.m fuel = true by simp [runB, hv, hm, inRB]; omega] at HVR
  have HC0 := shade (hC.on e3)
  have HV := shade hv
  have h40 : len ≤ 40 := by
    have hv2 := hv
    simp only [vcB, Bool.and_eq_true, decide_eq_true_eq] at hv2
    exact hv2.2
  have HOK := shade (okS_of hm)
  have N1 := shade (h1.on e3)
  have N2 := shade (h2.on e3)
  have HW0 := shade hW0
  have E1 := shade e1; have E2 := shade e2; have E3 := shade e3
  clear e1 e2 e3 hW0 hC h1 h2 hv hm
  go_enter Tryd.func22, Tryd.ntmps22
  go_upto_region 1 with (fail)
  rw [HW0.out]
  clear HW0
  have x0 := E1.out.look 0; have x1 := E1.out.look 1; have x2 := E1.out.look 2
  simp at x0 x1 x2
  go_wp2_with fail
  refine HVR.out.mono ?_
  rintro e w1 ⟨rfl, hgr⟩
  have p1 := E1.out.grown hgr (by intro e; cases e)
  have E2b := shade (E2.out.grown hgr (by intro e; cases e))
  have E3b := shade (grown_same E3.out hgr)
  have N1b := shade (N1.out.on hgr)
  have N2b := shade (N2.out.on hgr)
  have HCb := shade (HC0.out.on hgr)
  clear hgr x0 x1 x2 HVR E1 E2 E3 N1 N2 HC0
  have x0 := p1.look 0; have x1 := p1.look 1; have x2 := p1.look 2
  simp at x0 x1 x2
  clear p1
  go_wp2_with fail
  refine (specRun_any A len cap F s b1 o1 c1 b2 o2 c2 fuel w1 HCb.out N1b.out N2b.out HV.out HOK.out hf).mono ?_
  rintro e w2 ⟨k, hre, g1, d1, g2, d2, rfl, hne, ho1, ho2, hgr⟩
  have hkf := hre.le
  have hokk := HOK.out.run HV.out k hre.go
  have h2 := (E2b.out.grown hgr (by intro e; cases e))
  have h3 := grown_same E3b.out hgr
  have hc3 := HCb.out.on hgr
  have z2 := h2.inside
  have zb := E3b.out.size
  have zi := E2b.out.inside
  have zl1 := ho1.lt
  have zl2 := ho2.lt
  obtain ⟨tt, ht⟩ : ∃ tt, sN F s k = tt := ⟨_, rfl⟩
  rw [ht] at ho1 ho2 hokk ⊢
  have HT := shade ht
  have hga := World.grownBy_alloc w2 (.cells #[.int .i64 tt.at', .slice (some ⟨g1, 0, none⟩) 4 d1, .slice (some ⟨g2, 0, none⟩) 8 d2] 31) none
  have h4 : Holds5 (w2.alloc (.cells #[.int .i64 tt.at', .slice (some ⟨g1, 0, none⟩) 4 d1, .slice (some ⟨g2, 0, none⟩) 8 d2] 31)) w2.heap.size 31 #[.int .i64 tt.at', .slice (some ⟨g1, 0, none⟩) 4 d1, .slice (some ⟨g2, 0, none⟩) 8 d2] := Holds5.fresh w2 _ _
  have h2a := h2.grown hga (by intro e; cases e)
  have h3a := grown_same h3 hga
  have hc3a := hc3.on hga
  have ho1a := ho1.on hga
  have ho2a := ho2.on hga
  clear hgr x0 x1 x2 E2b E3b N1b N2b HCb h2 h3 hc3 ho1 ho2 ht
  go_upto_region 4 with (fail)
  obtain ⟨W2, hW⟩ : ∃ W2, w2.alloc (.cells #[.int .i64 tt.at', .slice (some ⟨g1, 0, none⟩) 4 d1, .slice (some ⟨g2, 0, none⟩) 8 d2] 31) = W2 := ⟨_, rfl⟩
  obtain ⟨R, hR⟩ : ∃ R, w2.heap.size = R := ⟨_, rfl⟩
  rw [hR] at h4 z2 zl1 zl2 ⊢
  rw [hW] at h4 h2a h3a hc3a ho1a ho2a ⊢
  clear hW hR hga
  have hRne : R ≠ w.heap.size + 1 := by omega
  have he : ((tt.at'.toNat : Nat) : Int) = tt.at' := Int.toNat_of_nonneg hokk.lo
  have HHA := shade (halted_any A len cap tt.at'.toNat F W2.drew (hc3a.on (grown_drew1 W2)) h40)
  rw [he] at HHA
  have HF := shade (show Holds5 W2.drew (w.heap.size + 1) 31 #[.int .i64 0, .slice none 0 0, .slice none 0 0] ∧ Holds5 W2.drew R 31 #[.int .i64 tt.at', .slice (some ⟨g1, 0, none⟩) 4 d1, .slice (some ⟨g2, 0, none⟩) 8 d2] ∧ w.grownBy W2.drew none ∧ Own W2.drew w.heap.size (some ⟨g1, 0, none⟩) 4 d1 tt.r ∧ Own W2.drew w.heap.size (some ⟨g2, 0, none⟩) 8 d2 tt.m from
    ⟨h2a.drew, h4.drew, grown_same h3a (grown_drew1 W2), Own.lower (ho1a.on (grown_drew1 W2)) (by omega), Own.lower (ho2a.on (grown_drew1 W2)) (by omega)⟩)
  have n1 : g1 ≠ w.heap.size + 1 := by omega
  have n2 : g2 ≠ w.heap.size + 1 := by omega
  have HN := shade hne
  have HRE := shade hre
  clear h4 h2a h3a hc3a ho1a ho2a hne hre hokk he zl1 zl2 z2 zb zi
  go_region_held3 (fun w' => w'.cell? ⟨R, 0, none⟩ = some (.int .i64 tt.at') ∧ w'.cell? ⟨R, 1, none⟩ = some (.slice (some ⟨g1, 0, none⟩) 4 d1) ∧ w'.cell? ⟨R, 2, none⟩ = some (.slice (some ⟨g2, 0, none⟩) 8 d2))
    (first | with_reducible exact box3m HF.out.2.1 | with_reducible exact box3m HB.out | with_reducible exact box3m (HB.out.put3o hRne _ _ _))
    (first | (go_at_call 69; refine HHA.out.mono ?_; rintro e w5 ⟨rfl, hw⟩; have hf := HF.out; rw [hw] at hf; obtain ⟨hd, hb, h3d, ho1, ho2⟩ := hf; have HB := shade hb; have y0 := hd.look 0; have y1 := hd.look 1; have y2 := hd.look 2; have t0 := hd.free 0; have t1 := hd.free 1; have t2 := hd.free 2; simp at y0 y1 y2; have hP := ((hd.put 0 (.int .i64 tt.at')).put 1 (.slice (some ⟨g1, 0, none⟩) 4 d1)).put 2 (.slice (some ⟨g2, 0, none⟩) 8 d2); simp at hP; have HP := shade hP; have HGF := shade (grown_put (r := w.heap.size + 1) (grown_put (r := w.heap.size + 1) (grown_put (r := w.heap.size + 1) h3d (by omega) 0 (.int .i64 tt.at')) (by omega) 1 (.slice (some ⟨g1, 0, none⟩) 4 d1)) (by omega) 2 (.slice (some ⟨g2, 0, none⟩) 8 d2)); have M1 := shade (((ho1.far n1 0 (.int .i64 tt.at')).far n1 1 (.slice (some ⟨g1, 0, none⟩) 4 d1)).far n1 2 (.slice (some ⟨g2, 0, none⟩) 8 d2)); have M2 := shade (((ho2.far n2 0 (.int .i64 tt.at')).far n2 1 (.slice (some ⟨g1, 0, none⟩) 4 d1)).far n2 2 (.slice (some ⟨g2, 0, none⟩) 8 d2)); clear hw ho1 ho2 hd hb hP h3d))
  all_goals (go_wp2_with fail; have hP := HP.out; have q0 := hP.look 0; have q1 := hP.look 1; have q2 := hP.look 2; simp at q0 q1 q2; refine bodyPost_ret (v := .tuple #[MV tt.at' (some ⟨g1, 0, none⟩) 4 d1 (some ⟨g2, 0, none⟩) 8 d2, .int .i64 k, .bool (haltB len F tt.at'.toNat)]) (by simp [results, Tryd.results22, go_sem, q0, q1, q2]) rfl ⟨k, HRE.out, _, d1, _, d2, by rw [HT.out]; rfl, by rw [HT.out]; exact .inr ⟨g1, g2, rfl, rfl, HN.out, M1.out, M2.out⟩, HGF.out⟩)

end Go.Proofs.YtkljjacailgdaaaDoor

namespace Go.Proofs.YtkljjacailgdaaaDoor
open Go.RowKit
set_option linter.unusedSimpArgs false
set_option maxHeartbeats 2000000 in
theorem equalMachine_any (at' : Int) (A1 A2 B1 B2 : Option Addr) (n1 n2 c1 c2 d1 d2 : Nat) (f1 f2 : Nat → Int) (w : World) (hn1 : n1 ≤ 9223372036854775807) (hn2 : n2 ≤ 9223372036854775807)
    (h1 : Nums w A1 n1 f1) (h2 : Nums w A2 n2 f2) (k1 : Nums w B1 n1 f1) (k2 : Nums w B2 n2 f2) :
    Calls Tryd.prog 23 #[MV at' A1 n1 c1 A2 n2 c2, MV at' B1 n1 d1 B2 n2 d2] w fun e w' => e = .returned (.bool true) ∧ w.grownBy w' none := by
  have H1 := shade h1
  have H2 := shade h2
  have K1 := shade k1
  have K2 := shade k2
  clear h1 h2 k1 k2
  go_enter Tryd.func23, Tryd.ntmps23
  go_wp2_with fail
  refine (equalInts_any A1 B1 c1 d1 n1 f1 f1 _ hn1 ((H1.out.alloc _).alloc _) ((K1.out.alloc _).alloc _) (fun _ _ => rfl)).mono ?_
  rintro e w1 ⟨rfl, m1, rfl⟩
  go_wp2_with fail
  refine (equalInts_any A2 B2 c2 d2 n2 f2 f2 _ hn2 (((H2.out.alloc _).alloc _).drewN m1) (((K2.out.alloc _).alloc _).drewN m1) (fun _ _ => rfl)).mono ?_
  rintro e w2 ⟨rfl, m2, rfl⟩
  go_wp2_with fail
  go_ret
  exact ⟨rfl, grown_drewN (grown_same (World.grownBy_alloc _ _ _) (World.grownBy_alloc _ _ _)) (m1 + m2)⟩
theorem OkS.vmB {s : Sta} (h : OkS s) : vmB s.at' 4 8 s.r s.m = true := by
  obtain ⟨m, hm⟩ := Int.eq_ofNat_of_zero_le h.lo
  have h40 := h.hi
  have k1 : okL 4 s.r = true := okL_iff.2 fun j hj => by
    have := h.r j hj
    simp [inRB]
    omega
  have k2 : okL 8 s.m = true := okL_iff.2 fun j hj => by
    have := h.m j hj
    simp [inRB]
    omega
  rw [vmB_in h.lo h40, k1, k2]
  rfl
theorem sN_add (F : Nat → Ins) (s : Sta) (i : Nat) : ∀ j, sN F (sN F s i) j = sN F s (i + j) := by
  intro j
  induction j with
  | zero => rfl
  | succ j ih =>
    show sNext F (sN F (sN F s i) j) = sNext F (sN F s (i + j))
    rw [ih]
/-- A run behind a run is a run. -/
theorem RunEnd.trans {len : Nat} {F : Nat → Ins} {s : Sta} {f1 f2 i j : Nat} (h1 : RunEnd len F s f1 i) (h2 : RunEnd len F (sN F s i) f2 j) : RunEnd len F s (f1 + f2) (i + j) := by
  refine ⟨by have := h1.le; have := h2.le; omega, fun k hk => ?_, ?_⟩
  · by_cases h : k < i
    · exact h1.go k h
    · have := h2.go (k - i) (by omega)
      rw [sN_add, show i + (k - i) = k by omega] at this
      exact this
  · rcases h1.over with e1 | e1
    · rcases h2.over with e2 | e2
      · exact .inl (by omega)
      · rw [sN_add] at e2
        exact .inr e2
    · obtain rfl : j = 0 := by
        by_cases hj : j = 0
        · exact hj
        · have := h2.go 0 (by omega)
          rw [show sN F (sN F s i) 0 = sN F s i from rfl, e1] at this
          cases this
      exact .inr e1
theorem runm_yes (n : Nat) (F : Nat → Ins) (s : Sta) (fuel : Int) (K : Nat) (hn : n ≤ 9223372036854775807) (hv : vcB n F = true) (hs : OkS s) (hf0 : 0 ≤ fuel) (hf1 : fuel ≤ 300) (hK : RunEnd n F s fuel.toNat K) :
    ∀ (A : Option Addr) (cap : Nat) (A1 : Option Addr) (c1 : Nat) (A2 : Option Addr) (c2 : Nat) (W : World), WT W → Code W A n F → Nums W A1 4 s.r → Nums W A2 8 s.m → Calls Tryd.prog 21 #[.slice A n cap, MV s.at' A1 4 c1 A2 8 c2, .int .i64 fuel] W (RunMRes W (sN F s K).at' 4 8 (sN F s K).r (sN F s K).m K (sHalt n F (sN F s K))) := by
  intro A cap A1 c1 A2 c2 W hg hC h1 h2
  obtain ⟨fu, rfl⟩ := Int.eq_ofNat_of_zero_le hf0
  rw [Int.toNat_natCast] at hK
  obtain ⟨b1, o1, rfl, _⟩ := h1.resolve_left (by omega)
  obtain ⟨b2, o2, rfl, _⟩ := h2.resolve_left (by omega)
  have := hK.le
  exact RunMachine_yes A n cap s.at' (some ⟨b1, o1, none⟩) 4 c1 (some ⟨b2, o2, none⟩) 8 c2 fu K (sN F s K) (sHalt n F (sN F s K)) W (by omega) fun W' hW => (runOf_yes A n cap F s b1 o1 c1 b2 o2 c2 fu W' (hg.below (below_of_grown hW) (wt_lt hg)) hn (hC.on hW) (h1.on hW) (h2.on hW) hv hs.vmB (by omega)).mono fun e w' h => h.resE hK
/-- What RunMachine and its model leave, told ahead. -/
theorem runm_told (n : Nat) (F : Nat → Ins) (at' : Int) (n1 n2 : Nat) (f1 f2 : Nat → Int) (fuel : Int) (hn : n ≤ 9223372036854775807) (hn1 : n1 ≤ 9223372036854775807) (hn2 : n2 ≤ 9223372036854775807) :
    ∃ (at2 : Int) (k1 k2 : Nat) (g1 g2 : Nat → Int) (N : Int) (d : Bool), (k1 ≤ 8 ∧ k2 ≤ 8) ∧ (-1 ≤ N ∧ N ≤ 300) ∧
      (∀ (A : Option Addr) (cap : Nat) (A1 : Option Addr) (c1 : Nat) (A2 : Option Addr) (c2 : Nat) (W : World), Code W A n F → Nums W A1 n1 f1 → Nums W A2 n2 f2 → Calls Tryd.prog 22 #[.slice A n cap, MV at' A1 n1 c1 A2 n2 c2, .int .i64 fuel] W (RunMRes W at2 k1 k2 g1 g2 N d)) ∧
      (∀ (A : Option Addr) (cap : Nat) (A1 : Option Addr) (c1 : Nat) (A2 : Option Addr) (c2 : Nat) (W : World), WT W → Code W A n F → Nums W A1 n1 f1 → Nums W A2 n2 f2 → Calls Tryd.prog 21 #[.slice A n cap, MV at' A1 n1 c1 A2 n2 c2, .int .i64 fuel] W (RunMRes W at2 k1 k2 g1 g2 N d)) ∧
      ((runB n F at' n1 n2 f1 f2 fuel = false ∧ N = -1) ∨ (runB n F at' n1 n2 f1 f2 fuel = true ∧ n1 = 4 ∧ n2 = 8 ∧ ∃ K : Nat, RunEnd n F ⟨at', f1, f2⟩ fuel.toNat K ∧ N = K ∧ at2 = (sN F ⟨at', f1, f2⟩ K).at' ∧ k1 = 4 ∧ k2 = 8 ∧ g1 = (sN F ⟨at', f1, f2⟩ K).r ∧ g2 = (sN F ⟨at', f1, f2⟩ K).m ∧ d = sHalt n F (sN F ⟨at', f1, f2⟩ K))) := by
  rcases hr : runB n F at' n1 n2 f1 f2 fuel with _ | _
  · exact ⟨0, 0, 0, f1, f2, -1, false, ⟨by omega, by omega⟩, ⟨by omega, by omega⟩, fun A cap A1 c1 A2 c2 W hC h1 h2 => SpecRunMachine_no A n cap F at' A1 n1 c1 A2 n2 c2 f1 f2 fuel W hn hC h1 h2 hn1 hn2 hr f1 f2,
      fun A cap A1 c1 A2 c2 W hg hC h1 h2 => RunMachine_no A n cap at' A1 n1 c1 A2 n2 c2 fuel 0 zSta false f1 f2 W fun W' hW => (runOf_no A n cap F at' A1 n1 c1 A2 n2 c2 f1 f2 fuel W' (hg.below (below_of_grown hW) (wt_lt hg)) hn (hC.on hW) (h1.on hW) (h2.on hW) hr).mono fun e w' h => h.resE, .inl ⟨rfl, rfl⟩⟩
  · obtain ⟨hv, hm, hf0, hf1⟩ := runB_parts hr
    obtain ⟨_, rfl, rfl, _, _⟩ := vmB_parts hm
    obtain ⟨K, hK⟩ := runEnd_ex n F ⟨at', f1, f2⟩ fuel.toNat
    have hle := hK.le
    refine ⟨_, 4, 8, _, _, K, _, ⟨by omega, by omega⟩, ⟨by omega, by omega⟩, fun A cap A1 c1 A2 c2 W hC h1 h2 => ?_, runm_yes n F ⟨at', f1, f2⟩ fuel K hn hv (okS_of hm) hf0 hf1 hK, .inr ⟨rfl, rfl, rfl, K, hK, rfl, rfl, rfl, rfl, rfl, rfl, rfl⟩⟩
    obtain ⟨fu, rfl⟩ := Int.eq_ofNat_of_zero_le hf0
    rw [Int.toNat_natCast] at hK
    obtain ⟨b1, o1, rfl, _⟩ := h1.resolve_left (by omega)
    obtain ⟨b2, o2, rfl, _⟩ := h2.resolve_left (by omega)
    refine (SpecRunMachine_yes A n cap F ⟨at', f1, f2⟩ b1 o1 c1 b2 o2 c2 fu W hn hC h1 h2 hv hm (by omega)).mono ?_
    rintro e w' ⟨k, hk, h⟩
    obtain rfl := hk.uniq hK
    exact h

end Go.Proofs.YtkljjacailgdaaaDoor
