/- A region that draws its order, whose last operation waits for all others: a condition on the world that holds ahead of the last operation alone. The model's someMachine returns a machine whose numbers can be read and changes nothing but the reader. The machine of some numbers that a law tries. The model's someCode, once more: it hands the reader on. -/
import Derived.Test.YtjeflaodeafhbaaDoorRows
import Derived.OrdersHeld
import Derived.StillTail
import Derived.Deep.RegionHeld
import Derived.Deep.RegionLawGrows
import Derived.Lib.Hide
import Derived.Test.YtjeflaodeafhbaaDoorG60
import Derived.Test.YtjeflaodeafhbaaDoorG39
import Derived.Test.YtjeflaodeafhbaaDoorG76
import Derived.Test.YtjeflaodeafhbaaDoorG77
namespace Go.Proofs.YtjeflaodeafhbaaDoor
open Go
section
variable {P : Program} {ops : Array Oper} {Q : Exit → Act → World → Prop} {md : Region.Mode} {S : World → Prop} {n : Nat}
/-- Whatever order is picked from here on; S holds behind every operation ahead of number n. -/
def wpAnyG (P : Program) (md : Region.Mode) (ops : Array Oper) (Q : Exit → Act → World → Prop) (S : World → Prop) (n : Nat) : Nat → Array Bool → Act → World → Prop
  | 0, listed, a, w => Region.ready md ops listed = [] ∧ Q .normal a w
  | fuel + 1, listed, a, w =>
    (Region.ready md ops listed = [] → Q .normal a w) ∧
    ∀ i ∈ Region.ready md ops listed, wpOp P ops Q i (fun a' w' => (i < n → S w') ∧ wpAnyG P md ops Q S n fuel (listed.setIfInBounds i true) a' w') a w
theorem wpAny_of_G : ∀ (fuel : Nat) (listed : Array Bool) (a : Act) (w : World), wpAnyG P md ops Q S n fuel listed a w → wpAny P md ops Q fuel listed a w
  | 0, _, _, _, h => h
  | fuel + 1, _, _, _, h => ⟨h.1, fun i hi => wpOp_mono (fun a' w' h' => wpAny_of_G fuel _ a' w' h'.2) (h.2 i hi)⟩
theorem wpAnyG_first {i : Nat} {oi : Oper} {v : Value} (hi : ops[i]? = some oi) (hsel : ∀ (j : Nat) (o : Oper) cs b, ops[j]? = some o → o.op ≠ .select cs b)
    (hQ : ∀ c a w, Q (.panic c) (a.put oi.dst v) w → Q (.panic c) a w) (hs : Region.sinkB md ops n = true) (hc : Region.chainB md ops n = true) (hn : n < ops.size) (hin : i < n) :
    ∀ (fuel : Nat) (listed : Array Bool) (a : Act) (w : World), HeadInv md ops n listed →
      (∀ j oj, ops[j]? = some oj → j ≠ i → listed.getD j true = false → (∀ e ∈ oj.after, Region.binds md e = true → e.on ≠ i) → oi.apart ops oj = true) →
      i ∈ Region.ready md ops listed → YieldsIf P ops S oi v a → S w →
      wpAnyG P md ops Q S n fuel (listed.setIfInBounds i true) (a.put oi.dst v) w → wpAnyG P md ops Q S n (fuel + 1) listed a w := by
  intro fuel
  induction fuel with
  | zero =>
    intro listed a w inv _ hr hy hS H
    refine ⟨fun h => (by rw [h] at hr; cases hr), fun j hj => ?_⟩
    by_cases hji : j = i
    · subst hji; exact hy.wpOp hi hS ⟨fun _ => hS, H⟩
    · have := ready_mono hj hji
      rw [H.1] at this
      cases this
  | succ fuel ih =>
    intro listed a w inv hfree hr hy hS H
    refine ⟨fun h => (by rw [h] at hr; cases hr), fun j hj => ?_⟩
    have hun := (mem_ready.1 hr).1
    have hjn : j < n := by
      rcases Nat.lt_or_ge j n with h | h
      · exact h
      · exact absurd hj (tail_waits hs hc hn inv _ i rfl hin hun j h)
    by_cases hji : j = i
    · subst hji; exact hy.wpOp hi hS ⟨fun _ => hS, H⟩
    · have h1 := H.2 j (ready_mono hj hji)
      obtain ⟨hjun, oj, hoj, hall⟩ := mem_ready.1 hj
      have hnot : ∀ e ∈ oj.after, Region.binds md e = true → e.on ≠ i := fun e he hb heq => by
        have h1 := hall e he hb
        have h0 := (mem_ready.1 hr).1
        rw [heq] at h1
        rcases Nat.lt_or_ge i listed.size with h' | h'
        · simp [h'] at h0 h1; rw [h0] at h1; cases h1
        · simp [Array.getElem?_eq_none h'] at h1
      have h2 := wpOp_putIf hoj (hfree j oj hoj hji hjun hnot) (fun cs b => hsel i oi cs b hi) (fun cs b => hsel j oj cs b hoj) hQ hy h1
      have hfree' : ∀ k ok, ops[k]? = some ok → k ≠ i → (listed.setIfInBounds j true).getD k true = false →
          (∀ e ∈ ok.after, Region.binds md e = true → e.on ≠ i) → oi.apart ops ok = true := fun k ok hk hki hun hno => by
        refine hfree k ok hk hki ?_ hno
        by_cases hjk : j = k
        · subst hjk; exact hjun
        · rw [getD_set_ne true hjk] at hun; exact hun
      refine wpOp_mono (fun a' w' h3 => ⟨fun _ => h3.2.1 hjn, ih (listed.setIfInBounds j true) a' w' (inv.set hj hjn) hfree' (ready_mono hr (Ne.symm hji)) h3.1 (h3.2.1 hjn) ?_⟩) h2
      rw [Array.setIfInBounds_comm _ _ hji]
      exact h3.2.2
end
section
variable {P : Program} {l : List Oper} {Q : Exit → Act → World → Prop} {S : World → Prop} {n : Nat}
/-- From here on, in a walk. -/
def WG (P : Program) (l : List Oper) (Q : Exit → Act → World → Prop) (S : World → Prop) (n fuel : Nat) (listed : List Bool) (a : Act) (w : World) : Prop :=
  HeadInv .any l.toArray n listed.toArray → wpAnyG P .any l.toArray Q S n fuel listed.toArray a w
/-- The beginning. -/
theorem wp_region_G {id : Nat} {a : Act} {w : World} (hm : P.follows .mixedOrders = true) (S : World → Prop) (n N : Nat) (L : List Bool) (hN : l.length = N) (hL : List.replicate N false = L) (h : WG P l Q S n N L a w.drew) : (Code.region id l.toArray true).wp P Q a w := by
  subst hN
  subst hL
  refine wp_region_any hm (wpAny_of_G (S := S) (n := n) _ _ _ _ ?_)
  have inv : HeadInv .any l.toArray n (List.replicate l.length false).toArray := by
    refine ⟨by simp, fun j oj _ hl => ?_, fun t ht ht' => ?_⟩
    · rw [List.toArray_replicate, getD_replicate_false] at hl
      cases hl
    · rw [List.toArray_replicate]
      simp at ht'
      simp [ht']
  have key := h inv
  rw [List.toArray_replicate] at key
  simpa using key
/-- Number i may be taken first. -/
theorem WG.take {i : Nat} {oi : Oper} {v : Value} {fuel : Nat} {listed : List Bool} {a : Act} {w : World} (hi : l[i]? = some oi)
    (hsel : Region.noSelect l.toArray = true) (hs : Region.sinkB .any l.toArray n = true) (hc : Region.chainB .any l.toArray n = true) (hn : decide (n < l.length ∧ i < n) = true)
    (hf : Region.free .any l.toArray listed.toArray i = true) (hr : (Region.ready .any l.toArray listed.toArray).contains i = true)
    (hQ : ∀ c a w, Q (.panic c) (a.put oi.dst v) w → Q (.panic c) a w) (hy : YieldsIf P l.toArray S oi v a) (hS : S w)
    (h : WG P l Q S n fuel (listed.set i true) (a.put oi.dst v) w) : WG P l Q S n (fuel + 1) listed a w := fun inv => by
  have hn' := of_decide_eq_true hn
  have hi' : l.toArray[i]? = some oi := by simpa using hi
  have hr' : i ∈ Region.ready .any l.toArray listed.toArray := by simpa using hr
  have inv' := inv.set hr' hn'.2
  have e : listed.toArray.setIfInBounds i true = (listed.set i true).toArray := by simp
  rw [e] at inv'
  have h' := h inv'
  rw [← e] at h'
  exact wpAnyG_first hi' (Region.noSelect_spec hsel) hQ hs hc (by simpa using hn'.1) hn'.2 fuel listed.toArray a w inv (Region.free_spec hi' hf) hr' hy hS h'
/-- Whichever comes up of those that may: behind it S is shown anew. -/
theorem WG.all {rs : List Nat} {fuel : Nat} {listed : List Bool} {a : Act} {w : World} (hr : Region.ready .any l.toArray listed.toArray = rs) (hne : rs ≠ []) (hlt : ∀ i ∈ rs, i < n)
    (h : ∀ i ∈ rs, wpOp P l.toArray Q i (fun a' w' => S w' ∧ WG P l Q S n fuel (listed.set i true) a' w') a w) : WG P l Q S n (fuel + 1) listed a w := fun inv => by
  refine ⟨fun h0 => absurd (hr ▸ h0) hne, fun i hi => wpOp_mono (fun a' w' h' => ⟨fun _ => h'.1, ?_⟩) (h i (hr ▸ hi))⟩
  have inv' := inv.set hi (hlt i (hr ▸ hi))
  have e : listed.toArray.setIfInBounds i true = (listed.set i true).toArray := by simp
  rw [e] at inv' ⊢
  exact h'.2 inv'
/-- The last one. -/
theorem WG.last {fuel : Nat} {listed : List Bool} {a : Act} {w : World} (hr : Region.ready .any l.toArray listed.toArray = [n]) (hr2 : Region.ready .any l.toArray (listed.set n true).toArray = [])
    (h : wpOp P l.toArray Q n (fun a' w' => Q .normal a' w') a w) : WG P l Q S n (fuel + 1) listed a w := fun _ => by
  refine ⟨fun h0 => (by rw [hr] at h0; cases h0), fun i hi => ?_⟩
  rw [hr, List.mem_singleton] at hi
  subst hi
  refine wpOp_mono (fun a' w' h' => ⟨fun hh => absurd hh (Nat.lt_irrefl _), ?_⟩) h
  have e : listed.toArray.setIfInBounds i true = (listed.set i true).toArray := by simp
  rw [e]
  cases fuel with
  | zero => exact ⟨hr2, h'⟩
  | succ f => exact ⟨fun _ => h', (by rw [hr2]; intro j hj; cases hj)⟩
/-- One operation that comes up, laid open. -/
theorem wpOp_lay {i : Nat} {o : Oper} {K0 : Act → World → Prop} {a : Act} {w : World} (hi : l[i]? = some o)
    (h : ∀ K : Act → World → Prop, RowKit.Hid (∀ a' w', K0 a' w' → K a' w') → if Region.wanted o (yielded l.toArray a.tmps) = true then Oper.wp P o a w K Q else K (a.put o.dst undef) w) : wpOp P l.toArray Q i K0 a w := by
  have h0 := h K0 (Lib.hid fun _ _ h => h)
  unfold wpOp
  simp only [List.getElem?_toArray, hi]
  split
  · rename_i hw
    rw [if_pos hw] at h0
    exact .inl h0
  · rename_i hw
    rw [if_neg hw] at h0
    exact h0
end
end Go.Proofs.YtjeflaodeafhbaaDoor

namespace Go.Proofs.YtjeflaodeafhbaaDoor
open Go.RowKit


theorem make4 (W : World) : (Instr.makeSlice 25 (.int .i64 4) (.int .i64 4)).run Tryd.prog W = .ok (.slice (some ⟨W.heap.size, 0, none⟩) 4 4) (W.alloc (.cells #[.int .i64 0, .int .i64 0, .int .i64 0, .int .i64 0] 3)) := by
  obtain ⟨i0, hi, hz0, hz1, hz2⟩ := info_parts info3
  have h := run_make (P := Tryd.prog) W 25 3 i0 (.int .i64 0) Tryd.underlying25 hi hz0 .i64 .i64 4 4 (by omega) (by omega) (by rw [hz2]; omega) (by omega)
  rw [hz1, show (Int.toNat 4) = 4 from rfl, show madeCells (Value.int .i64 0).cells (4 * 1) = #[.int .i64 0, .int .i64 0, .int .i64 0, .int .i64 0] from Array.toList_inj.1 (toList_madeCells_one _ _)] at h
  exact h
theorem make8 (W : World) : (Instr.makeSlice 25 (.int .i64 8) (.int .i64 8)).run Tryd.prog W = .ok (.slice (some ⟨W.heap.size, 0, none⟩) 8 8) (W.alloc (.cells #[.int .i64 0, .int .i64 0, .int .i64 0, .int .i64 0, .int .i64 0, .int .i64 0, .int .i64 0, .int .i64 0] 3)) := by
  obtain ⟨i0, hi, hz0, hz1, hz2⟩ := info_parts info3
  have h := run_make (P := Tryd.prog) W 25 3 i0 (.int .i64 0) Tryd.underlying25 hi hz0 .i64 .i64 8 8 (by omega) (by omega) (by rw [hz2]; omega) (by omega)
  rw [hz1, show (Int.toNat 8) = 8 from rfl, show madeCells (Value.int .i64 0).cells (8 * 1) = #[.int .i64 0, .int .i64 0, .int .i64 0, .int .i64 0, .int .i64 0, .int .i64 0, .int .i64 0, .int .i64 0] from Array.toList_inj.1 (toList_madeCells_one _ _)] at h
  exact h
theorem Rd.below {w w' : World} {g : Nat} {A : Option Addr} {n cap : Nat} {zs : List Int} {p : Nat} (h : Rd w g A n cap zs p) (hb : Below w.heap.size w w') : Rd w' g A n cap zs p := by
  refine ⟨h.blk.below hb h.blk.inside, h.len, h.cap, fun hn => ?_, h.rng, h.few⟩
  obtain ⟨b, off, hA, hbg, hc⟩ := h.cells hn
  have hl := h.low hA hn
  exact ⟨b, off, hA, hbg, fun j hj => (hb.cell (p := ⟨b, off + j, none⟩) hl).trans (hc j hj)⟩
theorem Rd.drew {w : World} {g : Nat} {A : Option Addr} {n cap : Nat} {zs : List Int} {p : Nat} (h : Rd w g A n cap zs p) : Rd w.drew g A n cap zs p := ⟨h.blk, h.len, h.cap, h.cells, h.rng, h.few⟩
/-- What stands while a machine is drawn. -/
structure SMB (w wr : World) (g B : Nat) (A : Option Addr) (n cap : Nat) (zs : List Int) (p : Nat) (at' : Int) (g1 c1 g2 c2 : Nat) (f1 f2 : Nat → Int) : Prop where
  rd : Rd wr g A n cap zs p
  res : Holds5 wr w.heap.size 29 #[.int .i64 0, .slice none 0 0, .slice none 0 0]
  var : Holds5 wr B 29 #[.int .i64 at', .slice (some ⟨g1, 0, none⟩) 4 c1, .slice (some ⟨g2, 0, none⟩) 8 c2]
  o1 : Own wr (w.heap.size + 1) (some ⟨g1, 0, none⟩) 4 c1 f1
  o2 : Own wr (w.heap.size + 1) (some ⟨g2, 0, none⟩) 8 c2 f2
  low : w.grownBy wr (some g)
  sep : (g < w.heap.size ∧ w.heap.size < B ∧ g1 ≠ g2 ∧ B ≠ g1 ∧ B ≠ g2) ∧ ∀ b off, A = some ⟨b, off, none⟩ → 0 < n → b < w.heap.size
theorem SMB.step {w wr : World} {g B : Nat} {A : Option Addr} {n cap : Nat} {zs : List Int} {p : Nat} {at' : Int} {g1 c1 g2 c2 : Nat} {f1 f2 : Nat → Int} (h : SMB w wr g B A n cap zs p at' g1 c1 g2 c2 f1 f2) {w2 : World} {p2 : Nat} (hR : Rd w2 g A n cap zs p2) (hG : wr.grownBy w2 (some g)) : SMB w w2 g B A n cap zs p2 at' g1 c1 g2 c2 f1 f2 := by
  obtain ⟨⟨s1, s2, s3, s4, s5⟩, s6⟩ := h.sep
  have l1 := h.o1.lt
  have l2 := h.o2.lt
  refine ⟨hR, h.res.grown hG (by intro e; injection e; omega), h.var.grown hG (by intro e; injection e; omega), World.ownsRow.kept h.o1 hG (.inr ?_), World.ownsRow.kept h.o2 hG (.inr ?_), only_trans h.low hG, h.sep⟩
  · show some g1 ≠ some g
    intro e
    injection e
    omega
  · show some g2 ≠ some g
    intro e
    injection e
    omega
theorem SMB.put1 {w wr : World} {g B : Nat} {A : Option Addr} {n cap : Nat} {zs : List Int} {p : Nat} {at' : Int} {g1 c1 g2 c2 : Nat} {f1 f2 : Nat → Int} (h : SMB w wr g B A n cap zs p at' g1 c1 g2 c2 f1 f2) (k : Nat) (_hk : k < 4) (x : Int) : SMB w (wr.setCell ⟨g1, k, none⟩ (.int .i64 x)) g B A n cap zs p at' g1 c1 g2 c2 (fun j => if j = k then x else f1 j) f2 := by
  obtain ⟨⟨s1, s2, s3, s4, s5⟩, s6⟩ := h.sep
  have l1 := h.o1.lt
  refine ⟨h.rd.far (q := ⟨g1, k, none⟩) _ (by show g ≠ g1; omega) (fun b off e hn => by have := s6 b off e hn; show b ≠ g1; omega), h.res.far (by omega) _ _, h.var.far s4 _ _, ?_, h.o2.far (fun e => s3 e.symm) _ _, only_put h.low (.inl (by show w.heap.size ≤ g1; omega)) _, h.sep⟩
  have hs := (World.ownsRow.stored h.o1 k (.int .i64 x)).1
  rw [numL_set 4 f1 (fun j => if j = k then x else f1 j) k x (by simp) (fun j _ hne => by rw [if_neg hne])] at hs
  exact hs
theorem SMB.put2 {w wr : World} {g B : Nat} {A : Option Addr} {n cap : Nat} {zs : List Int} {p : Nat} {at' : Int} {g1 c1 g2 c2 : Nat} {f1 f2 : Nat → Int} (h : SMB w wr g B A n cap zs p at' g1 c1 g2 c2 f1 f2) (k : Nat) (_hk : k < 8) (x : Int) : SMB w (wr.setCell ⟨g2, k, none⟩ (.int .i64 x)) g B A n cap zs p at' g1 c1 g2 c2 f1 (fun j => if j = k then x else f2 j) := by
  obtain ⟨⟨s1, s2, s3, s4, s5⟩, s6⟩ := h.sep
  have l2 := h.o2.lt
  refine ⟨h.rd.far (q := ⟨g2, k, none⟩) _ (by show g ≠ g2; omega) (fun b off e hn => by have := s6 b off e hn; show b ≠ g2; omega), h.res.far (by omega) _ _, h.var.far s5 _ _, h.o1.far s3 _ _, ?_, only_put h.low (.inl (by show w.heap.size ≤ g2; omega)) _, h.sep⟩
  have hs := (World.ownsRow.stored h.o2 k (.int .i64 x)).1
  rw [numL_set 8 f2 (fun j => if j = k then x else f2 j) k x (by simp) (fun j _ hne => by rw [if_neg hne])] at hs
  exact hs
theorem SMB.at0 {w wr : World} {g B : Nat} {A : Option Addr} {n cap : Nat} {zs : List Int} {p : Nat} {at' : Int} {g1 c1 g2 c2 : Nat} {f1 f2 : Nat → Int} (h : SMB w wr g B A n cap zs p at' g1 c1 g2 c2 f1 f2) (x : Int) : SMB w (wr.setCell ⟨B, 0, none⟩ (.int .i64 x)) g B A n cap zs p x g1 c1 g2 c2 f1 f2 := by
  obtain ⟨⟨s1, s2, s3, s4, s5⟩, s6⟩ := h.sep
  refine ⟨h.rd.far (q := ⟨B, 0, none⟩) _ (by show g ≠ B; omega) (fun b off e hn => by have := s6 b off e hn; show b ≠ B; omega), h.res.far (by omega) _ _, ?_, h.o1.far (fun e => s4 e.symm) _ _, h.o2.far (fun e => s5 e.symm) _ _, only_put h.low (.inl (by show w.heap.size ≤ B; omega)) _, h.sep⟩
  have := h.var.put 0 (.int .i64 x)
  simpa using this
theorem low_of {w' : World} {B g n c : Nat} {f : Nat → Int} (h : Own w' B (some ⟨g, 0, none⟩) n c f) (o : Nat) : ∀ b off, (some ⟨g, o, none⟩ : Option Addr) = some ⟨b, off, none⟩ → B ≤ b := by
  intro b off e
  injection e with e
  injection e with e
  have := h.lt
  omega
/-- What someMachine leaves: some machine whose numbers can be read; only the reader has changed. -/
def SMOk (w : World) (g : Nat) (e : Ending) (w' : World) : Prop :=
  ∃ (at' : Int) (A1 : Option Addr) (n1 c1 : Nat) (A2 : Option Addr) (n2 c2 : Nat) (f1 f2 : Nat → Int), e = .returned (MV at' A1 n1 c1 A2 n2 c2) ∧ Nums w' A1 n1 f1 ∧ Nums w' A2 n2 f2 ∧ (n1 ≤ 8 ∧ n2 ≤ 8) ∧ ((∀ b off, A1 = some ⟨b, off, none⟩ → w.heap.size + 1 ≤ b) ∧ ∀ b off, A2 = some ⟨b, off, none⟩ → w.heap.size + 1 ≤ b) ∧ w.grownBy w' (some g)


end Go.Proofs.YtjeflaodeafhbaaDoor

namespace Go.Proofs.YtjeflaodeafhbaaDoor
open Go.RowKit
set_option linter.unusedSimpArgs false
/-- The numbers of the tried machine. -/
def trR (t : Int) (j : Nat) : Int := (t * 7 + 3 * (j : Int)) % 256
def trM (t : Int) (j : Nat) : Int := (t * (j : Int) + t / 3) % 5
/-- What stands while the tried machine is made. -/
structure TO (w wr : World) (b g1 c1 g2 c2 : Nat) (f1 f2 : Nat → Int) : Prop where
  res : Holds5 wr w.heap.size 29 #[.int .i64 0, .slice none 0 0, .slice none 0 0]
  var : Holds5 wr b 29 #[.int .i64 0, .slice (some ⟨g1, 0, none⟩) 4 c1, .slice (some ⟨g2, 0, none⟩) 8 c2]
  o1 : Own wr (w.heap.size + 1) (some ⟨g1, 0, none⟩) 4 c1 f1
  o2 : Own wr (w.heap.size + 1) (some ⟨g2, 0, none⟩) 8 c2 f2
  sep : w.heap.size < b ∧ b ≠ g1 ∧ b ≠ g2 ∧ g1 ≠ g2
  low : w.grownBy wr none
section
variable {w wr w2 : World} {b g1 c1 g2 c2 : Nat} {f1 f2 f3 : Nat → Int}
theorem TO.set1 (h : TO w wr b g1 c1 g2 c2 f1 f2) (r : Nat) (x : Int) (hx : f3 r = x) (hf : ∀ j, j < 4 → j ≠ r → f1 j = f3 j) : TO w (wr.setCell ⟨g1, r, none⟩ (.int .i64 x)) b g1 c1 g2 c2 f3 f2 := by
  have h1 := (World.ownsRow.stored h.o1 r (.int .i64 x)).1
  rw [numL_set 4 f1 f3 r x hx hf] at h1
  have l1 := h.o1.lt
  have hs := h.sep
  exact ⟨h.res.other (p := ⟨g1, r, none⟩) (by show w.heap.size ≠ g1; omega) _, h.var.other (p := ⟨g1, r, none⟩) (by show b ≠ g1; omega) _, h1, h.o2.far (by omega) r _, hs, grown_put h.low (by omega) r _⟩
theorem TO.set2 (h : TO w wr b g1 c1 g2 c2 f1 f2) (r : Nat) (x : Int) (hx : f3 r = x) (hf : ∀ j, j < 8 → j ≠ r → f2 j = f3 j) : TO w (wr.setCell ⟨g2, r, none⟩ (.int .i64 x)) b g1 c1 g2 c2 f1 f3 := by
  have h1 := (World.ownsRow.stored h.o2 r (.int .i64 x)).1
  rw [numL_set 8 f2 f3 r x hx hf] at h1
  have l1 := h.o2.lt
  have hs := h.sep
  exact ⟨h.res.other (p := ⟨g2, r, none⟩) (by show w.heap.size ≠ g2; omega) _, h.var.other (p := ⟨g2, r, none⟩) (by show b ≠ g2; omega) _, h.o1.far (by omega) r _, h1, hs, grown_put h.low (by omega) r _⟩
end
theorem make_own (V : World) (B n : Nat) (hB : B ≤ V.heap.size) (hn : n = 4 ∨ n = 8) : Own (V.alloc (.cells (if n = 4 then #[.int .i64 0, .int .i64 0, .int .i64 0, .int .i64 0] else #[.int .i64 0, .int .i64 0, .int .i64 0, .int .i64 0, .int .i64 0, .int .i64 0, .int .i64 0, .int .i64 0]) 3)) B (some ⟨V.heap.size, 0, none⟩) n n (fun _ => 0) := by
  rcases hn with rfl | rfl
  · exact World.ownsRow_lit (base := B) (e := 3) (size := 1) V #[.int .i64 0, .int .i64 0, .int .i64 0, .int .i64 0] 4 hB (by decide) rfl
  · exact World.ownsRow_lit (base := B) (e := 3) (size := 1) V #[.int .i64 0, .int .i64 0, .int .i64 0, .int .i64 0, .int .i64 0, .int .i64 0, .int .i64 0, .int .i64 0] 8 hB (by decide) rfl


set_option maxRecDepth 100000 in
set_option maxHeartbeats 8000000 in
theorem trial_any (t : Int) (ht : t = 0 ∨ t = 4 ∨ t = 8) (w : World) : Calls Tryd.prog 14 #[.int .i64 t] w (MachOk w 0 4 8 (trR t) (trM t)) := by
  have HT := shade ht
  clear ht
  have hm4 := make4
  have hm8 := make8
  have hR0 : Holds5 (w.alloc (.cells #[.int .i64 0, .slice none 0 0, .slice none 0 0] 29)) w.heap.size 29 #[.int .i64 0, .slice none 0 0, .slice none 0 0] := Holds5.fresh _ _ _
  have hG0 := World.grownBy_alloc w (.cells #[.int .i64 0, .slice none 0 0, .slice none 0 0] 29) none
  have hz0 : (w.alloc (.cells #[.int .i64 0, .slice none 0 0, .slice none 0 0] 29)).heap.size = w.heap.size + 1 := World.size_alloc _ _
  obtain ⟨W0, hW0⟩ : ∃ W0, w.alloc (.cells #[.int .i64 0, .slice none 0 0, .slice none 0 0] 29) = W0 := ⟨_, rfl⟩
  rw [hW0] at hR0 hG0 hz0
  have HR0 := shade hR0; have HG0 := shade hG0; have HW0 := shade hW0; have HZ0 := shade hz0
  clear hR0 hG0 hW0 hz0
  go_enter Tryd.func14, Tryd.ntmps14
  go_upto_region 1 with (fail)
  rw [HW0.out]
  clear HW0
  go_cut [3] (fun s3 wx => ∃ (b g1 c1 g2 c2 : Nat), s3 = .pointer (some ⟨b, 0, none⟩) ∧ TO w wx b g1 c1 g2 c2 (fun _ => 0) (fun _ => 0))
  case first =>
    have R0 := shade HR0.out.drew; have G0 := shade (grown_same HG0.out (grown_drew1 W0)); have Z := shade (show W0.drew.heap.size = w.heap.size + 1 from HZ0.out)
    clear HR0 HG0 HZ0
    refine wp_region_G (by kernel_rfl) (fun _ => True) 4 5 [false, false, false, false, false] rfl rfl ?_
    obtain ⟨V0, hV⟩ : ∃ V0, W0.drew = V0 := ⟨_, rfl⟩
    rw [hV] at R0 G0 Z ⊢
    clear hV
    refine WG.all (rs := [0, 1, 3]) (by kernel_rfl) (by simp) (by decide) ?_
    intro i hi
    simp only [List.mem_cons, List.not_mem_nil, or_false] at hi
    rcases hi with rfl | rfl | rfl
    · refine wpOp_lay (by rfl) (fun K hK => ?_)
      go_simp
      have hg := World.grownBy_alloc V0 (.cells #[.int .i64 0, .int .i64 0, .int .i64 0, .int .i64 0] 3) none
      have hz : (V0.alloc (.cells #[.int .i64 0, .int .i64 0, .int .i64 0, .int .i64 0] 3)).heap.size = V0.heap.size + 1 := World.size_alloc _ _
      have ho : Own (V0.alloc (.cells #[.int .i64 0, .int .i64 0, .int .i64 0, .int .i64 0] 3)) (w.heap.size + 1) (some ⟨V0.heap.size, 0, none⟩) 4 4 (fun _ => 0) := make_own V0 _ 4 (by have := R0.out.inside; omega) (.inl rfl)
      refine hK.out _ _ ⟨trivial, ?_⟩
      clear hK K
      (try simp only [Act.put, List.setIfInBounds_toArray, List.set_cons_zero, List.set_cons_succ])
      obtain ⟨V1, hV⟩ : ∃ V, V0.alloc (.cells #[.int .i64 0, .int .i64 0, .int .i64 0, .int .i64 0] 3) = V := ⟨_, rfl⟩
      rw [hV] at hg ho hz ⊢
      have Z' := Z.out
      have Z := shade (And.intro hz Z')
      have R1 := shade (R0.out.grown hg (by intro e; cases e)); have G1 := shade (grown_same G0.out hg); have O11 := shade ho
      clear hg hV ho hz Z'
      refine WG.all (rs := [1, 3]) (by kernel_rfl) (by simp) (by decide) ?_
      intro i hi
      simp only [List.mem_cons, List.not_mem_nil, or_false] at hi
      rcases hi with rfl | rfl
      · refine wpOp_lay (by rfl) (fun K hK => ?_)
        go_simp
        have hg := World.grownBy_alloc V1 (.cells #[.int .i64 0, .int .i64 0, .int .i64 0, .int .i64 0, .int .i64 0, .int .i64 0, .int .i64 0, .int .i64 0] 3) none
        have hz : (V1.alloc (.cells #[.int .i64 0, .int .i64 0, .int .i64 0, .int .i64 0, .int .i64 0, .int .i64 0, .int .i64 0, .int .i64 0] 3)).heap.size = V1.heap.size + 1 := World.size_alloc _ _
        have ho : Own (V1.alloc (.cells #[.int .i64 0, .int .i64 0, .int .i64 0, .int .i64 0, .int .i64 0, .int .i64 0, .int .i64 0, .int .i64 0] 3)) (w.heap.size + 1) (some ⟨V1.heap.size, 0, none⟩) 8 8 (fun _ => 0) := make_own V1 _ 8 (by have := R1.out.inside; omega) (.inr rfl)
        refine hK.out _ _ ⟨trivial, ?_⟩
        clear hK K
        (try simp only [Act.put, List.setIfInBounds_toArray, List.set_cons_zero, List.set_cons_succ])
        obtain ⟨V2, hV⟩ : ∃ V, V1.alloc (.cells #[.int .i64 0, .int .i64 0, .int .i64 0, .int .i64 0, .int .i64 0, .int .i64 0, .int .i64 0, .int .i64 0] 3) = V := ⟨_, rfl⟩
        rw [hV] at hg ho hz ⊢
        have Z' := Z.out
        have Z := shade (And.intro hz Z')
        have R2 := shade (R1.out.grown hg (by intro e; cases e)); have G2 := shade (grown_same G1.out hg); have O22 := shade ho; have O12 := shade (O11.out.on hg)
        clear hg hV ho hz Z'
        refine WG.take (i := 2) (v := ?_) rfl (by kernel_rfl) (by kernel_rfl) (by kernel_rfl) (by kernel_rfl) (by kernel_rfl) (by kernel_rfl) (fun _ _ _ h => h) (Or.inl ⟨by rfl, ?_⟩) trivial ?_
        rotate_left
        · intro w' hSw
          try dsimp only at hSw
          go_simp
          try with_reducible rfl
        (try simp only [Act.put, List.setIfInBounds_toArray, List.set_cons_zero, List.set_cons_succ])
        refine WG.all (rs := [3]) (by kernel_rfl) (by simp) (by decide) ?_
        intro i hi
        simp only [List.mem_cons, List.not_mem_nil, or_false] at hi
        subst hi
        refine wpOp_lay (by rfl) (fun K hK => ?_)
        go_simp
        have hg := World.grownBy_alloc V2 (.cells #[.int .i64 0, .slice none 0 0, .slice none 0 0] 29) none
        have hz : (V2.alloc (.cells #[.int .i64 0, .slice none 0 0, .slice none 0 0] 29)).heap.size = V2.heap.size + 1 := World.size_alloc _ _
        have ho : Holds5 (V2.alloc (.cells #[.int .i64 0, .slice none 0 0, .slice none 0 0] 29)) V2.heap.size 29 #[.int .i64 0, .slice none 0 0, .slice none 0 0] := Holds5.fresh _ _ _
        refine hK.out _ _ ⟨trivial, ?_⟩
        clear hK K
        (try simp only [Act.put, List.setIfInBounds_toArray, List.set_cons_zero, List.set_cons_succ])
        obtain ⟨V3, hV⟩ : ∃ V, V2.alloc (.cells #[.int .i64 0, .slice none 0 0, .slice none 0 0] 29) = V := ⟨_, rfl⟩
        rw [hV] at hg ho hz ⊢
        have Z' := Z.out
        have Z := shade (And.intro hz Z')
        have R3 := shade (R2.out.grown hg (by intro e; cases e)); have G3 := shade (grown_same G2.out hg); have B3 := shade ho; have O13 := shade (O12.out.on hg); have O23 := shade (O22.out.on hg)
        clear hg hV ho hz Z'
        refine WG.last (by kernel_rfl) (by kernel_rfl) ?_
        have y0 := B3.out.look 0; have y1 := B3.out.look 1; have y2 := B3.out.look 2; have t0 := B3.out.free 0; have t1 := B3.out.free 1; have t2 := B3.out.free 2
        simp at y0 y1 y2
        refine wpOp_lay (by rfl) (fun K hK => ?_)
        go_simp
        refine hK.out _ _ ?_
        have hb := ((B3.out.put 0 (.int .i64 0)).put 1 (.slice (some ⟨V0.heap.size, 0, none⟩) 4 4)).put 2 (.slice (some ⟨V1.heap.size, 0, none⟩) 8 8)
        simp at hb
        have hs := Z.out
        have hM : TO w _ (V2.heap.size) (V0.heap.size) 4 (V1.heap.size) 8 (fun _ => 0) (fun _ => 0) := ⟨(((R3.out.other (p := ⟨V2.heap.size, 0, none⟩) (by show w.heap.size ≠ V2.heap.size; omega) _).other (p := ⟨V2.heap.size, 1, none⟩) (by show w.heap.size ≠ V2.heap.size; omega) _).other (p := ⟨V2.heap.size, 2, none⟩) (by show w.heap.size ≠ V2.heap.size; omega) _), hb, (((O13.out.far (r := V2.heap.size) (by omega) 0 _).far (r := V2.heap.size) (by omega) 1 _).far (r := V2.heap.size) (by omega) 2 _), (((O23.out.far (r := V2.heap.size) (by omega) 0 _).far (r := V2.heap.size) (by omega) 1 _).far (r := V2.heap.size) (by omega) 2 _), ⟨by omega, by omega, by omega, by omega⟩, grown_then G3.out (grown_set3 _ _ _ _ _) (by omega)⟩
        have HM := shade hM
        clear hK K y0 y1 y2 t0 t1 t2 hb hM hs
        go_wp2_with fail
        go_meet
        exact ⟨_, _, _, _, _, rfl, HM.out⟩
      · refine wpOp_lay (by rfl) (fun K hK => ?_)
        go_simp
        have hg := World.grownBy_alloc V1 (.cells #[.int .i64 0, .slice none 0 0, .slice none 0 0] 29) none
        have hz : (V1.alloc (.cells #[.int .i64 0, .slice none 0 0, .slice none 0 0] 29)).heap.size = V1.heap.size + 1 := World.size_alloc _ _
        have ho : Holds5 (V1.alloc (.cells #[.int .i64 0, .slice none 0 0, .slice none 0 0] 29)) V1.heap.size 29 #[.int .i64 0, .slice none 0 0, .slice none 0 0] := Holds5.fresh _ _ _
        refine hK.out _ _ ⟨trivial, ?_⟩
        clear hK K
        (try simp only [Act.put, List.setIfInBounds_toArray, List.set_cons_zero, List.set_cons_succ])
        obtain ⟨V2, hV⟩ : ∃ V, V1.alloc (.cells #[.int .i64 0, .slice none 0 0, .slice none 0 0] 29) = V := ⟨_, rfl⟩
        rw [hV] at hg ho hz ⊢
        have Z' := Z.out
        have Z := shade (And.intro hz Z')
        have R2 := shade (R1.out.grown hg (by intro e; cases e)); have G2 := shade (grown_same G1.out hg); have B2 := shade ho; have O12 := shade (O11.out.on hg)
        clear hg hV ho hz Z'
        refine WG.all (rs := [1]) (by kernel_rfl) (by simp) (by decide) ?_
        intro i hi
        simp only [List.mem_cons, List.not_mem_nil, or_false] at hi
        subst hi
        refine wpOp_lay (by rfl) (fun K hK => ?_)
        go_simp
        have hg := World.grownBy_alloc V2 (.cells #[.int .i64 0, .int .i64 0, .int .i64 0, .int .i64 0, .int .i64 0, .int .i64 0, .int .i64 0, .int .i64 0] 3) none
        have hz : (V2.alloc (.cells #[.int .i64 0, .int .i64 0, .int .i64 0, .int .i64 0, .int .i64 0, .int .i64 0, .int .i64 0, .int .i64 0] 3)).heap.size = V2.heap.size + 1 := World.size_alloc _ _
        have ho : Own (V2.alloc (.cells #[.int .i64 0, .int .i64 0, .int .i64 0, .int .i64 0, .int .i64 0, .int .i64 0, .int .i64 0, .int .i64 0] 3)) (w.heap.size + 1) (some ⟨V2.heap.size, 0, none⟩) 8 8 (fun _ => 0) := make_own V2 _ 8 (by have := R2.out.inside; omega) (.inr rfl)
        refine hK.out _ _ ⟨trivial, ?_⟩
        clear hK K
        (try simp only [Act.put, List.setIfInBounds_toArray, List.set_cons_zero, List.set_cons_succ])
        obtain ⟨V3, hV⟩ : ∃ V, V2.alloc (.cells #[.int .i64 0, .int .i64 0, .int .i64 0, .int .i64 0, .int .i64 0, .int .i64 0, .int .i64 0, .int .i64 0] 3) = V := ⟨_, rfl⟩
        rw [hV] at hg ho hz ⊢
        have Z' := Z.out
        have Z := shade (And.intro hz Z')
        have R3 := shade (R2.out.grown hg (by intro e; cases e)); have G3 := shade (grown_same G2.out hg); have O23 := shade ho; have O13 := shade (O12.out.on hg); have B3 := shade (B2.out.grown hg (by intro e; cases e))
        clear hg hV ho hz Z'
        refine WG.take (i := 2) (v := ?_) rfl (by kernel_rfl) (by kernel_rfl) (by kernel_rfl) (by kernel_rfl) (by kernel_rfl) (by kernel_rfl) (fun _ _ _ h => h) (Or.inl ⟨by rfl, ?_⟩) trivial ?_
        rotate_left
        · intro w' hSw
          try dsimp only at hSw
          go_simp
          try with_reducible rfl
        (try simp only [Act.put, List.setIfInBounds_toArray, List.set_cons_zero, List.set_cons_succ])
        refine WG.last (by kernel_rfl) (by kernel_rfl) ?_
        have y0 := B3.out.look 0; have y1 := B3.out.look 1; have y2 := B3.out.look 2; have t0 := B3.out.free 0; have t1 := B3.out.free 1; have t2 := B3.out.free 2
        simp at y0 y1 y2
        refine wpOp_lay (by rfl) (fun K hK => ?_)
        go_simp
        refine hK.out _ _ ?_
        have hb := ((B3.out.put 0 (.int .i64 0)).put 1 (.slice (some ⟨V0.heap.size, 0, none⟩) 4 4)).put 2 (.slice (some ⟨V2.heap.size, 0, none⟩) 8 8)
        simp at hb
        have hs := Z.out
        have hM : TO w _ (V1.heap.size) (V0.heap.size) 4 (V2.heap.size) 8 (fun _ => 0) (fun _ => 0) := ⟨(((R3.out.other (p := ⟨V1.heap.size, 0, none⟩) (by show w.heap.size ≠ V1.heap.size; omega) _).other (p := ⟨V1.heap.size, 1, none⟩) (by show w.heap.size ≠ V1.heap.size; omega) _).other (p := ⟨V1.heap.size, 2, none⟩) (by show w.heap.size ≠ V1.heap.size; omega) _), hb, (((O13.out.far (r := V1.heap.size) (by omega) 0 _).far (r := V1.heap.size) (by omega) 1 _).far (r := V1.heap.size) (by omega) 2 _), (((O23.out.far (r := V1.heap.size) (by omega) 0 _).far (r := V1.heap.size) (by omega) 1 _).far (r := V1.heap.size) (by omega) 2 _), ⟨by omega, by omega, by omega, by omega⟩, grown_then G3.out (grown_set3 _ _ _ _ _) (by omega)⟩
        have HM := shade hM
        clear hK K y0 y1 y2 t0 t1 t2 hb hM hs
        go_wp2_with fail
        go_meet
        exact ⟨_, _, _, _, _, rfl, HM.out⟩
    · refine wpOp_lay (by rfl) (fun K hK => ?_)
      go_simp
      have hg := World.grownBy_alloc V0 (.cells #[.int .i64 0, .int .i64 0, .int .i64 0, .int .i64 0, .int .i64 0, .int .i64 0, .int .i64 0, .int .i64 0] 3) none
      have hz : (V0.alloc (.cells #[.int .i64 0, .int .i64 0, .int .i64 0, .int .i64 0, .int .i64 0, .int .i64 0, .int .i64 0, .int .i64 0] 3)).heap.size = V0.heap.size + 1 := World.size_alloc _ _
      have ho : Own (V0.alloc (.cells #[.int .i64 0, .int .i64 0, .int .i64 0, .int .i64 0, .int .i64 0, .int .i64 0, .int .i64 0, .int .i64 0] 3)) (w.heap.size + 1) (some ⟨V0.heap.size, 0, none⟩) 8 8 (fun _ => 0) := make_own V0 _ 8 (by have := R0.out.inside; omega) (.inr rfl)
      refine hK.out _ _ ⟨trivial, ?_⟩
      clear hK K
      (try simp only [Act.put, List.setIfInBounds_toArray, List.set_cons_zero, List.set_cons_succ])
      obtain ⟨V1, hV⟩ : ∃ V, V0.alloc (.cells #[.int .i64 0, .int .i64 0, .int .i64 0, .int .i64 0, .int .i64 0, .int .i64 0, .int .i64 0, .int .i64 0] 3) = V := ⟨_, rfl⟩
      rw [hV] at hg ho hz ⊢
      have Z' := Z.out
      have Z := shade (And.intro hz Z')
      have R1 := shade (R0.out.grown hg (by intro e; cases e)); have G1 := shade (grown_same G0.out hg); have O21 := shade ho
      clear hg hV ho hz Z'
      refine WG.all (rs := [0, 3]) (by kernel_rfl) (by simp) (by decide) ?_
      intro i hi
      simp only [List.mem_cons, List.not_mem_nil, or_false] at hi
      rcases hi with rfl | rfl
      · refine wpOp_lay (by rfl) (fun K hK => ?_)
        go_simp
        have hg := World.grownBy_alloc V1 (.cells #[.int .i64 0, .int .i64 0, .int .i64 0, .int .i64 0] 3) none
        have hz : (V1.alloc (.cells #[.int .i64 0, .int .i64 0, .int .i64 0, .int .i64 0] 3)).heap.size = V1.heap.size + 1 := World.size_alloc _ _
        have ho : Own (V1.alloc (.cells #[.int .i64 0, .int .i64 0, .int .i64 0, .int .i64 0] 3)) (w.heap.size + 1) (some ⟨V1.heap.size, 0, none⟩) 4 4 (fun _ => 0) := make_own V1 _ 4 (by have := R1.out.inside; omega) (.inl rfl)
        refine hK.out _ _ ⟨trivial, ?_⟩
        clear hK K
        (try simp only [Act.put, List.setIfInBounds_toArray, List.set_cons_zero, List.set_cons_succ])
        obtain ⟨V2, hV⟩ : ∃ V, V1.alloc (.cells #[.int .i64 0, .int .i64 0, .int .i64 0, .int .i64 0] 3) = V := ⟨_, rfl⟩
        rw [hV] at hg ho hz ⊢
        have Z' := Z.out
        have Z := shade (And.intro hz Z')
        have R2 := shade (R1.out.grown hg (by intro e; cases e)); have G2 := shade (grown_same G1.out hg); have O12 := shade ho; have O22 := shade (O21.out.on hg)
        clear hg hV ho hz Z'
        refine WG.take (i := 2) (v := ?_) rfl (by kernel_rfl) (by kernel_rfl) (by kernel_rfl) (by kernel_rfl) (by kernel_rfl) (by kernel_rfl) (fun _ _ _ h => h) (Or.inl ⟨by rfl, ?_⟩) trivial ?_
        rotate_left
        · intro w' hSw
          try dsimp only at hSw
          go_simp
          try with_reducible rfl
        (try simp only [Act.put, List.setIfInBounds_toArray, List.set_cons_zero, List.set_cons_succ])
        refine WG.all (rs := [3]) (by kernel_rfl) (by simp) (by decide) ?_
        intro i hi
        simp only [List.mem_cons, List.not_mem_nil, or_false] at hi
        subst hi
        refine wpOp_lay (by rfl) (fun K hK => ?_)
        go_simp
        have hg := World.grownBy_alloc V2 (.cells #[.int .i64 0, .slice none 0 0, .slice none 0 0] 29) none
        have hz : (V2.alloc (.cells #[.int .i64 0, .slice none 0 0, .slice none 0 0] 29)).heap.size = V2.heap.size + 1 := World.size_alloc _ _
        have ho : Holds5 (V2.alloc (.cells #[.int .i64 0, .slice none 0 0, .slice none 0 0] 29)) V2.heap.size 29 #[.int .i64 0, .slice none 0 0, .slice none 0 0] := Holds5.fresh _ _ _
        refine hK.out _ _ ⟨trivial, ?_⟩
        clear hK K
        (try simp only [Act.put, List.setIfInBounds_toArray, List.set_cons_zero, List.set_cons_succ])
        obtain ⟨V3, hV⟩ : ∃ V, V2.alloc (.cells #[.int .i64 0, .slice none 0 0, .slice none 0 0] 29) = V := ⟨_, rfl⟩
        rw [hV] at hg ho hz ⊢
        have Z' := Z.out
        have Z := shade (And.intro hz Z')
        have R3 := shade (R2.out.grown hg (by intro e; cases e)); have G3 := shade (grown_same G2.out hg); have B3 := shade ho; have O13 := shade (O12.out.on hg); have O23 := shade (O22.out.on hg)
        clear hg hV ho hz Z'
        refine WG.last (by kernel_rfl) (by kernel_rfl) ?_
        have y0 := B3.out.look 0; have y1 := B3.out.look 1; have y2 := B3.out.look 2; have t0 := B3.out.free 0; have t1 := B3.out.free 1; have t2 := B3.out.free 2
        simp at y0 y1 y2
        refine wpOp_lay (by rfl) (fun K hK => ?_)
        go_simp
        refine hK.out _ _ ?_
        have hb := ((B3.out.put 0 (.int .i64 0)).put 1 (.slice (some ⟨V1.heap.size, 0, none⟩) 4 4)).put 2 (.slice (some ⟨V0.heap.size, 0, none⟩) 8 8)
        simp at hb
        have hs := Z.out
        have hM : TO w _ (V2.heap.size) (V1.heap.size) 4 (V0.heap.size) 8 (fun _ => 0) (fun _ => 0) := ⟨(((R3.out.other (p := ⟨V2.heap.size, 0, none⟩) (by show w.heap.size ≠ V2.heap.size; omega) _).other (p := ⟨V2.heap.size, 1, none⟩) (by show w.heap.size ≠ V2.heap.size; omega) _).other (p := ⟨V2.heap.size, 2, none⟩) (by show w.heap.size ≠ V2.heap.size; omega) _), hb, (((O13.out.far (r := V2.heap.size) (by omega) 0 _).far (r := V2.heap.size) (by omega) 1 _).far (r := V2.heap.size) (by omega) 2 _), (((O23.out.far (r := V2.heap.size) (by omega) 0 _).far (r := V2.heap.size) (by omega) 1 _).far (r := V2.heap.size) (by omega) 2 _), ⟨by omega, by omega, by omega, by omega⟩, grown_then G3.out (grown_set3 _ _ _ _ _) (by omega)⟩
        have HM := shade hM
        clear hK K y0 y1 y2 t0 t1 t2 hb hM hs
        go_wp2_with fail
        go_meet
        exact ⟨_, _, _, _, _, rfl, HM.out⟩
      · refine wpOp_lay (by rfl) (fun K hK => ?_)
        go_simp
        have hg := World.grownBy_alloc V1 (.cells #[.int .i64 0, .slice none 0 0, .slice none 0 0] 29) none
        have hz : (V1.alloc (.cells #[.int .i64 0, .slice none 0 0, .slice none 0 0] 29)).heap.size = V1.heap.size + 1 := World.size_alloc _ _
        have ho : Holds5 (V1.alloc (.cells #[.int .i64 0, .slice none 0 0, .slice none 0 0] 29)) V1.heap.size 29 #[.int .i64 0, .slice none 0 0, .slice none 0 0] := Holds5.fresh _ _ _
        refine hK.out _ _ ⟨trivial, ?_⟩
        clear hK K
        (try simp only [Act.put, List.setIfInBounds_toArray, List.set_cons_zero, List.set_cons_succ])
        obtain ⟨V2, hV⟩ : ∃ V, V1.alloc (.cells #[.int .i64 0, .slice none 0 0, .slice none 0 0] 29) = V := ⟨_, rfl⟩
        rw [hV] at hg ho hz ⊢
        have Z' := Z.out
        have Z := shade (And.intro hz Z')
        have R2 := shade (R1.out.grown hg (by intro e; cases e)); have G2 := shade (grown_same G1.out hg); have B2 := shade ho; have O22 := shade (O21.out.on hg)
        clear hg hV ho hz Z'
        refine WG.all (rs := [0]) (by kernel_rfl) (by simp) (by decide) ?_
        intro i hi
        simp only [List.mem_cons, List.not_mem_nil, or_false] at hi
        subst hi
        refine wpOp_lay (by rfl) (fun K hK => ?_)
        go_simp
        have hg := World.grownBy_alloc V2 (.cells #[.int .i64 0, .int .i64 0, .int .i64 0, .int .i64 0] 3) none
        have hz : (V2.alloc (.cells #[.int .i64 0, .int .i64 0, .int .i64 0, .int .i64 0] 3)).heap.size = V2.heap.size + 1 := World.size_alloc _ _
        have ho : Own (V2.alloc (.cells #[.int .i64 0, .int .i64 0, .int .i64 0, .int .i64 0] 3)) (w.heap.size + 1) (some ⟨V2.heap.size, 0, none⟩) 4 4 (fun _ => 0) := make_own V2 _ 4 (by have := R2.out.inside; omega) (.inl rfl)
        refine hK.out _ _ ⟨trivial, ?_⟩
        clear hK K
        (try simp only [Act.put, List.setIfInBounds_toArray, List.set_cons_zero, List.set_cons_succ])
        obtain ⟨V3, hV⟩ : ∃ V, V2.alloc (.cells #[.int .i64 0, .int .i64 0, .int .i64 0, .int .i64 0] 3) = V := ⟨_, rfl⟩
        rw [hV] at hg ho hz ⊢
        have Z' := Z.out
        have Z := shade (And.intro hz Z')
        have R3 := shade (R2.out.grown hg (by intro e; cases e)); have G3 := shade (grown_same G2.out hg); have O13 := shade ho; have O23 := shade (O22.out.on hg); have B3 := shade (B2.out.grown hg (by intro e; cases e))
        clear hg hV ho hz Z'
        refine WG.take (i := 2) (v := ?_) rfl (by kernel_rfl) (by kernel_rfl) (by kernel_rfl) (by kernel_rfl) (by kernel_rfl) (by kernel_rfl) (fun _ _ _ h => h) (Or.inl ⟨by rfl, ?_⟩) trivial ?_
        rotate_left
        · intro w' hSw
          try dsimp only at hSw
          go_simp
          try with_reducible rfl
        (try simp only [Act.put, List.setIfInBounds_toArray, List.set_cons_zero, List.set_cons_succ])
        refine WG.last (by kernel_rfl) (by kernel_rfl) ?_
        have y0 := B3.out.look 0; have y1 := B3.out.look 1; have y2 := B3.out.look 2; have t0 := B3.out.free 0; have t1 := B3.out.free 1; have t2 := B3.out.free 2
        simp at y0 y1 y2
        refine wpOp_lay (by rfl) (fun K hK => ?_)
        go_simp
        refine hK.out _ _ ?_
        have hb := ((B3.out.put 0 (.int .i64 0)).put 1 (.slice (some ⟨V2.heap.size, 0, none⟩) 4 4)).put 2 (.slice (some ⟨V0.heap.size, 0, none⟩) 8 8)
        simp at hb
        have hs := Z.out
        have hM : TO w _ (V1.heap.size) (V2.heap.size) 4 (V0.heap.size) 8 (fun _ => 0) (fun _ => 0) := ⟨(((R3.out.other (p := ⟨V1.heap.size, 0, none⟩) (by show w.heap.size ≠ V1.heap.size; omega) _).other (p := ⟨V1.heap.size, 1, none⟩) (by show w.heap.size ≠ V1.heap.size; omega) _).other (p := ⟨V1.heap.size, 2, none⟩) (by show w.heap.size ≠ V1.heap.size; omega) _), hb, (((O13.out.far (r := V1.heap.size) (by omega) 0 _).far (r := V1.heap.size) (by omega) 1 _).far (r := V1.heap.size) (by omega) 2 _), (((O23.out.far (r := V1.heap.size) (by omega) 0 _).far (r := V1.heap.size) (by omega) 1 _).far (r := V1.heap.size) (by omega) 2 _), ⟨by omega, by omega, by omega, by omega⟩, grown_then G3.out (grown_set3 _ _ _ _ _) (by omega)⟩
        have HM := shade hM
        clear hK K y0 y1 y2 t0 t1 t2 hb hM hs
        go_wp2_with fail
        go_meet
        exact ⟨_, _, _, _, _, rfl, HM.out⟩
    · refine wpOp_lay (by rfl) (fun K hK => ?_)
      go_simp
      have hg := World.grownBy_alloc V0 (.cells #[.int .i64 0, .slice none 0 0, .slice none 0 0] 29) none
      have hz : (V0.alloc (.cells #[.int .i64 0, .slice none 0 0, .slice none 0 0] 29)).heap.size = V0.heap.size + 1 := World.size_alloc _ _
      have ho : Holds5 (V0.alloc (.cells #[.int .i64 0, .slice none 0 0, .slice none 0 0] 29)) V0.heap.size 29 #[.int .i64 0, .slice none 0 0, .slice none 0 0] := Holds5.fresh _ _ _
      refine hK.out _ _ ⟨trivial, ?_⟩
      clear hK K
      (try simp only [Act.put, List.setIfInBounds_toArray, List.set_cons_zero, List.set_cons_succ])
      obtain ⟨V1, hV⟩ : ∃ V, V0.alloc (.cells #[.int .i64 0, .slice none 0 0, .slice none 0 0] 29) = V := ⟨_, rfl⟩
      rw [hV] at hg ho hz ⊢
      have Z' := Z.out
      have Z := shade (And.intro hz Z')
      have R1 := shade (R0.out.grown hg (by intro e; cases e)); have G1 := shade (grown_same G0.out hg); have B1 := shade ho
      clear hg hV ho hz Z'
      refine WG.all (rs := [0, 1]) (by kernel_rfl) (by simp) (by decide) ?_
      intro i hi
      simp only [List.mem_cons, List.not_mem_nil, or_false] at hi
      rcases hi with rfl | rfl
      · refine wpOp_lay (by rfl) (fun K hK => ?_)
        go_simp
        have hg := World.grownBy_alloc V1 (.cells #[.int .i64 0, .int .i64 0, .int .i64 0, .int .i64 0] 3) none
        have hz : (V1.alloc (.cells #[.int .i64 0, .int .i64 0, .int .i64 0, .int .i64 0] 3)).heap.size = V1.heap.size + 1 := World.size_alloc _ _
        have ho : Own (V1.alloc (.cells #[.int .i64 0, .int .i64 0, .int .i64 0, .int .i64 0] 3)) (w.heap.size + 1) (some ⟨V1.heap.size, 0, none⟩) 4 4 (fun _ => 0) := make_own V1 _ 4 (by have := R1.out.inside; omega) (.inl rfl)
        refine hK.out _ _ ⟨trivial, ?_⟩
        clear hK K
        (try simp only [Act.put, List.setIfInBounds_toArray, List.set_cons_zero, List.set_cons_succ])
        obtain ⟨V2, hV⟩ : ∃ V, V1.alloc (.cells #[.int .i64 0, .int .i64 0, .int .i64 0, .int .i64 0] 3) = V := ⟨_, rfl⟩
        rw [hV] at hg ho hz ⊢
        have Z' := Z.out
        have Z := shade (And.intro hz Z')
        have R2 := shade (R1.out.grown hg (by intro e; cases e)); have G2 := shade (grown_same G1.out hg); have O12 := shade ho; have B2 := shade (B1.out.grown hg (by intro e; cases e))
        clear hg hV ho hz Z'
        refine WG.all (rs := [1]) (by kernel_rfl) (by simp) (by decide) ?_
        intro i hi
        simp only [List.mem_cons, List.not_mem_nil, or_false] at hi
        subst hi
        refine wpOp_lay (by rfl) (fun K hK => ?_)
        go_simp
        have hg := World.grownBy_alloc V2 (.cells #[.int .i64 0, .int .i64 0, .int .i64 0, .int .i64 0, .int .i64 0, .int .i64 0, .int .i64 0, .int .i64 0] 3) none
        have hz : (V2.alloc (.cells #[.int .i64 0, .int .i64 0, .int .i64 0, .int .i64 0, .int .i64 0, .int .i64 0, .int .i64 0, .int .i64 0] 3)).heap.size = V2.heap.size + 1 := World.size_alloc _ _
        have ho : Own (V2.alloc (.cells #[.int .i64 0, .int .i64 0, .int .i64 0, .int .i64 0, .int .i64 0, .int .i64 0, .int .i64 0, .int .i64 0] 3)) (w.heap.size + 1) (some ⟨V2.heap.size, 0, none⟩) 8 8 (fun _ => 0) := make_own V2 _ 8 (by have := R2.out.inside; omega) (.inr rfl)
        refine hK.out _ _ ⟨trivial, ?_⟩
        clear hK K
        (try simp only [Act.put, List.setIfInBounds_toArray, List.set_cons_zero, List.set_cons_succ])
        obtain ⟨V3, hV⟩ : ∃ V, V2.alloc (.cells #[.int .i64 0, .int .i64 0, .int .i64 0, .int .i64 0, .int .i64 0, .int .i64 0, .int .i64 0, .int .i64 0] 3) = V := ⟨_, rfl⟩
        rw [hV] at hg ho hz ⊢
        have Z' := Z.out
        have Z := shade (And.intro hz Z')
        have R3 := shade (R2.out.grown hg (by intro e; cases e)); have G3 := shade (grown_same G2.out hg); have O23 := shade ho; have O13 := shade (O12.out.on hg); have B3 := shade (B2.out.grown hg (by intro e; cases e))
        clear hg hV ho hz Z'
        refine WG.take (i := 2) (v := ?_) rfl (by kernel_rfl) (by kernel_rfl) (by kernel_rfl) (by kernel_rfl) (by kernel_rfl) (by kernel_rfl) (fun _ _ _ h => h) (Or.inl ⟨by rfl, ?_⟩) trivial ?_
        rotate_left
        · intro w' hSw
          try dsimp only at hSw
          go_simp
          try with_reducible rfl
        (try simp only [Act.put, List.setIfInBounds_toArray, List.set_cons_zero, List.set_cons_succ])
        refine WG.last (by kernel_rfl) (by kernel_rfl) ?_
        have y0 := B3.out.look 0; have y1 := B3.out.look 1; have y2 := B3.out.look 2; have t0 := B3.out.free 0; have t1 := B3.out.free 1; have t2 := B3.out.free 2
        simp at y0 y1 y2
        refine wpOp_lay (by rfl) (fun K hK => ?_)
        go_simp
        refine hK.out _ _ ?_
        have hb := ((B3.out.put 0 (.int .i64 0)).put 1 (.slice (some ⟨V1.heap.size, 0, none⟩) 4 4)).put 2 (.slice (some ⟨V2.heap.size, 0, none⟩) 8 8)
        simp at hb
        have hs := Z.out
        have hM : TO w _ (V0.heap.size) (V1.heap.size) 4 (V2.heap.size) 8 (fun _ => 0) (fun _ => 0) := ⟨(((R3.out.other (p := ⟨V0.heap.size, 0, none⟩) (by show w.heap.size ≠ V0.heap.size; omega) _).other (p := ⟨V0.heap.size, 1, none⟩) (by show w.heap.size ≠ V0.heap.size; omega) _).other (p := ⟨V0.heap.size, 2, none⟩) (by show w.heap.size ≠ V0.heap.size; omega) _), hb, (((O13.out.far (r := V0.heap.size) (by omega) 0 _).far (r := V0.heap.size) (by omega) 1 _).far (r := V0.heap.size) (by omega) 2 _), (((O23.out.far (r := V0.heap.size) (by omega) 0 _).far (r := V0.heap.size) (by omega) 1 _).far (r := V0.heap.size) (by omega) 2 _), ⟨by omega, by omega, by omega, by omega⟩, grown_then G3.out (grown_set3 _ _ _ _ _) (by omega)⟩
        have HM := shade hM
        clear hK K y0 y1 y2 t0 t1 t2 hb hM hs
        go_wp2_with fail
        go_meet
        exact ⟨_, _, _, _, _, rfl, HM.out⟩
      · refine wpOp_lay (by rfl) (fun K hK => ?_)
        go_simp
        have hg := World.grownBy_alloc V1 (.cells #[.int .i64 0, .int .i64 0, .int .i64 0, .int .i64 0, .int .i64 0, .int .i64 0, .int .i64 0, .int .i64 0] 3) none
        have hz : (V1.alloc (.cells #[.int .i64 0, .int .i64 0, .int .i64 0, .int .i64 0, .int .i64 0, .int .i64 0, .int .i64 0, .int .i64 0] 3)).heap.size = V1.heap.size + 1 := World.size_alloc _ _
        have ho : Own (V1.alloc (.cells #[.int .i64 0, .int .i64 0, .int .i64 0, .int .i64 0, .int .i64 0, .int .i64 0, .int .i64 0, .int .i64 0] 3)) (w.heap.size + 1) (some ⟨V1.heap.size, 0, none⟩) 8 8 (fun _ => 0) := make_own V1 _ 8 (by have := R1.out.inside; omega) (.inr rfl)
        refine hK.out _ _ ⟨trivial, ?_⟩
        clear hK K
        (try simp only [Act.put, List.setIfInBounds_toArray, List.set_cons_zero, List.set_cons_succ])
        obtain ⟨V2, hV⟩ : ∃ V, V1.alloc (.cells #[.int .i64 0, .int .i64 0, .int .i64 0, .int .i64 0, .int .i64 0, .int .i64 0, .int .i64 0, .int .i64 0] 3) = V := ⟨_, rfl⟩
        rw [hV] at hg ho hz ⊢
        have Z' := Z.out
        have Z := shade (And.intro hz Z')
        have R2 := shade (R1.out.grown hg (by intro e; cases e)); have G2 := shade (grown_same G1.out hg); have O22 := shade ho; have B2 := shade (B1.out.grown hg (by intro e; cases e))
        clear hg hV ho hz Z'
        refine WG.all (rs := [0]) (by kernel_rfl) (by simp) (by decide) ?_
        intro i hi
        simp only [List.mem_cons, List.not_mem_nil, or_false] at hi
        subst hi
        refine wpOp_lay (by rfl) (fun K hK => ?_)
        go_simp
        have hg := World.grownBy_alloc V2 (.cells #[.int .i64 0, .int .i64 0, .int .i64 0, .int .i64 0] 3) none
        have hz : (V2.alloc (.cells #[.int .i64 0, .int .i64 0, .int .i64 0, .int .i64 0] 3)).heap.size = V2.heap.size + 1 := World.size_alloc _ _
        have ho : Own (V2.alloc (.cells #[.int .i64 0, .int .i64 0, .int .i64 0, .int .i64 0] 3)) (w.heap.size + 1) (some ⟨V2.heap.size, 0, none⟩) 4 4 (fun _ => 0) := make_own V2 _ 4 (by have := R2.out.inside; omega) (.inl rfl)
        refine hK.out _ _ ⟨trivial, ?_⟩
        clear hK K
        (try simp only [Act.put, List.setIfInBounds_toArray, List.set_cons_zero, List.set_cons_succ])
        obtain ⟨V3, hV⟩ : ∃ V, V2.alloc (.cells #[.int .i64 0, .int .i64 0, .int .i64 0, .int .i64 0] 3) = V := ⟨_, rfl⟩
        rw [hV] at hg ho hz ⊢
        have Z' := Z.out
        have Z := shade (And.intro hz Z')
        have R3 := shade (R2.out.grown hg (by intro e; cases e)); have G3 := shade (grown_same G2.out hg); have O13 := shade ho; have O23 := shade (O22.out.on hg); have B3 := shade (B2.out.grown hg (by intro e; cases e))
        clear hg hV ho hz Z'
        refine WG.take (i := 2) (v := ?_) rfl (by kernel_rfl) (by kernel_rfl) (by kernel_rfl) (by kernel_rfl) (by kernel_rfl) (by kernel_rfl) (fun _ _ _ h => h) (Or.inl ⟨by rfl, ?_⟩) trivial ?_
        rotate_left
        · intro w' hSw
          try dsimp only at hSw
          go_simp
          try with_reducible rfl
        (try simp only [Act.put, List.setIfInBounds_toArray, List.set_cons_zero, List.set_cons_succ])
        refine WG.last (by kernel_rfl) (by kernel_rfl) ?_
        have y0 := B3.out.look 0; have y1 := B3.out.look 1; have y2 := B3.out.look 2; have t0 := B3.out.free 0; have t1 := B3.out.free 1; have t2 := B3.out.free 2
        simp at y0 y1 y2
        refine wpOp_lay (by rfl) (fun K hK => ?_)
        go_simp
        refine hK.out _ _ ?_
        have hb := ((B3.out.put 0 (.int .i64 0)).put 1 (.slice (some ⟨V2.heap.size, 0, none⟩) 4 4)).put 2 (.slice (some ⟨V1.heap.size, 0, none⟩) 8 8)
        simp at hb
        have hs := Z.out
        have hM : TO w _ (V0.heap.size) (V2.heap.size) 4 (V1.heap.size) 8 (fun _ => 0) (fun _ => 0) := ⟨(((R3.out.other (p := ⟨V0.heap.size, 0, none⟩) (by show w.heap.size ≠ V0.heap.size; omega) _).other (p := ⟨V0.heap.size, 1, none⟩) (by show w.heap.size ≠ V0.heap.size; omega) _).other (p := ⟨V0.heap.size, 2, none⟩) (by show w.heap.size ≠ V0.heap.size; omega) _), hb, (((O13.out.far (r := V0.heap.size) (by omega) 0 _).far (r := V0.heap.size) (by omega) 1 _).far (r := V0.heap.size) (by omega) 2 _), (((O23.out.far (r := V0.heap.size) (by omega) 0 _).far (r := V0.heap.size) (by omega) 1 _).far (r := V0.heap.size) (by omega) 2 _), ⟨by omega, by omega, by omega, by omega⟩, grown_then G3.out (grown_set3 _ _ _ _ _) (by omega)⟩
        have HM := shade hM
        clear hK K y0 y1 y2 t0 t1 t2 hb hM hs
        go_wp2_with fail
        go_meet
        exact ⟨_, _, _, _, _, rfl, HM.out⟩
  case rest =>
    clear HR0 HG0 HZ0 hm4 hm8
    obtain ⟨b, g1, c1, g2, c2, rfl, hM⟩ := hcut
    have HM := shade hM
    clear hM
    rcases HT.out with rfl | rfl | rfl
    · go_wp2_with fail
      go_loopw [4] (fun q wr => ∃ r : Nat, r ≤ 4 ∧ q = .int .i64 r ∧ TO w wr b g1 c1 g2 c2 (fun j => if j < r then trR 0 j else 0) (fun _ => 0)) (fun q _ => 4 - (intOf q).toNat)
      case atStart => exact ⟨0, Nat.zero_le _, rfl, HM.out⟩
      case round =>
        clear HM
        obtain ⟨r, hr, rfl, hs⟩ := hrel
        have HS := shade hs
        by_cases hr4 : r < 4
        · have y1 := hs.var.look 1
          have z0 := hs.o1.nums.cell hr4
          have t0 := World.ownsRow.frozenAt hs.o1 r
          simp at y1 z0
          have r4 : (r : Int) < 4 := by omega
          have hset := hs.set1 (f3 := fun j => if j < r + 1 then trR 0 j else 0) r (trR 0 r) (by simp) (fun j _ hne => by
            by_cases h : j < r
            · rw [if_pos h, if_pos (by omega)]
            · rw [if_neg h, if_neg (by omega)])
          rw [show trR 0 r = 3 * (r : Int) % 256 by unfold trR; simp] at hset
          have H9 := shade hset
          clear hs hset
          go_wp2
          go_roundw
          case rel => exact ⟨r + 1, by omega, by go_num, H9.out⟩
          case measure => simp [intOf]; omega
        · have hr2 : r = 4 := by omega
          subst hr2
          have hfull : TO w wr b g1 c1 g2 c2 (trR 0) (fun j => if j < 0 then trM 0 j else 0) := ⟨hs.res, hs.var, hs.o1.congr (fun j hj => if_pos hj), hs.o2.congr (fun j _ => (if_neg (Nat.not_lt_zero j)).symm), hs.sep, hs.low⟩
          have HF := shade hfull
          clear hs hfull HS
          go_wp2_with fail
          go_loopw [5] (fun q wr => ∃ c : Nat, c ≤ 8 ∧ q = .int .i64 c ∧ TO w wr b g1 c1 g2 c2 (trR 0) (fun j => if j < c then trM 0 j else 0)) (fun q _ => 8 - (intOf q).toNat)
          case atStart => exact ⟨0, Nat.zero_le _, rfl, HF.out⟩
          case round =>
            clear HF
            obtain ⟨c, hc, rfl, hs⟩ := hrel
            have HS := shade hs
            by_cases hc8 : c < 8
            · have y2 := hs.var.look 2
              have z0 := hs.o2.nums.cell hc8
              have t0 := World.ownsRow.frozenAt hs.o2 c
              simp at y2 z0
              have c8 : (c : Int) < 8 := by omega
              have hset := hs.set2 (f3 := fun j => if j < c + 1 then trM 0 j else 0) c (trM 0 c) (by simp) (fun j _ hne => by
                by_cases h : j < c
                · rw [if_pos h, if_pos (by omega)]
                · rw [if_neg h, if_neg (by omega)])
              rw [show trM 0 c = 0 by unfold trM; simp] at hset
              have H9 := shade hset
              clear hs hset
              go_wp2
              go_roundw
              case rel => exact ⟨c + 1, by omega, by go_num, H9.out⟩
              case measure => simp [intOf]; omega
            · have hc2 : c = 8 := by omega
              subst hc2
              have hfull : TO w wr b g1 c1 g2 c2 (trR 0) (trM 0) := ⟨hs.res, hs.var, hs.o1, hs.o2.congr (fun j hj => if_pos hj), hs.sep, hs.low⟩
              have HF := shade hfull
              have y0 := hs.var.look 0; have y1 := hs.var.look 1; have y2 := hs.var.look 2; have q0 := hs.res.look 0; have q1 := hs.res.look 1; have q2 := hs.res.look 2; have t0 := hs.res.free 0; have t1 := hs.res.free 1; have t2 := hs.res.free 2
              simp at y0 y1 y2 q0 q1 q2
              clear hs hfull HS
              go_wp2_with fail
              have hm := HF.out
              have hs := hm.sep
              have l1 := hm.o1.lt
              have l2 := hm.o2.lt
              have hP := ((hm.res.put 0 (.int .i64 0)).put 1 (.slice (some ⟨g1, 0, none⟩) 4 c1)).put 2 (.slice (some ⟨g2, 0, none⟩) 8 c2)
              simp at hP
              refine bodyPost_ret (results_cell_row rfl _ _ _ _ _ (0, 0) _ rfl hP Tryd.underlying29 rfl (by kernel_rfl)) rfl ?_
              exact ⟨g1, c1, g2, c2, rfl, hs.2.2.2, (((hm.o1.lower (by omega)).far (r := w.heap.size) (by omega) 0 _).far (r := w.heap.size) (by omega) 1 _).far (r := w.heap.size) (by omega) 2 _, (((hm.o2.lower (by omega)).far (r := w.heap.size) (by omega) 0 _).far (r := w.heap.size) (by omega) 1 _).far (r := w.heap.size) (by omega) 2 _, grown_then hm.low (grown_set3 _ _ _ _ _) (Nat.le_refl _)⟩

    · go_wp2_with fail
      go_loopw [4] (fun q wr => ∃ r : Nat, r ≤ 4 ∧ q = .int .i64 r ∧ TO w wr b g1 c1 g2 c2 (fun j => if j < r then trR 4 j else 0) (fun _ => 0)) (fun q _ => 4 - (intOf q).toNat)
      case atStart => exact ⟨0, Nat.zero_le _, rfl, HM.out⟩
      case round =>
        clear HM
        obtain ⟨r, hr, rfl, hs⟩ := hrel
        have HS := shade hs
        by_cases hr4 : r < 4
        · have y1 := hs.var.look 1
          have z0 := hs.o1.nums.cell hr4
          have t0 := World.ownsRow.frozenAt hs.o1 r
          simp at y1 z0
          have r4 : (r : Int) < 4 := by omega
          have hset := hs.set1 (f3 := fun j => if j < r + 1 then trR 4 j else 0) r (trR 4 r) (by simp) (fun j _ hne => by
            by_cases h : j < r
            · rw [if_pos h, if_pos (by omega)]
            · rw [if_neg h, if_neg (by omega)])
          have H9 := shade hset
          clear hs hset
          go_wp2
          go_roundw
          case rel => exact ⟨r + 1, by omega, by go_num, H9.out⟩
          case measure => simp [intOf]; omega
        · have hr2 : r = 4 := by omega
          subst hr2
          have hfull : TO w wr b g1 c1 g2 c2 (trR 4) (fun j => if j < 0 then trM 4 j else 0) := ⟨hs.res, hs.var, hs.o1.congr (fun j hj => if_pos hj), hs.o2.congr (fun j _ => (if_neg (Nat.not_lt_zero j)).symm), hs.sep, hs.low⟩
          have HF := shade hfull
          clear hs hfull HS
          go_wp2_with fail
          go_loopw [5] (fun q wr => ∃ c : Nat, c ≤ 8 ∧ q = .int .i64 c ∧ TO w wr b g1 c1 g2 c2 (trR 4) (fun j => if j < c then trM 4 j else 0)) (fun q _ => 8 - (intOf q).toNat)
          case atStart => exact ⟨0, Nat.zero_le _, rfl, HF.out⟩
          case round =>
            clear HF
            obtain ⟨c, hc, rfl, hs⟩ := hrel
            have HS := shade hs
            by_cases hc8 : c < 8
            · have y2 := hs.var.look 2
              have z0 := hs.o2.nums.cell hc8
              have t0 := World.ownsRow.frozenAt hs.o2 c
              simp at y2 z0
              have c8 : (c : Int) < 8 := by omega
              have hset := hs.set2 (f3 := fun j => if j < c + 1 then trM 4 j else 0) c (trM 4 c) (by simp) (fun j _ hne => by
                by_cases h : j < c
                · rw [if_pos h, if_pos (by omega)]
                · rw [if_neg h, if_neg (by omega)])
              have H9 := shade hset
              clear hs hset
              go_wp2
              go_roundw
              case rel => exact ⟨c + 1, by omega, by go_num, H9.out⟩
              case measure => simp [intOf]; omega
            · have hc2 : c = 8 := by omega
              subst hc2
              have hfull : TO w wr b g1 c1 g2 c2 (trR 4) (trM 4) := ⟨hs.res, hs.var, hs.o1, hs.o2.congr (fun j hj => if_pos hj), hs.sep, hs.low⟩
              have HF := shade hfull
              have y0 := hs.var.look 0; have y1 := hs.var.look 1; have y2 := hs.var.look 2; have q0 := hs.res.look 0; have q1 := hs.res.look 1; have q2 := hs.res.look 2; have t0 := hs.res.free 0; have t1 := hs.res.free 1; have t2 := hs.res.free 2
              simp at y0 y1 y2 q0 q1 q2
              clear hs hfull HS
              go_wp2_with fail
              have hm := HF.out
              have hs := hm.sep
              have l1 := hm.o1.lt
              have l2 := hm.o2.lt
              have hP := ((hm.res.put 0 (.int .i64 0)).put 1 (.slice (some ⟨g1, 0, none⟩) 4 c1)).put 2 (.slice (some ⟨g2, 0, none⟩) 8 c2)
              simp at hP
              refine bodyPost_ret (results_cell_row rfl _ _ _ _ _ (0, 0) _ rfl hP Tryd.underlying29 rfl (by kernel_rfl)) rfl ?_
              exact ⟨g1, c1, g2, c2, rfl, hs.2.2.2, (((hm.o1.lower (by omega)).far (r := w.heap.size) (by omega) 0 _).far (r := w.heap.size) (by omega) 1 _).far (r := w.heap.size) (by omega) 2 _, (((hm.o2.lower (by omega)).far (r := w.heap.size) (by omega) 0 _).far (r := w.heap.size) (by omega) 1 _).far (r := w.heap.size) (by omega) 2 _, grown_then hm.low (grown_set3 _ _ _ _ _) (Nat.le_refl _)⟩

    · go_wp2_with fail
      go_loopw [4] (fun q wr => ∃ r : Nat, r ≤ 4 ∧ q = .int .i64 r ∧ TO w wr b g1 c1 g2 c2 (fun j => if j < r then trR 8 j else 0) (fun _ => 0)) (fun q _ => 4 - (intOf q).toNat)
      case atStart => exact ⟨0, Nat.zero_le _, rfl, HM.out⟩
      case round =>
        clear HM
        obtain ⟨r, hr, rfl, hs⟩ := hrel
        have HS := shade hs
        by_cases hr4 : r < 4
        · have y1 := hs.var.look 1
          have z0 := hs.o1.nums.cell hr4
          have t0 := World.ownsRow.frozenAt hs.o1 r
          simp at y1 z0
          have r4 : (r : Int) < 4 := by omega
          have hset := hs.set1 (f3 := fun j => if j < r + 1 then trR 8 j else 0) r (trR 8 r) (by simp) (fun j _ hne => by
            by_cases h : j < r
            · rw [if_pos h, if_pos (by omega)]
            · rw [if_neg h, if_neg (by omega)])
          have H9 := shade hset
          clear hs hset
          go_wp2
          go_roundw
          case rel => exact ⟨r + 1, by omega, by go_num, H9.out⟩
          case measure => simp [intOf]; omega
        · have hr2 : r = 4 := by omega
          subst hr2
          have hfull : TO w wr b g1 c1 g2 c2 (trR 8) (fun j => if j < 0 then trM 8 j else 0) := ⟨hs.res, hs.var, hs.o1.congr (fun j hj => if_pos hj), hs.o2.congr (fun j _ => (if_neg (Nat.not_lt_zero j)).symm), hs.sep, hs.low⟩
          have HF := shade hfull
          clear hs hfull HS
          go_wp2_with fail
          go_loopw [5] (fun q wr => ∃ c : Nat, c ≤ 8 ∧ q = .int .i64 c ∧ TO w wr b g1 c1 g2 c2 (trR 8) (fun j => if j < c then trM 8 j else 0)) (fun q _ => 8 - (intOf q).toNat)
          case atStart => exact ⟨0, Nat.zero_le _, rfl, HF.out⟩
          case round =>
            clear HF
            obtain ⟨c, hc, rfl, hs⟩ := hrel
            have HS := shade hs
            by_cases hc8 : c < 8
            · have y2 := hs.var.look 2
              have z0 := hs.o2.nums.cell hc8
              have t0 := World.ownsRow.frozenAt hs.o2 c
              simp at y2 z0
              have c8 : (c : Int) < 8 := by omega
              have hset := hs.set2 (f3 := fun j => if j < c + 1 then trM 8 j else 0) c (trM 8 c) (by simp) (fun j _ hne => by
                by_cases h : j < c
                · rw [if_pos h, if_pos (by omega)]
                · rw [if_neg h, if_neg (by omega)])
              have H9 := shade hset
              clear hs hset
              go_wp2
              go_roundw
              case rel => exact ⟨c + 1, by omega, by go_num, H9.out⟩
              case measure => simp [intOf]; omega
            · have hc2 : c = 8 := by omega
              subst hc2
              have hfull : TO w wr b g1 c1 g2 c2 (trR 8) (trM 8) := ⟨hs.res, hs.var, hs.o1, hs.o2.congr (fun j hj => if_pos hj), hs.sep, hs.low⟩
              have HF := shade hfull
              have y0 := hs.var.look 0; have y1 := hs.var.look 1; have y2 := hs.var.look 2; have q0 := hs.res.look 0; have q1 := hs.res.look 1; have q2 := hs.res.look 2; have t0 := hs.res.free 0; have t1 := hs.res.free 1; have t2 := hs.res.free 2
              simp at y0 y1 y2 q0 q1 q2
              clear hs hfull HS
              go_wp2_with fail
              have hm := HF.out
              have hs := hm.sep
              have l1 := hm.o1.lt
              have l2 := hm.o2.lt
              have hP := ((hm.res.put 0 (.int .i64 0)).put 1 (.slice (some ⟨g1, 0, none⟩) 4 c1)).put 2 (.slice (some ⟨g2, 0, none⟩) 8 c2)
              simp at hP
              refine bodyPost_ret (results_cell_row rfl _ _ _ _ _ (0, 0) _ rfl hP Tryd.underlying29 rfl (by kernel_rfl)) rfl ?_
              exact ⟨g1, c1, g2, c2, rfl, hs.2.2.2, (((hm.o1.lower (by omega)).far (r := w.heap.size) (by omega) 0 _).far (r := w.heap.size) (by omega) 1 _).far (r := w.heap.size) (by omega) 2 _, (((hm.o2.lower (by omega)).far (r := w.heap.size) (by omega) 0 _).far (r := w.heap.size) (by omega) 1 _).far (r := w.heap.size) (by omega) 2 _, grown_then hm.low (grown_set3 _ _ _ _ _) (Nat.le_refl _)⟩

end Go.Proofs.YtjeflaodeafhbaaDoor

namespace Go.Proofs.YtjeflaodeafhbaaDoor
open Go.RowKit
/-- What someCode leaves; the reader goes on. -/
def SCRd (w : World) (g : Nat) (A : Option Addr) (n cap : Nat) (zs : List Int) (p : Nat) (e : Ending) (w' : World) : Prop :=
  ∃ (g' k c : Nat) (f : Nat → Ins), e = .returned (.slice (some ⟨g', 0, none⟩) k c) ∧ k ≤ 14 ∧ Code w' (some ⟨g', 0, none⟩) k f ∧ w.grownBy w' (some g) ∧ w.heap.size ≤ g' ∧ ∃ q, q ≤ p + 300 ∧ Rd w' g A n cap zs q
set_option maxHeartbeats 16000000 in
theorem someCode_rd {A : Option Addr} {n cap g : Nat} {zs : List Int} {p : Nat} {w : World} (h : Rd w g A n cap zs p) (hp : p + 400 < 1000000) :
    Calls Tryd.prog 40 #[.pointer (some ⟨g, 0, none⟩)] w (SCRd w g A n cap zs p) := by
  have hg := h.blk.inside
  have HL := shade (fun b off (hA : A = some ⟨b, off, none⟩) (hn : 0 < n) => h.low hA hn)
  have HR := shade h
  clear h
  go_enter Tryd.func40, Tryd.ntmps40
  go_wp2_with fail
  refine (one_rel (fun x => 0 ≤ x ∧ x ≤ 14) (HR.out.alloc _) (by omega) _ _ _ (by omega) (by omega) (by omega) (by omega) (by
    intro j hj
    rw [World.cell?_alloc_new]
    rcases (show j = 0 ∨ j = 1 ∨ j = 2 ∨ j = 3 ∨ j = 4 ∨ j = 5 ∨ j = 6 ∨ j = 7 ∨ j = 8 by omega) with rfl | rfl | rfl | rfl | rfl | rfl | rfl | rfl | rfl <;> exact ⟨_, by constructor <;> omega, rfl⟩)).mono ?_
  rintro e w1 ⟨x, ⟨n0, n1⟩, rfl, hR, hG⟩
  obtain ⟨nn, rfl⟩ := Int.eq_ofNat_of_zero_le n0
  have n2 : nn ≤ 14 := by omega
  have hT := only_trans (only_of (World.grownBy_alloc w _ none)) hG
  have hM : SCB w (w1.alloc (.cells #[] 61)) g A n cap zs (p + 1) (.slice (some ⟨w1.heap.size, 0, none⟩) 0 0) 0 (fun _ => zIns) :=
    ⟨hR.on (World.grownBy_alloc _ _ _), World.ownsRow_lit w1 #[] 0 hT.size (by decide) rfl, only_row hT (World.grownBy_alloc _ _ none) (by intro _ e; cases e), ⟨hg, HL.out⟩, (by intro e; injection e with e; cases e)⟩
  have HM := shade hM
  clear hM hR hG hT HR n0 n1
  go_wp2_with fail
  go_loopw [4] (fun v wr => ∃ (k q : Nat) (f : Nat → Ins), k ≤ nn ∧ q ≤ p + 1 + 13 * k ∧ SCB w wr g A n cap zs q v k f) (fun v _ => nn - lenOf v)
  case atStart => exact ⟨0, p + 1, _, Nat.zero_le _, by omega, HM.out⟩
  case round =>
    clear HM
    obtain ⟨k, p, f, hk, hq, hs⟩ := hrel
    obtain ⟨g', c', rfl, hC, hg'⟩ := hs.val
    have HS := shade hs
    clear hs hC
    by_cases hkn : k < nn
    · go_wp2_with fail
      refine (goodInstr_any nn (by omega) (by omega) HS.out.rd (by omega)).mono ?_
      rintro e w2 ⟨op, d, a, b, kk, q2, hq2, rfl, hR, hG⟩
      have H2 := HS.out.step hR hG
      clear hR hG HS
      go_upto_region 5 with (fail)
      have hP := Holds5.fresh w2 61 #[.string op, .int .i64 d, .int .i64 a, .int .i64 b, .int .i64 kk]
      have h3 := H2.on (World.grownBy_alloc w2 (.cells #[.string op, .int .i64 d, .int .i64 a, .int .i64 b, .int .i64 kk] 61) none)
      generalize w2.alloc (.cells #[.string op, .int .i64 d, .int .i64 a, .int .i64 b, .int .i64 kk] 61) = wc at *
      have bw := H2.low.size
      have bg := H2.sep.1
      have HQ := shade (fun j (e : (Value.slice (some ⟨g', 0, none⟩) k c').ownBlock = some j) => (World.ownsRow.lt H2.own j e).2)
      have H3 := shade h3
      have HP := shade hP
      clear H2 h3 hP
      have x0 := HP.out.look 0; have x1 := HP.out.look 1; have x2 := HP.out.look 2; have x3 := HP.out.look 3; have x4 := HP.out.look 4; have xf := HP.out.free 4; have xz := HP.out.inside
      simp at x0 x1 x2 x3 x4
      rcases e1 : (op.toList == [106, 109, 112]) with _ | _
      · rcases e2 : (op.toList == [98, 122]) with _ | _
        · have H7 := H3
          obtain ⟨i0, hi, hz0, hz1, hz2⟩ := info_parts info24
          go_wp2_with (first
            | (at_builtin; refine wpList_append_own _ rfl _ _ 23 rfl w.heap.size 61 i0 (.agg #[.string ⟨#[]⟩, .int .i64 0, .int .i64 0, .int .i64 0, .int .i64 0]) 5 48 Tryd.underlying23 hi hz0 hz1 hz2 rfl (by decide) _ _ _ rfl (H7.out.on (World.grownBy_alloc _ _ _)).own ⟨wc.heap.size, 0, none⟩ 1 1 [.string op, .int .i64 d, .int .i64 a, .int .i64 b, .int .i64 kk] rfl rfl (cells_new _ _ _ _ _ _ _) (one_cells _ _ _ _ _) (by unfold maxLen; omega) (by omega) (by have := H7.out.low.size; simp; omega) ?_)
            | go_in)
          intro v' w8 hown8 hgr8 hnil8
          rw [codeL_snoc k f ⟨op, d, a, b, kk⟩] at hown8
          have H8 := shade (H7.out.snoc (World.grownBy_alloc _ _ _) hown8 hgr8 hnil8)
          clear hown8 hgr8 hnil8 hi hz0 hz1 hz2
          go_wp2
          go_roundw
          case rel => exact ⟨k + 1, _, _, by omega, by omega, H8.out⟩
          case measure =>
            obtain ⟨A8, c8, e8, _⟩ := H8.out.val
            obtain ⟨A6, c6, e6, _⟩ := H7.out.val
            subst e8
            simp [lenOf]
            omega

        · by_cases hle : kk ≤ (k : Int)
          · go_wp2_with fail
            refine (pick_rel 3 H3.out.rd (by omega)).mono ?_
            rintro e w3 ⟨y, ⟨y0, y1, _⟩, rfl, hR, hG⟩
            have y2 := y1 (by omega)
            have H4 := shade (H3.out.step hR hG)
            have HP3 := shade (HP.out.grown hG (by intro e; injection e with e; omega))
            clear hR hG y1 H3 HP x0 x1 x2 x3 x4 xf xz
            have x0 := HP3.out.look 0; have x1 := HP3.out.look 1; have x2 := HP3.out.look 2; have x3 := HP3.out.look 3; have x4 := HP3.out.look 4; have xf := HP3.out.free 4; have xz := HP3.out.inside
            simp at x0 x1 x2 x3 x4
            by_cases hy : y = 0
            · subst hy
              have H7 := H4
              obtain ⟨i0, hi, hz0, hz1, hz2⟩ := info_parts info24
              go_wp2_with (first
                | (at_builtin; refine wpList_append_own _ rfl _ _ 23 rfl w.heap.size 61 i0 (.agg #[.string ⟨#[]⟩, .int .i64 0, .int .i64 0, .int .i64 0, .int .i64 0]) 5 48 Tryd.underlying23 hi hz0 hz1 hz2 rfl (by decide) _ _ _ rfl (H7.out.on (World.grownBy_alloc _ _ _)).own ⟨w3.heap.size, 0, none⟩ 1 1 [.string op, .int .i64 d, .int .i64 a, .int .i64 b, .int .i64 kk] rfl rfl (cells_new _ _ _ _ _ _ _) (one_cells _ _ _ _ _) (by unfold maxLen; omega) (by omega) (by have := H7.out.low.size; simp; omega) ?_)
                | go_in)
              intro v' w8 hown8 hgr8 hnil8
              rw [codeL_snoc k f ⟨op, d, a, b, kk⟩] at hown8
              have H8 := shade (H7.out.snoc (World.grownBy_alloc _ _ _) hown8 hgr8 hnil8)
              clear hown8 hgr8 hnil8 hi hz0 hz1 hz2
              go_wp2
              go_roundw
              case rel => exact ⟨k + 1, _, _, by omega, by omega, H8.out⟩
              case measure =>
                obtain ⟨A8, c8, e8, _⟩ := H8.out.val
                obtain ⟨A6, c6, e6, _⟩ := H7.out.val
                subst e8
                simp [lenOf]
                omega

            · have hy : 0 < y := by omega
              go_wp2_with fail
              refine (pick_rel 4 H4.out.rd (by omega)).mono ?_
              rintro e w4 ⟨z, ⟨z0, z1, _⟩, rfl, hR, hG⟩
              have z2 := z1 (by omega)
              have H5 := shade (H4.out.step hR hG)
              have HP4 := shade (HP3.out.grown hG (by intro e; injection e with e; omega))
              clear hR hG z1 H4 HP3 x0 x1 x2 x3 x4 xf xz
              have x0 := HP4.out.look 0; have x1 := HP4.out.look 1; have x2 := HP4.out.look 2; have x3 := HP4.out.look 3; have x4 := HP4.out.look 4; have xf := HP4.out.free 4; have xz := HP4.out.inside
              simp at x0 x1 x2 x3 x4
              by_cases hm : (k : Int) + 1 + z ≤ nn
              · go_upto_region 7 with (fail)
                have h6 := H5.out.far w2.heap.size 4 (.int .i64 ((k : Int) + 1 + z)) bw (fun j e => by have := HQ.out j e; omega)
                have hP6 := HP4.out.put 4 (.int .i64 ((k : Int) + 1 + z))
                simp at hP6
                generalize w4.setCell ⟨w2.heap.size, 4, none⟩ (.int .i64 ((k : Int) + 1 + z)) = w5 at *
                have H7 := shade h6
                have HP6 := shade hP6
                clear h6 hP6 H5 HP4 x0 x1 x2 x3 x4 xf xz
                have x0 := HP6.out.look 0; have x1 := HP6.out.look 1; have x2 := HP6.out.look 2; have x3 := HP6.out.look 3; have x4 := HP6.out.look 4; have xf := HP6.out.free 4; have xz := HP6.out.inside
                simp at x0 x1 x2 x3 x4
                obtain ⟨i0, hi, hz0, hz1, hz2⟩ := info_parts info24
                go_wp2_with (first
                  | (at_builtin; refine wpList_append_own _ rfl _ _ 23 rfl w.heap.size 61 i0 (.agg #[.string ⟨#[]⟩, .int .i64 0, .int .i64 0, .int .i64 0, .int .i64 0]) 5 48 Tryd.underlying23 hi hz0 hz1 hz2 rfl (by decide) _ _ _ rfl (H7.out.on (World.grownBy_alloc _ _ _)).own ⟨w5.heap.size, 0, none⟩ 1 1 [.string op, .int .i64 d, .int .i64 a, .int .i64 b, .int .i64 (k + 1 + z)] rfl rfl (cells_new _ _ _ _ _ _ _) (one_cells _ _ _ _ _) (by unfold maxLen; omega) (by omega) (by have := H7.out.low.size; simp; omega) ?_)
                  | go_in)
                intro v' w8 hown8 hgr8 hnil8
                rw [codeL_snoc k f ⟨op, d, a, b, (k + 1 + z)⟩] at hown8
                have H8 := shade (H7.out.snoc (World.grownBy_alloc _ _ _) hown8 hgr8 hnil8)
                clear hown8 hgr8 hnil8 hi hz0 hz1 hz2
                go_wp2
                go_roundw
                case rel => exact ⟨k + 1, _, _, by omega, by omega, H8.out⟩
                case measure =>
                  obtain ⟨A8, c8, e8, _⟩ := H8.out.val
                  obtain ⟨A6, c6, e6, _⟩ := H7.out.val
                  subst e8
                  simp [lenOf]
                  omega

              · have hm : (nn : Int) < (k : Int) + 1 + z := by omega
                go_upto_region 7 with (fail)
                have h6 := H5.out.far w2.heap.size 4 (.int .i64 (nn : Int)) bw (fun j e => by have := HQ.out j e; omega)
                have hP6 := HP4.out.put 4 (.int .i64 (nn : Int))
                simp at hP6
                generalize w4.setCell ⟨w2.heap.size, 4, none⟩ (.int .i64 (nn : Int)) = w5 at *
                have H7 := shade h6
                have HP6 := shade hP6
                clear h6 hP6 H5 HP4 x0 x1 x2 x3 x4 xf xz
                have x0 := HP6.out.look 0; have x1 := HP6.out.look 1; have x2 := HP6.out.look 2; have x3 := HP6.out.look 3; have x4 := HP6.out.look 4; have xf := HP6.out.free 4; have xz := HP6.out.inside
                simp at x0 x1 x2 x3 x4
                obtain ⟨i0, hi, hz0, hz1, hz2⟩ := info_parts info24
                go_wp2_with (first
                  | (at_builtin; refine wpList_append_own _ rfl _ _ 23 rfl w.heap.size 61 i0 (.agg #[.string ⟨#[]⟩, .int .i64 0, .int .i64 0, .int .i64 0, .int .i64 0]) 5 48 Tryd.underlying23 hi hz0 hz1 hz2 rfl (by decide) _ _ _ rfl (H7.out.on (World.grownBy_alloc _ _ _)).own ⟨w5.heap.size, 0, none⟩ 1 1 [.string op, .int .i64 d, .int .i64 a, .int .i64 b, .int .i64 nn] rfl rfl (cells_new _ _ _ _ _ _ _) (one_cells _ _ _ _ _) (by unfold maxLen; omega) (by omega) (by have := H7.out.low.size; simp; omega) ?_)
                  | go_in)
                intro v' w8 hown8 hgr8 hnil8
                rw [codeL_snoc k f ⟨op, d, a, b, nn⟩] at hown8
                have H8 := shade (H7.out.snoc (World.grownBy_alloc _ _ _) hown8 hgr8 hnil8)
                clear hown8 hgr8 hnil8 hi hz0 hz1 hz2
                go_wp2
                go_roundw
                case rel => exact ⟨k + 1, _, _, by omega, by omega, H8.out⟩
                case measure =>
                  obtain ⟨A8, c8, e8, _⟩ := H8.out.val
                  obtain ⟨A6, c6, e6, _⟩ := H7.out.val
                  subst e8
                  simp [lenOf]
                  omega

          · have hle : (k : Int) < kk := by omega
            have H7 := H3
            obtain ⟨i0, hi, hz0, hz1, hz2⟩ := info_parts info24
            go_wp2_with (first
              | (at_builtin; refine wpList_append_own _ rfl _ _ 23 rfl w.heap.size 61 i0 (.agg #[.string ⟨#[]⟩, .int .i64 0, .int .i64 0, .int .i64 0, .int .i64 0]) 5 48 Tryd.underlying23 hi hz0 hz1 hz2 rfl (by decide) _ _ _ rfl (H7.out.on (World.grownBy_alloc _ _ _)).own ⟨wc.heap.size, 0, none⟩ 1 1 [.string op, .int .i64 d, .int .i64 a, .int .i64 b, .int .i64 kk] rfl rfl (cells_new _ _ _ _ _ _ _) (one_cells _ _ _ _ _) (by unfold maxLen; omega) (by omega) (by have := H7.out.low.size; simp; omega) ?_)
              | go_in)
            intro v' w8 hown8 hgr8 hnil8
            rw [codeL_snoc k f ⟨op, d, a, b, kk⟩] at hown8
            have H8 := shade (H7.out.snoc (World.grownBy_alloc _ _ _) hown8 hgr8 hnil8)
            clear hown8 hgr8 hnil8 hi hz0 hz1 hz2
            go_wp2
            go_roundw
            case rel => exact ⟨k + 1, _, _, by omega, by omega, H8.out⟩
            case measure =>
              obtain ⟨A8, c8, e8, _⟩ := H8.out.val
              obtain ⟨A6, c6, e6, _⟩ := H7.out.val
              subst e8
              simp [lenOf]
              omega

      · by_cases hle : kk ≤ (k : Int)
        · go_wp2_with fail
          refine (pick_rel 3 H3.out.rd (by omega)).mono ?_
          rintro e w3 ⟨y, ⟨y0, y1, _⟩, rfl, hR, hG⟩
          have y2 := y1 (by omega)
          have H4 := shade (H3.out.step hR hG)
          have HP3 := shade (HP.out.grown hG (by intro e; injection e with e; omega))
          clear hR hG y1 H3 HP x0 x1 x2 x3 x4 xf xz
          have x0 := HP3.out.look 0; have x1 := HP3.out.look 1; have x2 := HP3.out.look 2; have x3 := HP3.out.look 3; have x4 := HP3.out.look 4; have xf := HP3.out.free 4; have xz := HP3.out.inside
          simp at x0 x1 x2 x3 x4
          by_cases hy : y = 0
          · subst hy
            have H7 := H4
            obtain ⟨i0, hi, hz0, hz1, hz2⟩ := info_parts info24
            go_wp2_with (first
              | (at_builtin; refine wpList_append_own _ rfl _ _ 23 rfl w.heap.size 61 i0 (.agg #[.string ⟨#[]⟩, .int .i64 0, .int .i64 0, .int .i64 0, .int .i64 0]) 5 48 Tryd.underlying23 hi hz0 hz1 hz2 rfl (by decide) _ _ _ rfl (H7.out.on (World.grownBy_alloc _ _ _)).own ⟨w3.heap.size, 0, none⟩ 1 1 [.string op, .int .i64 d, .int .i64 a, .int .i64 b, .int .i64 kk] rfl rfl (cells_new _ _ _ _ _ _ _) (one_cells _ _ _ _ _) (by unfold maxLen; omega) (by omega) (by have := H7.out.low.size; simp; omega) ?_)
              | go_in)
            intro v' w8 hown8 hgr8 hnil8
            rw [codeL_snoc k f ⟨op, d, a, b, kk⟩] at hown8
            have H8 := shade (H7.out.snoc (World.grownBy_alloc _ _ _) hown8 hgr8 hnil8)
            clear hown8 hgr8 hnil8 hi hz0 hz1 hz2
            go_wp2
            go_roundw
            case rel => exact ⟨k + 1, _, _, by omega, by omega, H8.out⟩
            case measure =>
              obtain ⟨A8, c8, e8, _⟩ := H8.out.val
              obtain ⟨A6, c6, e6, _⟩ := H7.out.val
              subst e8
              simp [lenOf]
              omega

          · have hy : 0 < y := by omega
            go_wp2_with fail
            refine (pick_rel 4 H4.out.rd (by omega)).mono ?_
            rintro e w4 ⟨z, ⟨z0, z1, _⟩, rfl, hR, hG⟩
            have z2 := z1 (by omega)
            have H5 := shade (H4.out.step hR hG)
            have HP4 := shade (HP3.out.grown hG (by intro e; injection e with e; omega))
            clear hR hG z1 H4 HP3 x0 x1 x2 x3 x4 xf xz
            have x0 := HP4.out.look 0; have x1 := HP4.out.look 1; have x2 := HP4.out.look 2; have x3 := HP4.out.look 3; have x4 := HP4.out.look 4; have xf := HP4.out.free 4; have xz := HP4.out.inside
            simp at x0 x1 x2 x3 x4
            by_cases hm : (k : Int) + 1 + z ≤ nn
            · go_upto_region 7 with (fail)
              have h6 := H5.out.far w2.heap.size 4 (.int .i64 ((k : Int) + 1 + z)) bw (fun j e => by have := HQ.out j e; omega)
              have hP6 := HP4.out.put 4 (.int .i64 ((k : Int) + 1 + z))
              simp at hP6
              generalize w4.setCell ⟨w2.heap.size, 4, none⟩ (.int .i64 ((k : Int) + 1 + z)) = w5 at *
              have H7 := shade h6
              have HP6 := shade hP6
              clear h6 hP6 H5 HP4 x0 x1 x2 x3 x4 xf xz
              have x0 := HP6.out.look 0; have x1 := HP6.out.look 1; have x2 := HP6.out.look 2; have x3 := HP6.out.look 3; have x4 := HP6.out.look 4; have xf := HP6.out.free 4; have xz := HP6.out.inside
              simp at x0 x1 x2 x3 x4
              obtain ⟨i0, hi, hz0, hz1, hz2⟩ := info_parts info24
              go_wp2_with (first
                | (at_builtin; refine wpList_append_own _ rfl _ _ 23 rfl w.heap.size 61 i0 (.agg #[.string ⟨#[]⟩, .int .i64 0, .int .i64 0, .int .i64 0, .int .i64 0]) 5 48 Tryd.underlying23 hi hz0 hz1 hz2 rfl (by decide) _ _ _ rfl (H7.out.on (World.grownBy_alloc _ _ _)).own ⟨w5.heap.size, 0, none⟩ 1 1 [.string op, .int .i64 d, .int .i64 a, .int .i64 b, .int .i64 (k + 1 + z)] rfl rfl (cells_new _ _ _ _ _ _ _) (one_cells _ _ _ _ _) (by unfold maxLen; omega) (by omega) (by have := H7.out.low.size; simp; omega) ?_)
                | go_in)
              intro v' w8 hown8 hgr8 hnil8
              rw [codeL_snoc k f ⟨op, d, a, b, (k + 1 + z)⟩] at hown8
              have H8 := shade (H7.out.snoc (World.grownBy_alloc _ _ _) hown8 hgr8 hnil8)
              clear hown8 hgr8 hnil8 hi hz0 hz1 hz2
              go_wp2
              go_roundw
              case rel => exact ⟨k + 1, _, _, by omega, by omega, H8.out⟩
              case measure =>
                obtain ⟨A8, c8, e8, _⟩ := H8.out.val
                obtain ⟨A6, c6, e6, _⟩ := H7.out.val
                subst e8
                simp [lenOf]
                omega

            · have hm : (nn : Int) < (k : Int) + 1 + z := by omega
              go_upto_region 7 with (fail)
              have h6 := H5.out.far w2.heap.size 4 (.int .i64 (nn : Int)) bw (fun j e => by have := HQ.out j e; omega)
              have hP6 := HP4.out.put 4 (.int .i64 (nn : Int))
              simp at hP6
              generalize w4.setCell ⟨w2.heap.size, 4, none⟩ (.int .i64 (nn : Int)) = w5 at *
              have H7 := shade h6
              have HP6 := shade hP6
              clear h6 hP6 H5 HP4 x0 x1 x2 x3 x4 xf xz
              have x0 := HP6.out.look 0; have x1 := HP6.out.look 1; have x2 := HP6.out.look 2; have x3 := HP6.out.look 3; have x4 := HP6.out.look 4; have xf := HP6.out.free 4; have xz := HP6.out.inside
              simp at x0 x1 x2 x3 x4
              obtain ⟨i0, hi, hz0, hz1, hz2⟩ := info_parts info24
              go_wp2_with (first
                | (at_builtin; refine wpList_append_own _ rfl _ _ 23 rfl w.heap.size 61 i0 (.agg #[.string ⟨#[]⟩, .int .i64 0, .int .i64 0, .int .i64 0, .int .i64 0]) 5 48 Tryd.underlying23 hi hz0 hz1 hz2 rfl (by decide) _ _ _ rfl (H7.out.on (World.grownBy_alloc _ _ _)).own ⟨w5.heap.size, 0, none⟩ 1 1 [.string op, .int .i64 d, .int .i64 a, .int .i64 b, .int .i64 nn] rfl rfl (cells_new _ _ _ _ _ _ _) (one_cells _ _ _ _ _) (by unfold maxLen; omega) (by omega) (by have := H7.out.low.size; simp; omega) ?_)
                | go_in)
              intro v' w8 hown8 hgr8 hnil8
              rw [codeL_snoc k f ⟨op, d, a, b, nn⟩] at hown8
              have H8 := shade (H7.out.snoc (World.grownBy_alloc _ _ _) hown8 hgr8 hnil8)
              clear hown8 hgr8 hnil8 hi hz0 hz1 hz2
              go_wp2
              go_roundw
              case rel => exact ⟨k + 1, _, _, by omega, by omega, H8.out⟩
              case measure =>
                obtain ⟨A8, c8, e8, _⟩ := H8.out.val
                obtain ⟨A6, c6, e6, _⟩ := H7.out.val
                subst e8
                simp [lenOf]
                omega

        · have hle : (k : Int) < kk := by omega
          have H7 := H3
          obtain ⟨i0, hi, hz0, hz1, hz2⟩ := info_parts info24
          go_wp2_with (first
            | (at_builtin; refine wpList_append_own _ rfl _ _ 23 rfl w.heap.size 61 i0 (.agg #[.string ⟨#[]⟩, .int .i64 0, .int .i64 0, .int .i64 0, .int .i64 0]) 5 48 Tryd.underlying23 hi hz0 hz1 hz2 rfl (by decide) _ _ _ rfl (H7.out.on (World.grownBy_alloc _ _ _)).own ⟨wc.heap.size, 0, none⟩ 1 1 [.string op, .int .i64 d, .int .i64 a, .int .i64 b, .int .i64 kk] rfl rfl (cells_new _ _ _ _ _ _ _) (one_cells _ _ _ _ _) (by unfold maxLen; omega) (by omega) (by have := H7.out.low.size; simp; omega) ?_)
            | go_in)
          intro v' w8 hown8 hgr8 hnil8
          rw [codeL_snoc k f ⟨op, d, a, b, kk⟩] at hown8
          have H8 := shade (H7.out.snoc (World.grownBy_alloc _ _ _) hown8 hgr8 hnil8)
          clear hown8 hgr8 hnil8 hi hz0 hz1 hz2
          go_wp2
          go_roundw
          case rel => exact ⟨k + 1, _, _, by omega, by omega, H8.out⟩
          case measure =>
            obtain ⟨A8, c8, e8, _⟩ := H8.out.val
            obtain ⟨A6, c6, e6, _⟩ := H7.out.val
            subst e8
            simp [lenOf]
            omega

    · have hkn2 : k = nn := by omega
      subst hkn2
      by_cases h0 : k = 0
      · subst h0
        go_wp2_with fail
        go_ret
        exact ⟨g', 0, c', f, rfl, by omega, .inl rfl, HS.out.low, hg', _, by omega, HS.out.rd⟩
      · have h0' : (0 : Int) < k := by omega
        go_wp2_with fail
        refine (pick_rel 40 HS.out.rd (by omega)).mono ?_
        rintro e w5 ⟨y, ⟨y0, y1, _⟩, rfl, hR, hG⟩
        have H5 := shade (HS.out.step hR hG)
        clear hR hG HS
        by_cases hy : y = 0
        · subst hy
          go_wp2_with fail
          refine (pick_rel k H5.out.rd (by omega)).mono ?_
          rintro e w6 ⟨z, ⟨z0, z1, _⟩, rfl, hR, hG⟩
          have z2 := z1 (by omega)
          obtain ⟨z, rfl⟩ := Int.eq_ofNat_of_zero_le z0
          have H6 := shade (H5.out.step hR hG)
          clear hR hG H5 z0 z1
          have ho : OwnC w6 w.heap.size (some ⟨g', 0, none⟩) k c' f := H6.out.own
          have hz : z < k := by omega
          obtain ⟨p0, p1, p2, p3, p4⟩ := (OwnC.code ho).five hz
          have t0 := World.ownsRow.frozenAt ho (z * 5); have t1 := World.ownsRow.frozenAt ho (z * 5 + 1); have t2 := World.ownsRow.frozenAt ho (z * 5 + 2); have t3 := World.ownsRow.frozenAt ho (z * 5 + 3); have t4 := World.ownsRow.frozenAt ho (z * 5 + 4)
          simp only [Nat.zero_add] at p0 p1 p2 p3 p4
          have HO := shade (OwnC.put ho z ⟨⟨#[106, 109, 112]⟩, 0, 0, 0, (k : Int) + 1⟩)
          have HRD := shade (((((H6.out.rd.far (q := ⟨g', z * 5, none⟩) (.string ⟨#[106, 109, 112]⟩) (by show g ≠ g'; have := H6.out.sep.1; omega) (fun b off hA hn => by show b ≠ g'; have := H6.out.sep.2 b off hA hn; omega)).far (q := ⟨g', z * 5 + 1, none⟩) (.int .i64 0) (by show g ≠ g'; have := H6.out.sep.1; omega) (fun b off hA hn => by show b ≠ g'; have := H6.out.sep.2 b off hA hn; omega)).far (q := ⟨g', z * 5 + 2, none⟩) (.int .i64 0) (by show g ≠ g'; have := H6.out.sep.1; omega) (fun b off hA hn => by show b ≠ g'; have := H6.out.sep.2 b off hA hn; omega)).far (q := ⟨g', z * 5 + 3, none⟩) (.int .i64 0) (by show g ≠ g'; have := H6.out.sep.1; omega) (fun b off hA hn => by show b ≠ g'; have := H6.out.sep.2 b off hA hn; omega)).far (q := ⟨g', z * 5 + 4, none⟩) (.int .i64 ((k : Int) + 1)) (by show g ≠ g'; have := H6.out.sep.1; omega) (fun b off hA hn => by show b ≠ g'; have := H6.out.sep.2 b off hA hn; omega))
          have HL := shade (only_row (only_row (only_row (only_row (only_row H6.out.low (grown_set g' (z * 5) (.string ⟨#[106, 109, 112]⟩)) (by intro _ e; injection e; omega)) (grown_set g' (z * 5 + 1) (.int .i64 0)) (by intro _ e; injection e; omega)) (grown_set g' (z * 5 + 2) (.int .i64 0)) (by intro _ e; injection e; omega)) (grown_set g' (z * 5 + 3) (.int .i64 0)) (by intro _ e; injection e; omega)) (grown_set g' (z * 5 + 4) (.int .i64 ((k : Int) + 1))) (by intro _ e; injection e; omega))
          clear ho
          go_wp2_with fail
          go_ret
          exact ⟨_, k, c', _, rfl, by omega, OwnC.code HO.out, HL.out, hg', _, by omega, HRD.out⟩
        · have hy : (y == 0) = false := by rw [beq_eq_false_iff_ne]; exact hy
          go_wp2_with fail
          go_ret
          exact ⟨_, k, c', f, rfl, by omega, OwnC.code H5.out.own, H5.out.low, hg', _, by omega, H5.out.rd⟩
/-- What someMachine leaves: some machine whose numbers can be read; only the reader has changed. -/
def SMRd (w : World) (g : Nat) (A : Option Addr) (n cap : Nat) (zs : List Int) (p : Nat) (e : Ending) (w' : World) : Prop :=
  ∃ (at' : Int) (A1 : Option Addr) (n1 c1 : Nat) (A2 : Option Addr) (n2 c2 : Nat) (f1 f2 : Nat → Int), e = .returned (MV at' A1 n1 c1 A2 n2 c2) ∧ Nums w' A1 n1 f1 ∧ Nums w' A2 n2 f2 ∧ (n1 ≤ 8 ∧ n2 ≤ 8) ∧ ((∀ b off, A1 = some ⟨b, off, none⟩ → w.heap.size + 1 ≤ b) ∧ ∀ b off, A2 = some ⟨b, off, none⟩ → w.heap.size + 1 ≤ b) ∧ w.grownBy w' (some g) ∧ ∃ q, q ≤ p + 90 ∧ Rd w' g A n cap zs q


end Go.Proofs.YtjeflaodeafhbaaDoor
