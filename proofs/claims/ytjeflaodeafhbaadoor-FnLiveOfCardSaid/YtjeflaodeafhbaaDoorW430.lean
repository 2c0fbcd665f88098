/- A range over a function whose iterator keeps numbers of its own in cells: what the caller owes, what the iterator owes; no condition on the program. -/
import Derived.RangeFuncNested
import Derived.RangeFuncBound
import Derived.RangeFuncCalls
import Derived.RangeFuncLeaves
import Derived.Shelf.Abstract
import Derived.Shelf.RegionOpen
import Derived.WalkKit
import Derived.OwnWalkIn
import Derived.TacticsInMore
import Derived.LoopNIn
import Derived.LoopIn
namespace Go.Proofs.YtjeflaodeafhbaaDoor
open Go.RowKit Go.Shelf
/-- It stands, whatever becomes of one block from B on, and of new ones. -/
def Stands (B : Nat) (J : List Nat → World → Prop) : Prop :=
  ∀ s A A' row, J s A → A.grownBy A' row → (∀ r, row = some r → B ≤ r) → J s A'
theorem Stands.put {B : Nat} {J : List Nat → World → Prop} (h : Stands B J) {s : List Nat} {A : World} (l : Nat) (o : Obj) (hs : J s A) (hB : B ≤ l) : J s (A.putObj l o) :=
  h s A _ (some l) hs (grownBy_putObj' A l o) (fun r e => by cases e; exact hB)
theorem Stands.more {B : Nat} {J : List Nat → World → Prop} (h : Stands B J) {s : List Nat} {A : World} (o : Obj) (hs : J s A) : J s (A.alloc o) :=
  h s A _ none hs (World.grownBy_alloc A o none) (fun r e => by cases e)
/-- All cells but those of block T are as they were. -/
def KeepC (T : Nat) (A A' : World) : Prop := A.heap.size ≤ A'.heap.size ∧ ∀ r o, r ≠ T → A.heap[r]? = some o → o.isCells = true → A'.heap[r]? = some o
theorem KeepC.refl (T : Nat) (A : World) : KeepC T A A := ⟨Nat.le_refl _, fun _ _ _ h _ => h⟩
theorem KeepC.trans {T : Nat} {A A' A'' : World} (h : KeepC T A A') (k : KeepC T A' A'') : KeepC T A A'' :=
  ⟨Nat.le_trans h.1 k.1, fun r o hr ho hc => k.2 r o hr (h.2 r o hr ho hc) hc⟩
theorem KeepC.put {T l : Nat} {A : World} {o o' : Obj} (hl : A.heap[l]? = some o) (ho : o.isCells = false) : KeepC T A (A.putObj l o') := by
  refine ⟨by simp, fun r p _ hp hc => (World.putObj_heap_other (fun e => ?_)).trans hp⟩
  subst e
  rw [hl] at hp
  cases hp
  rw [ho] at hc
  cases hc
/-- What an iterator over numbers owes, whatever the round does: all that S tells have come, or a round has said 'no more'. -/
def Gives (n : Nat) (P : Program) (g : Nat) (lb : Array Value) (T : Nat) (G : Nat → Prop) (S Sp : List Nat → Prop) (N : Nat) (w : World) : Prop :=
  ∀ (l : Nat) (J Jx : List Nat → World → Prop) (W : World), w.grownBy W none → Stands W.heap.size J → Stands W.heap.size Jx →
    (∀ pre (x : Nat) A, J pre A → pre.length < N → G x → YieldAt Fence.wide (n - 1) P l #[.int .i64 (x : Int)] A fun e A' =>
      (e = .returned (.bool true) ∧ J (pre ++ [x]) A' ∧ KeepC T A A') ∨ (e = .returned (.bool false) ∧ Jx (pre ++ [x]) A')) →
    J [] W →
    CallsIn Fence.wide n P g (#[.func (.yield l) #[] #[]] ++ lb) W fun e A' => (∃ v, e = .returned v) ∧ ((∃ xs, S xs ∧ J xs A') ∨ (∃ pre, Sp pre ∧ Jx pre A'))
/-- The caller's law. -/
theorem range_cells {n : Nat} {P : Program} {g : Operand} {ps : Array Tmp} {assign body : Code} {Q : Exit → Act → World → Prop} {a : Act} {w : World} {T N : Nat} {G : Nat → Prop} {S Sp : List Nat → Prop}
    (h1 : 1 ≤ n) {gf : Nat} {lb : Array Value} (hg : a.eval g = .func (.func gf) #[] lb) (eg : ∀ args w, (callFunc gf args).run P w = .ok (.enter gf args) w)
    (hseq : Gives (n - 1) P gf lb T G S Sp N w) (hps : ps.size = 1)
    (I : List Nat → World → Prop) (Ix : Code → List Nat → World → Prop) (hI : Stands w.heap.size I) (hIx : ∀ c, Stands w.heap.size (Ix c)) (h0 : I [] w) (a₁ : Nat → Act)
    (hassign : ∀ (l x : Nat) (W : World) (K : Act → World → Prop), K (a₁ x) W →
      assign.wpIn (Fence.wide.inRound l) (n - 1 - 1) P (Exit.then K (fun _ _ _ => False)) { tmps := (ps.zip #[.int .i64 (x : Int)]).foldl (fun t (p, v) => t.setIfInBounds p v) a.tmps, defers := [] } W)
    (hbody : ∀ (l : Nat) (pre : List Nat) (x : Nat) (W : World), I pre W → pre.length < N → G x → body.wpIn (Fence.wide.inRound l) (n - 1 - 1) P (ownPostK (KeepC T) I Ix (pre ++ [x]) W) (a₁ x) W)
    (hdone : ∀ (D : Nat) (xs : List Nat) (W : World), w.heap.size ≤ D → S xs → I xs W → W.heap[D]? = some (.deferred (some [])) → Q .normal { a with defers := { target := .collected D, args := #[] } :: a.defers } W)
    (hstop : ∀ (D : Nat) (c : Code) (pre : List Nat) (W : World), w.heap.size ≤ D → Sp pre → Ix c pre W → W.heap[D]? = some (.deferred (some [])) → c.wpIn Fence.wide n P Q { a with defers := { target := .collected D, args := #[] } :: a.defers } W) :
    (Code.rangeFunc g ps assign body).wpIn Fence.wide n P Q a w := by
  refine wpIn_rangeFunc fun fn hfn => ?_
  -- the loop's record, as it is made
  let rc : LoopState → Option Code → Obj := fun st pe => .loop { state := st, pending := pe, fn, tmps := a.tmps, params := ps, assign, body, defers := w.heap.size }
  let D := w.heap.size
  let R := w.heap.size + 1
  let W1 := (w.alloc (.deferred (some []))).alloc (rc .ready none)
  have sz : W1.heap.size = w.heap.size + 2 := by simp [W1]
  have rec1 : W1.heap[R]? = some (rc .ready none) := by
    have h := World.alloc_heap_new (w.alloc (.deferred (some []))) (rc .ready none)
    rwa [World.size_alloc] at h
  have def1 : W1.heap[D]? = some (.deferred (some [])) := (Below.heap_alloc _ _ _ (by simp [D])).trans (World.alloc_heap_new w _)
  have g1 : w.grownBy W1 none := ⟨rfl, rfl, rfl, by omega, fun i hi _ => (Below.heap_alloc _ _ _ (by simp; omega)).trans (Below.heap_alloc _ _ _ hi)⟩
  let J : List Nat → World → Prop := fun pre W => I pre W ∧ W.heap[R]? = some (rc .ready none) ∧ W.heap[D]? = some (.deferred (some []))
  let Jx : List Nat → World → Prop := fun pre W => ∃ c, Ix c pre W ∧ W.heap[R]? = some (rc .done (some c)) ∧ W.heap[D]? = some (.deferred (some []))
  have hold : ∀ {A A' : World} {row : Option Nat} {i : Nat} {o : Obj}, A.grownBy A' row → (∀ r, row = some r → W1.heap.size ≤ r) → i < w.heap.size + 2 → A.heap[i]? = some o → A'.heap[i]? = some o := fun hg' hr hi ho =>
    (hg'.block _ (Array.getElem?_eq_some_iff.1 ho).1 (fun e => by have := hr _ e.symm; omega)).trans ho
  refine ⟨R, [{ target := .collected D, args := #[] }], W1, { target := .fn (.func gf) lb, args := #[.func (.yield R) #[] #[]] }, W1, gf, #[.func (.yield R) #[] #[]] ++ lb, W1, run_enterLoop_outer _ _ _ _ _, ?_, fun _ _ => trivial, by simp [invoke, go_sem, eg], fun _ => h1, ?_⟩
  · simp only [resolve, hg]
    simp [go_sem]
  · refine (hseq R J Jx W1 g1
      (fun s A A' row hs hg' hr => ⟨hI s A A' row hs.1 hg' (fun r e => by have := hr r e; omega), hold hg' hr (by omega) hs.2.1, hold hg' hr (by omega) hs.2.2⟩)
      (fun s A A' row hs hg' hr => by
        obtain ⟨c, hc, hl, hk⟩ := hs
        exact ⟨c, hIx c s A A' row hc hg' (fun r e => by have := hr r e; omega), hold hg' hr (by omega) hl, hold hg' hr (by omega) hk⟩)
      ?_ ⟨hI.more _ (hI.more _ h0), rec1, def1⟩).mono ?_
    · -- a round
      rintro pre x W ⟨hi, hl, hk⟩ hlen hgx
      have hR : R < W.heap.size := (Array.getElem?_eq_some_iff.1 hl).1
      refine ⟨fn, _, assign, body, run_yield hl (by simp [hps]), roundIn_of_wpIn hfn (hassign _ x W _ ⟨_, run_beginRound hl rfl, ?_⟩)⟩
      let bz : Obj := .loop { state := .busy, pending := none, fn, tmps := a.tmps, params := ps, assign, body, defers := w.heap.size }
      have hl2 : (W.putObj R bz).heap[R]? = some bz := World.putObj_heap_same hR
      have hk2 : (W.putObj R bz).heap[D]? = some (.deferred (some [])) := (World.putObj_heap_other (by omega)).trans hk
      refine wpIn_mono (hbody _ pre x _ (hI.put _ _ hi (by omega)) hlen hgx) ?_
      have fin : ∀ (jump : Option Code) (W3 : World), KeepsOthers (W.putObj R bz) W3 →
          (Instr.endRound R jump).run P W3 = .ok (.bool jump.isNone) (W3.putObj R (rc (if jump.isNone then .ready else .done) jump)) ∧ W3.heap[R]? = some bz ∧
          (W3.putObj R (rc (if jump.isNone then .ready else .done) jump)).heap[R]? = some (rc (if jump.isNone then .ready else .done) jump) ∧
          (W3.putObj R (rc (if jump.isNone then .ready else .done) jump)).heap[D]? = some (.deferred (some [])) := fun jump W3 hk3 =>
        have hl3 := hk3.same _ _ hl2 rfl
        ⟨run_endRound jump hl3, hl3, World.putObj_heap_same (Array.getElem?_eq_some_iff.1 hl3).1, (World.putObj_heap_other (by omega)).trans (hk3.same _ _ hk2 rfl)⟩
      intro e a3 W3 hp
      cases e with
      | normal =>
        obtain ⟨hr, hl3, hl4, hk4⟩ := fin none W3 hp.1
        exact ⟨_, _, hr, .inl ⟨rfl, ⟨hI.put _ _ hp.2.2 (by omega), hl4, hk4⟩, ((KeepC.put hl rfl).trans hp.2.1).trans (KeepC.put hl3 rfl)⟩⟩
      | ret =>
        obtain ⟨hr, hl3, hl4, hk4⟩ := fin (some .ret) W3 hp.1
        exact ⟨_, _, hr, .inr ⟨rfl, .ret, (hIx _).put _ _ hp.2 (by omega), hl4, hk4⟩⟩
      | exit id =>
        obtain ⟨hr, hl3, hl4, hk4⟩ := fin (some (.exit id)) W3 hp.1
        exact ⟨_, _, hr, .inr ⟨rfl, .exit id, (hIx _).put _ _ hp.2 (by omega), hl4, hk4⟩⟩
      | goto t =>
        obtain ⟨hr, hl3, hl4, hk4⟩ := fin (some (.goto t)) W3 hp.1
        exact ⟨_, _, hr, .inr ⟨rfl, .goto t, (hIx _).put _ _ hp.2 (by omega), hl4, hk4⟩⟩
      | panic ch => exact hp.elim
      | outgrown => exact hp.elim
    · -- behind the iterator
      rintro e W2 ⟨⟨v, rfl⟩, (⟨xs, hS, hi, hl, hk⟩ | ⟨pre, hSp, c, hi, hl, hk⟩)⟩
      · exact ⟨none, _, run_endLoop hl (by simp), hdone _ xs _ (Nat.le_refl _) hS (hI.put _ _ hi (by omega)) ((World.putObj_heap_other (by omega)).trans hk)⟩
      · exact ⟨some c, _, run_endLoop hl (by simp), hstop _ c pre _ (Nat.le_refl _) hSp ((hIx c).put _ _ hi (by omega)) ((World.putObj_heap_other (by omega)).trans hk)⟩
end Go.Proofs.YtjeflaodeafhbaaDoor
