/- What is reached: the marks that the search leaves. What is reached, walked. What is reached, by the model. -/
import Derived.Test.YtjeflaodeafhbaaDoorH441
namespace Go.Proofs.YtjeflaodeafhbaaDoor
open Go.RowKit Go.Shelf
set_option linter.unusedSimpArgs false
/-- A predicate on worlds that hangs on cells below B alone. -/
def Low (B : Nat) (U : World → Prop) : Prop := ∀ W W', U W → W.heap.size ≤ W'.heap.size → (∀ r o, r < B → W.heap[r]? = some o → o.isCells = true → W'.heap[r]? = some o) → U W'
theorem Low.env {B B' T : Nat} {U : World → Prop} (h : Low B U) (hB : B ≤ B') (hT : B ≤ T) : Env U B' T :=
  ⟨fun hu hg hr => h _ _ hu hg.size (fun r o hrb ho _ => (hg.block r (Array.getElem?_eq_some_iff.1 ho).1 (fun e => by have := hr r e.symm; omega)).trans ho), fun hu hk => h _ _ hu hk.1 (fun r o hrb ho hc => hk.2 r o (by omega) ho hc)⟩
theorem Low.on {B : Nat} {U : World → Prop} {W W' : World} (h : Low B U) (hu : U W) (hg : W.grownBy W' none) : U W' :=
  h _ _ hu hg.size (fun r o _ ho _ => (hg.block r (Array.getElem?_eq_some_iff.1 ho).1 (by simp)).trans ho)
theorem cell_of_heap {W W' : World} {a : Addr} {v : Value} (h : W.cell? a = some v) (hb : ∀ o, W.heap[a.block]? = some o → o.isCells = true → W'.heap[a.block]? = some o) : W'.cell? a = some v := by
  obtain ⟨o, ho, hc⟩ := cells_of_cell h
  have e := hb o ho hc
  unfold World.cell? at h ⊢
  rw [e, ← ho]
  exact h
theorem low_code (B : Nat) (A : Option Addr) (n : Nat) (F : Nat → Ins) (hA : ∀ b off, A = some ⟨b, off, none⟩ → b < B) : Low B (fun W => Code W A n F) := fun W W' hu hs hk => by
  rcases hu with h | ⟨b, off, e, hb, hc⟩
  · exact .inl h
  · exact .inr ⟨b, off, e, Nat.lt_of_lt_of_le hb hs, fun j i hj hi => cell_of_heap (hc j i hj hi) (fun o ho hc => hk b o (hA b off e) ho hc)⟩
theorem low_wt (B : Nat) (hB : 0 < B) : Low B WT := fun W W' hu _ hk => by
  obtain ⟨t, fr, h⟩ := hu
  exact ⟨t, fr, hk _ _ hB h rfl⟩
theorem Low.and {B : Nat} {U U' : World → Prop} (h : Low B U) (h' : Low B U') : Low B (fun W => U W ∧ U' W) := fun W W' hu hs hk => ⟨h W W' hu.1 hs hk, h' W W' hu.2 hs hk⟩
/-- A variable's box, as what the iterator reads. -/
theorem env_box {B T b : Nat} {t : TypeId} {v : Value} (hb : b < B) (hT : b ≠ T) : Env (fun W => Holds5 W b t #[v]) B T :=
  ⟨fun hu hg hr => hu.grown hg (fun e => by have := hr b e.symm; omega), fun hu hk => hk.2 b _ hT hu rfl⟩
theorem Env.and {B T : Nat} {U U' : World → Prop} (h : Env U B T) (h' : Env U' B T) : Env (fun W => U W ∧ U' W) B T :=
  ⟨fun hu hg hr => ⟨h.grow hu.1 hg hr, h'.grow hu.2 hg hr⟩, fun hu hk => ⟨h.keep hu.1 hk, h'.keep hu.2 hk⟩⟩
/-- What waysFrom leaves. -/
theorem waysFrom_any (A : Option Addr) (n c kc : Nat) (lc : Array Value) (a : Int) (w : World) :
    Calls Tryd.prog 103 #[.slice A n c, .int .i64 a, .func (.func kc) #[] lc] w fun e w' => e = .returned (.func (.func 115) #[] #[.pointer (some ⟨w.heap.size + 1, 0, none⟩), .pointer (some ⟨w.heap.size + 1 + 1, 0, none⟩), .pointer (some ⟨w.heap.size, 0, none⟩)]) ∧ w' = ((w.alloc (.cells #[.slice A n c] 46)).alloc (.cells #[.int .i64 a] 3)).alloc (.cells #[.func (.func kc) #[] lc] 84) := by
  go_enter Tryd.func103, Tryd.ntmps103
  go_wp2
  go_ret
  exact ⟨rfl, rfl⟩
end Go.Proofs.YtjeflaodeafhbaaDoor

namespace Go.Proofs.YtjeflaodeafhbaaDoor
open Go.RowKit Go.Shelf
set_option linter.unusedSimpArgs false
attribute [local go_sem] Oper.semAt_some
/-- What a call leaves that makes a row of marks. -/
def MarkRes (k : Nat) (f : Nat → Bool) (w : World) (e : Ending) (w' : World) : Prop :=
  ∃ v, e = .returned v ∧ w'.ownsRow w.heap.size 4 1 v k (bolL k f) ∧ w.grownBy w' none
/-- The marks so far, and the box of their variable. -/
structure Rch (w W : World) (bx n : Nat) (f : Nat → Bool) : Prop where
  ldr : Ldr w W n f
  lt : w.heap.size < bx
  box : Holds5 W bx 82 #[.slice (some ⟨w.heap.size, 0, none⟩) (n + 1) (n + 1)]
theorem Rch.row {w W W' : World} {bx n : Nat} {f : Nat → Bool} {row : Option Nat} (h : Rch w W bx n f) (hg : W.grownBy W' row) (hr : ∀ j, row = some j → bx < j) : Rch w W' bx n f :=
  ⟨h.ldr.row hg (fun j e => by have := hr j e; have := h.lt; omega), h.lt, h.box.grown hg (fun e => by have := hr _ e.symm; omega)⟩
theorem Rch.mark {w W : World} {bx n : Nat} {f : Nat → Bool} (h : Rch w W bx n f) (k : Nat) : Rch w (W.setCell ⟨w.heap.size, k, none⟩ (.bool true)) bx n (fun j => if j = k then true else f j) :=
  ⟨h.ldr.mark k, h.lt, h.box.other (p := ⟨w.heap.size, k, none⟩) (by have := h.lt; show bx ≠ w.heap.size; omega) _⟩
theorem Rch.congr {w W : World} {bx n : Nat} {f g : Nat → Bool} (h : Rch w W bx n f) (hf : ∀ j, f j = g j) : Rch w W bx n g := ⟨h.ldr.congr hf, h.lt, h.box⟩
theorem keepC_set {W : World} {g k : Nat} {v : Value} : KeepC g W (W.setCell ⟨g, k, none⟩ v) := by
  refine ⟨by simp, fun r o hr ho _ => ?_⟩
  exact (Below.heap_setCell W ⟨g, k, none⟩ v r hr).trans ho
set_option maxRecDepth 100000 in
set_option maxHeartbeats 16000000 in
theorem reached_any (A : Option Addr) (n c kc : Nat) (lc : Array Value) (F : Nat → Ins) (cut : Nat → Bool) (Uc : World → Prop) (w : World)
    (hv : vcB n F = true) (hwt : WT w) (hcode : Code w A n F) (hUc : Uc w) (hLow : Low w.heap.size Uc)
    (eg : ∀ args W, (callFunc kc args).run Tryd.prog W = .ok (.enter kc args) W)
    (hcut : ∀ (x : Nat) W, Uc W → WT W → Code W A n F → x ≤ n → Calls Tryd.prog kc (#[.int .i64 (x : Int)] ++ lc) W fun e w' => e = .returned (.bool (cut x)) ∧ W.grownBy w' none) :
    Calls Tryd.prog 75 #[.slice A n c, .func (.func kc) #[] lc] w fun e w' => ∃ r : Nat → Bool, (∀ y, y ≤ n → (r y = true ↔ Way F n cut 0 y)) ∧ MarkRes (n + 1) r w e w' := by
  have hn := vcB_40 hv
  obtain ⟨i0, hi0, hz0, hz1, hz2⟩ := info_parts info4b
  obtain ⟨w1, hrun, hown1, hgr1⟩ := run_make_full (P := Tryd.prog) (w := w) w.heap.size 82 4 i0 (.bool false) 1 Tryd.underlying82 hi0 hz0 hz1 .i64 .i64 (n + 1) (by rw [hz2]; omega) (by unfold maxLen; omega) (Nat.le_refl _)
  rw [show ((n + 1 : Nat) : Int) = (n : Int) + 1 by omega] at hrun
  have hown2 : OwnB w1 w.heap.size (some ⟨w.heap.size, 0, none⟩) (n + 1) (n + 1) (fun _ => false) := by
    show w1.ownsRow _ _ _ _ _ _
    rw [← made_bools]
    have h := hown1
    rw [Nat.mul_one] at h
    exact h
  have hA : ∀ b off, A = some ⟨b, off, none⟩ → n ≠ 0 → b < w.heap.size := fun b off e h0 => by
    obtain ⟨b', off', e', hb, _⟩ := hcode.resolve_left h0
    rw [e] at e'
    injection e' with e'
    injection e' with e1 e2
    omega
  have hlc : Low w.heap.size (fun W => Code W A n F) := by
    by_cases h0 : n = 0
    · intro W W' _ _ _
      exact .inl h0
    · exact low_code _ A n F (fun b off e => hA b off e h0)
  have hl1 := hgr1.size
  have hl2 : w.heap.size < w1.heap.size := hown2.lt.2
  have L0 := shade (show Ldr w w1 n (fun _ => false) from ⟨hown2, hgr1⟩)
  have HV := shade hv; have HWT := shade hwt; have HCO := shade hcode; have HUC := shade hUc; have HLW := shade (((low_wt w.heap.size (wt_lt hwt)).and hlc).and hLow); have HEG := shade eg; have HCUT := shade hcut
  clear hown1 hown2 hgr1 hi0 hz0 hz1 hz2 hv hwt hcode hUc hLow eg hcut hA hlc
  refine (callsIn_wide (n := 6)).1 ?_
  refine callsIn_of_wp_marks Tryd.func75 rfl trivial ?_ rfl
  simp only [Tryd.ntmps75, List.size_toArray, List.length_cons, List.length_nil, Nat.reduceAdd, Nat.reduceSub, Array.replicate_succ, Array.replicate_zero, List.push_toArray, List.append_toArray, List.nil_append, List.cons_append]
  gi_upto_region 2 with (fail)
  have hR2 := shade (show Rch w (w1.alloc (.cells #[.slice (some ⟨w.heap.size, 0, none⟩) (n + 1) (n + 1)] 82)) w1.heap.size n (fun _ => false) from ⟨L0.out.on (World.grownBy_alloc _ _ none), hl2, Holds5.fresh _ _ _⟩)
  have hz2 := World.size_alloc w1 (.cells #[.slice (some ⟨w.heap.size, 0, none⟩) (n + 1) (n + 1)] 82)
  obtain ⟨W2, hW2⟩ : ∃ W2, w1.alloc (.cells #[.slice (some ⟨w.heap.size, 0, none⟩) (n + 1) (n + 1)] 82) = W2 := ⟨_, rfl⟩
  rw [hW2] at hR2 hz2 ⊢
  have HZ2 := shade hz2
  clear hW2 L0 hz2 hrun
  gi_wp2_with (fail)
  refine ⟨trivial, (callsIn_wide.2 (waysFrom_any A n c kc lc 0 W2)).mono ?_⟩
  rintro e W3 ⟨rfl, rfl⟩
  gi_wp2_with (fail)
  have e1 := ((Holds5.fresh W2 46 #[.slice A n c]).alloc (.cells #[.int .i64 0] 3)).alloc (.cells #[.func (.func kc) #[] lc] 84)
  have e2 := (Holds5.fresh (W2.alloc (.cells #[.slice A n c] 46)) 3 #[.int .i64 0]).alloc (.cells #[.func (.func kc) #[] lc] 84)
  have e3 := Holds5.fresh ((W2.alloc (.cells #[.slice A n c] 46)).alloc (.cells #[.int .i64 0] 3)) 84 #[.func (.func kc) #[] lc]
  rw [World.size_alloc] at e2
  rw [World.size_alloc, World.size_alloc] at e3
  have hg3 : W2.grownBy (((W2.alloc (.cells #[.slice A n c] 46)).alloc (.cells #[.int .i64 0] 3)).alloc (.cells #[.func (.func kc) #[] lc] 84)) none := grown_same (grown_same (World.grownBy_alloc _ _ none) (World.grownBy_alloc _ _ none)) (World.grownBy_alloc _ _ none)
  have hz3 : (((W2.alloc (.cells #[.slice A n c] 46)).alloc (.cells #[.int .i64 0] 3)).alloc (.cells #[.func (.func kc) #[] lc] 84)).heap.size = W2.heap.size + 3 := by simp
  obtain ⟨W3, hW3⟩ : ∃ W3, ((W2.alloc (.cells #[.slice A n c] 46)).alloc (.cells #[.int .i64 0] 3)).alloc (.cells #[.func (.func kc) #[] lc] 84) = W3 := ⟨_, rfl⟩
  rw [hW3] at e1 e2 e3 hg3 hz3 ⊢
  clear hW3
  have hR3 := shade (hR2.out.row hg3 (fun j e => by cases e))
  have hu3 : ((WT W3 ∧ Code W3 A n F) ∧ Uc W3) := HLW.out.on ⟨⟨HWT.out, HCO.out⟩, HUC.out⟩ hR3.out.ldr.low
  have HZ3 := shade hz3
  have hzz := HZ2.out
  have hG := ways_gives 5 (by omega) (W2.heap.size + 1) (W2.heap.size + 1 + 1) W2.heap.size w.heap.size 0 A n c kc lc F cut
    (fun W => ((WT W ∧ Code W A n F) ∧ Uc W) ∧ (Holds5 W W2.heap.size 46 #[.slice A n c] ∧ Holds5 W (W2.heap.size + 1) 3 #[.int .i64 0] ∧ Holds5 W (W2.heap.size + 1 + 1) 84 #[.func (.func kc) #[] lc])) W3
    HV.out (Nat.zero_le _) ⟨hu3, e1, e2, e3⟩ ((HLW.out.env (by omega) (Nat.le_refl _)).and ((env_box (by omega) (by omega)).and ((env_box (by omega) (by omega)).and (env_box (by omega) (by omega))))) (by omega) HEG.out
    (fun W h => (h.2.2.1.look 0).trans rfl) (fun W h => (h.2.2.2.look 0).trans rfl) (fun W h => (h.2.1.look 0).trans rfl) (fun W h => h.1.1.1) (fun W h => h.1.1.2) (fun x W h hx => HCUT.out x W h.1.2 h.1.1.1 h.1.1.2 hx)
  have HG := shade hG
  clear e1 e2 e3 hg3 hz3 hzz hR2 hu3 hG HEG HCUT HLW HUC HCO HWT
  refine range_cells (n := 6) (T := w.heap.size) (by omega) (gf := 115) (lb := #[.pointer (some ⟨W2.heap.size + 1, 0, none⟩), .pointer (some ⟨W2.heap.size + 1 + 1, 0, none⟩), .pointer (some ⟨W2.heap.size, 0, none⟩)]) rfl (enters_of Tryd.func115 (by kernel_rfl) rfl) HG.out rfl
    (fun pre W => Rch w W w1.heap.size n (fun j => decide (j ∈ pre))) (fun _ _ _ => False)
    (fun s X X' row hs hg hr => hs.row hg (fun j e => by have := hr j e; have := HZ3.out; have := HZ2.out; omega))
    (fun _ _ _ _ _ hs _ _ => hs)
    (hR3.out.congr (fun j => by simp))
    (fun x => { tmps := #[.slice A n c, .func (.func kc) #[] lc, undef, undef, .slice none 0 0, .pointer (some ⟨w1.heap.size, 0, none⟩), .int .i64 (x : Int), .slice A n c, .int .i64 n, .int .i64 ((n : Int) + 1), .slice (some ⟨w.heap.size, 0, none⟩) (n + 1) (n + 1), .slice A n c, .func (.func kc) #[] lc, .func (.func 115) #[] #[.pointer (some ⟨W2.heap.size + 1, 0, none⟩), .pointer (some ⟨W2.heap.size + 1 + 1, 0, none⟩), .pointer (some ⟨W2.heap.size, 0, none⟩)], .int .i64 (x : Int), undef, undef, undef, undef], defers := [] }) ?assign ?body ?done ?stop
  case assign =>
    intro l x W K hK
    gi_wp2_with (fail)
    exact hK
  case body =>
    intro l pre x W hr hlen hxn
    have HR := shade hr
    clear hr
    have q5 := HR.out.box.look 0
    simp at q5
    have s0 := HR.out.ldr.cell x hxn
    have s1 := HR.out.ldr.free x
    have hx41 : x ≤ 40 := by omega
    gi_wp2_with (fail)
    refine ⟨KeepsOthers.setCell _ _ _, keepC_set, (HR.out.mark x).congr (fun j => ?_)⟩
    by_cases e : j = x
    · rw [if_pos e, e]
      simp
    · rw [if_neg e]
      simp [e]
  case done =>
    intro D ys W hD hS hr hK
    have HR := shade hr
    have HS := shade hS
    have q5 := hr.box.look 0
    simp at q5
    clear hr hS
    gi_wp2_with (fail)
    refine ⟨by simp, .inl ⟨_, _, rfl, run_takeDeferred hK, ?_⟩⟩
    have hR5 := HR.out.row (grownBy_putObj' W D (.deferred none)) (fun j e => by injection e with e; have := HZ3.out; have := HZ2.out; omega)
    exact ⟨_, results_tmp rfl _ _ _, fun j => decide (j ∈ ys), fun y hy => by rw [decide_eq_true_eq]; exact HS.out y, .slice (some ⟨w.heap.size, 0, none⟩) (n + 1) (n + 1), rfl, hR5.ldr.own, hR5.ldr.low⟩
  case stop =>
    rintro D cc pre W hD _ h _
    exact h.elim
end Go.Proofs.YtjeflaodeafhbaaDoor

namespace Go.Proofs.YtjeflaodeafhbaaDoor
open Go.RowKit Go.Shelf
set_option linter.unusedSimpArgs false
/-- Nothing is cut. -/
def noCut (_ : Nat) : Bool := false
/-- The marks within a pass: what is marked is on a way; there are no more unmarked than at its begin, and fewer if it is told so; else the first i lead to marked ones alone. -/
structure Pas (F : Nat → Ins) (n : Nat) (f0 : Nat → Bool) (w wr : World) (i : Nat) (b : Bool) (f : Nat → Bool) : Prop where
  ldr : Ldr w wr n f
  beg : f 0 = true
  way : ∀ y, y ≤ n → f y = true → Way F n noCut 0 y
  low : unm f (n + 1) ≤ unm f0 (n + 1)
  dec : b = true → unm f (n + 1) < unm f0 (n + 1)
  clo : b = false → ∀ x, x < i → f x = true → ∀ y : Nat, (y : Int) ∈ nxI (F x) x → f y = true
section
variable {F : Nat → Ins} {n : Nat} {f0 f : Nat → Bool} {w wr wr' : World} {i : Nat} {b : Bool}
theorem Pas.on (h : Pas F n f0 w wr i b f) (hg : wr.grownBy wr' none) : Pas F n f0 w wr' i b f := ⟨h.ldr.on hg, h.beg, h.way, h.low, h.dec, h.clo⟩
theorem Pas.start (h : Pas F n f0 w wr i b f) : Pas F n f w wr 0 false f := ⟨h.ldr, h.beg, h.way, Nat.le_refl _, (fun e => by cases e), fun _ x hx => absurd hx (Nat.not_lt_zero x)⟩
theorem Pas.mark (h : Pas F n f0 w wr i b f) (y : Nat) (hy : f y = false) (hn : y ≤ n) (hw : Way F n noCut 0 y) : Pas F n f0 w (wr.setCell ⟨w.heap.size, y, none⟩ (.bool true)) i true (fun x => if x = y then true else f x) := by
  have h1 := unm_set f y hy (n + 1) (by omega)
  have h2 := h.low
  refine ⟨h.ldr.mark y, ?_, fun z hz hf => ?_, by omega, fun _ => by omega, (fun e => by cases e)⟩
  · show (if 0 = y then true else f 0) = true
    rw [h.beg]
    simp
  · by_cases e : z = y
    · rw [e]
      exact hw
    · have hf' : (if z = y then true else f z) = true := hf
      rw [if_neg e] at hf'
      exact h.way z hz hf'
theorem Pas.next (h : Pas F n f0 w wr i b f) (hi : f i = true → ∀ y : Nat, (y : Int) ∈ nxI (F i) i → f y = true) : Pas F n f0 w wr (i + 1) b f := by
  refine ⟨h.ldr, h.beg, h.way, h.low, h.dec, fun hb x hx hf y hy => ?_⟩
  by_cases e : x = i
  · subst e
    exact hi hf y hy
  · exact h.clo hb x (by omega) hf y hy
theorem Pas.done (h : Pas F n f0 w wr n false f) (y : Nat) (hy : y ≤ n) : f y = true ↔ Way F n noCut 0 y :=
  ⟨h.way y hy, fun hw => hw (fun z => f z = true) h.beg (fun x z hx hxn _ hz => h.clo rfl x hxn hx z hz)⟩
theorem Pas.left (h : Pas F n f0 w wr i b f) : unm (metOf wr w.heap.size) (n + 1) = unm f (n + 1) := unm_congr _ _ _ (fun x hx => by
  unfold metOf
  rw [h.ldr.cell x (by omega)])
end
/-- 1 for true. -/
def flagV : Value → Nat
  | .bool true => 1
  | _ => 0
set_option maxRecDepth 100000 in
set_option maxHeartbeats 16000000 in
theorem specReached_any (A : Option Addr) (n c : Nat) (F : Nat → Ins) (w : World) (hv : vcB n F = true) (h : Code w A n F) :
    Calls Tryd.prog 80 #[.slice A n c] w fun e w' => ∃ r : Nat → Bool, (∀ y, y ≤ n → (r y = true ↔ Way F n noCut 0 y)) ∧ MarkRes (n + 1) r w e w' := by
  have hn := vcB_40 hv
  have HV := shade hv
  have H := shade h
  clear h hv
  obtain ⟨i0, hi, hz0, hz1, hz2⟩ := info_parts info4b
  go_enter Tryd.func80, Tryd.ntmps80
  go_wp2_with (first
    | (at_make; refine wpList_make_full _ rfl _ _ 82 rfl w.heap.size 4 i0 (.bool false) 1 Tryd.underlying82 hi hz0 hz1 .i64 .i64 (n + 1) (n + 1) (n + 1) rfl rfl rfl rfl (by rw [hz2]; omega) (by unfold maxLen; omega) (Nat.le_refl _) ?_)
    | go_in)
  intro w1 hown1 hgr1
  simp only [made_bools] at hown1
  have L0 := shade (show Ldr w w1 n (fun _ => false) from ⟨hown1, hgr1⟩)
  clear hown1 hgr1 hi hz0 hz1 hz2
  have s0 := L0.out.cell 0 (by omega)
  have s1 := L0.out.free 0
  go_upto_region 3 with (fail)
  have P1 := shade (show Pas F n (fun _ => false) w (w1.setCell ⟨w.heap.size, 0, none⟩ (.bool true)) n true (fun x => if x = 0 then true else (fun _ => false) x) from by
    have h1 : unm (fun x => if x = 0 then true else (fun _ => false) x) (n + 1) + 1 = unm (fun _ => false) (n + 1) := unm_set (fun _ => false) 0 rfl (n + 1) (by omega)
    refine ⟨L0.out.mark 0, rfl, fun y _ hy => ?_, by omega, fun _ => by omega, (fun e => by cases e)⟩
    obtain rfl : y = 0 := by
      by_cases e : y = 0
      · exact e
      · have hy' : (if y = 0 then true else false) = true := hy
        rw [if_neg e] at hy'
        cases hy'
    exact Way.start _ _ _ _)
  obtain ⟨f1, hf1⟩ : ∃ f1 : Nat → Bool, (fun x => if x = 0 then true else (fun _ => false) x) = f1 := ⟨_, rfl⟩
  obtain ⟨W1, hW1⟩ : ∃ W1, w1.setCell ⟨w.heap.size, 0, none⟩ (.bool true) = W1 := ⟨_, rfl⟩
  rw [hf1, hW1] at P1
  rw [hW1]
  clear hW1 hf1 s0 s1 L0
  go_wp2_with fail
  go_loopw [4] (fun ag wr => ∃ (b : Bool) (f f0 : Nat → Bool), ag = .bool b ∧ Pas F n f0 w wr n b f) (fun ag wr => 2 * unm (metOf wr w.heap.size) (n + 1) + flagV ag)
  case atStart => exact ⟨true, _, _, rfl, P1.out⟩
  case round =>
    clear P1
    obtain ⟨b, f, f0, rfl, hp⟩ := hrel
    have HP := shade hp
    clear hp
    rcases b with _ | _
    · go_wp2_with fail
      go_ret
      exact ⟨f, HP.out.done, _, rfl, HP.out.ldr.own, HP.out.ldr.low⟩
    · have HQ := shade HP.out.start
      have HLE := shade HP.out.left
      obtain ⟨wo, rfl⟩ : ∃ wo : World, wo = wr := ⟨_, rfl⟩
      clear HP
      go_wp2_with fail
      go_loopw [4, 5] (fun ag q w2 => ∃ (b : Bool) (f2 : Nat → Bool) (i : Nat), i ≤ n ∧ q = .int .i64 (i : Int) ∧ ag = .bool b ∧ Pas F n f w w2 i b f2) (fun _ q _ => n - (intOf q).toNat)
      case atStart => exact ⟨false, f, 0, Nat.zero_le _, rfl, rfl, HQ.out⟩
      case round =>
        clear HQ
        obtain ⟨b, f2, i, hi, rfl, rfl, hp⟩ := hrel
        have HP := shade hp
        clear hp
        by_cases hin : i < n
        · have s0 := HP.out.ldr.cell i (by omega)
          rcases hfi : f2 i with _ | _
          · have HN := shade (HP.out.next (fun h => by rw [hfi] at h; cases h))
            rw [hfi] at s0
            clear hfi HP
            go_wp2_with fail
            go_roundw
            case rel => exact ⟨b, f2, i + 1, by omega, by go_num, rfl, HN.out⟩
            case measure => simp [intOf]; omega
          · have HFI := shade hfi
            rw [hfi] at s0
            clear hfi
            obtain ⟨cb, co, rfl, _⟩ := H.out.resolve_left (by omega)
            have HNX := shade (nextOf_any cb co n c i F wr hn hin (H.out.on HP.out.ldr.low))
            have HL3 := shade (show ∀ z, z ∈ nxI (F i) i → ∃ y : Nat, z = y ∧ y ≤ n ∧ Way F n noCut 0 y from fun z hz => by
              obtain ⟨y, rfl, hy⟩ := nx_in HV.out hin hz
              exact ⟨y, rfl, hy, (HP.out.way i (by omega) HFI.out).step hin rfl hz⟩)
            have hl2 := nxI_le (F i) i
            obtain ⟨l0, hl0⟩ : ∃ l0, nxI (F i) i = l0 := ⟨_, rfl⟩
            rw [hl0] at HNX HL3 hl2
            have HL0 := shade hl0
            clear hl0
            go_wp2_with fail
            refine HNX.out.mono ?_
            rintro e w5 ⟨v0, rfl, ho, hg5⟩
            obtain ⟨A0, c0, rfl, -⟩ := ownsRow_slice ho
            have HO := shade (World.ownsRow.mono ho (show w.heap.size + 1 ≤ wr.heap.size from HP.out.ldr.lt))
            have HP5 := shade (HP.out.on hg5)
            clear ho hg5 HNX HP s0
            go_wp2_with fail
            go_loopw [4, 7] (fun ag q w2 => ∃ (b : Bool) (f3 : Nat → Bool) (k : Nat), k ≤ l0.length ∧ q = .int .i64 (k : Int) ∧ ag = .bool b ∧ Pas F n f w w2 i b f3 ∧ w2.ownsRow (w.heap.size + 1) 3 1 (.slice A0 l0.length c0) l0.length (valI l0) ∧ (∀ j, j < k → ∀ y : Nat, l0.getD j 0 = (y : Int) → f3 y = true)) (fun _ q _ => l0.length - (intOf q).toNat)
            case atStart => exact ⟨b, f2, 0, Nat.zero_le _, rfl, rfl, HP5.out, HO.out, fun j hj => absurd hj (Nat.not_lt_zero j)⟩
            case round =>
              clear HP5 HO
              obtain ⟨b, f3, k, hk, rfl, rfl, hp, hown, hmet⟩ := hrel
              have HP := shade hp
              have HO := shade hown
              have HME := shade hmet
              clear hp hown hmet
              by_cases hkl : k < l0.length
              · obtain ⟨bl, e0, hgb, qc⟩ := Rest.first HO.out (Nat.lt_succ_self _) k (Nat.zero_le _) hkl
                subst e0
                obtain ⟨y, hy, hyn, hyw⟩ := HL3.out (l0.getD k 0) (by rw [List.getD_eq_getElem?_getD, List.getElem?_eq_getElem hkl]; exact List.getElem_mem _)
                rw [hy] at qc
                have HY2 := shade hy
                have HYW := shade hyw
                clear hy hyw
                have s0 := HP.out.ldr.cell y hyn
                rcases hmy : f3 y with _ | _
                · have HMY := shade hmy
                  rw [hmy] at s0
                  clear hmy
                  have s1 := HP.out.ldr.free y
                  have HPM := shade (HP.out.mark y HMY.out hyn HYW.out)
                  have HOM := shade (World.ownsRow.kept HO.out (grown_set (w := wr) w.heap.size y (.bool true)) (.inr (fun e => by
                    have := (World.ownsRow.lt HO.out _ e).1
                    omega)))
                  go_wp2_with fail
                  try (go_quiet (fail); go_wp2_with fail)
                  go_roundw
                  case rel => exact ⟨true, _, k + 1, by omega, by go_num, rfl, HPM.out, HOM.out, fun j hj z hz => by
                    by_cases e : j = k
                    · subst e
                      rw [HY2.out] at hz
                      obtain rfl : y = z := by omega
                      exact if_pos rfl
                    · have h1 := HME.out j (by omega) z hz
                      show (if z = y then true else f3 z) = true
                      rw [h1]
                      simp⟩
                  case measure => simp [intOf]; omega
                · have HMY := shade hmy
                  rw [hmy] at s0
                  clear hmy
                  go_wp2_with fail
                  try (go_quiet (fail); go_wp2_with fail)
                  go_roundw
                  case rel => exact ⟨b, f3, k + 1, by omega, by go_num, rfl, HP.out, HO.out, fun j hj z hz => by
                    by_cases e : j = k
                    · subst e
                      rw [HY2.out] at hz
                      obtain rfl : y = z := by omega
                      exact HMY.out
                    · exact HME.out j (by omega) z hz⟩
                  case measure => simp [intOf]; omega
              · have hkl2 : k = l0.length := by omega
                subst hkl2
                have HN := shade (HP.out.next (fun _ y hy => by
                  rw [HL0.out] at hy
                  obtain ⟨j, hj, e⟩ := List.getElem_of_mem hy
                  exact HME.out j hj y (by rw [List.getD_eq_getElem?_getD, List.getElem?_eq_getElem hj, e]; rfl)))
                clear HP HO HME
                go_wp2_with fail
                go_roundw
                case rel => exact ⟨b, f3, i + 1, by omega, by go_num, rfl, HN.out⟩
                case measure => simp [intOf]; omega
        · have hin2 : i = n := by omega
          subst hin2
          go_wp2_with fail
          go_roundw
          case rel => exact ⟨b, f2, f, rfl, HP.out⟩
          case measure =>
            have e1 := HP.out.left
            have e2 := HLE.out
            have e3 := HP.out.low
            have e4 := HP.out.dec
            rw [e1, e2]
            rcases b with _ | _
            · simp [flagV]
              omega
            · have := e4 rfl
              simp [flagV]
              omega
end Go.Proofs.YtjeflaodeafhbaaDoor
