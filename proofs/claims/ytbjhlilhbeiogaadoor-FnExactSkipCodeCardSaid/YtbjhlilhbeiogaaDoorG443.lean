/- What is reached: the marks that the search leaves. What is reached, walked. -/
import Derived.Test.YtbjhlilhbeiogaaDoorG441
namespace Go.Proofs.YtbjhlilhbeiogaaDoor
open Go.RowKit Go.Shelf
set_option linter.unusedSimpArgs false
/-- A predicate on worlds that hangs on cells below B alone. -/
def Low (B : Nat) (U : World → Prop) : Prop := ∀ W W', U W → W.heap.size ≤ W'.heap.size → (∀ r o, r < B → W.heap[r]? = some o → o.isCells = true → W'.heap[r]? = some o) → U W'
theorem Low.env {B B' T : Nat} {U : World → Prop} (h : Low B U) (hB : B ≤ B') (hT : B ≤ T) : Env U B' T :=
  ⟨fun hu hg hr => h _ _ hu hg.size (fun r o hrb ho _ => (hg.block r (Array.getElem?_eq_some_iff.1 ho).1 (fun e => by have := hr r e.symm; omega)).trans ho), fun hu hk => h _ _ hu hk.1 (fun r o hrb ho hc => hk.2 r o (by omega) ho hc)⟩
theorem Low.on {B : Nat} {U : World → Prop} {W W' : World} (h : Low B U) (hu : U W) (hg : W.grownBy W' none) : U W' :=
  h _ _ hu hg.size (fun r o _ ho _ => (hg.block r (Array.getElem?_eq_some_iff.1 ho).1 (by simp)).trans ho)
theorem cell_of_heap {W W' : World} {a : Addr} {v : Value} (h : W.cell? a = some v) (hb : ∀ o, W.heap[a.block]? = some o → o.isCells = true → W'.heap[a.block]? = some o) : W'.cell? a = some v := by
  obtain ⟨o, ho, hc⟩ := cells_of_cell h
  have e := hb o ho hc
  unfold World.cell? at h ⊢
  rw [e, ← ho]
  exact h
theorem low_code (B : Nat) (A : Option Addr) (n : Nat) (F : Nat → Ins) (hA : ∀ b off, A = some ⟨b, off, none⟩ → b < B) : Low B (fun W => Code W A n F) := fun W W' hu hs hk => by
  rcases hu with h | ⟨b, off, e, hb, hc⟩
  · exact .inl h
  · exact .inr ⟨b, off, e, Nat.lt_of_lt_of_le hb hs, fun j i hj hi => cell_of_heap (hc j i hj hi) (fun o ho hc => hk b o (hA b off e) ho hc)⟩
theorem low_wt (B : Nat) (hB : 0 < B) : Low B WT := fun W W' hu _ hk => by
  obtain ⟨t, fr, h⟩ := hu
  exact ⟨t, fr, hk _ _ hB h rfl⟩
theorem Low.and {B : Nat} {U U' : World → Prop} (h : Low B U) (h' : Low B U') : Low B (fun W => U W ∧ U' W) := fun W W' hu hs hk => ⟨h W W' hu.1 hs hk, h' W W' hu.2 hs hk⟩
/-- A variable's box, as what the iterator reads. -/
theorem env_box {B T b : Nat} {t : TypeId} {v : Value} (hb : b < B) (hT : b ≠ T) : Env (fun W => Holds5 W b t #[v]) B T :=
  ⟨fun hu hg hr => hu.grown hg (fun e => by have := hr b e.symm; omega), fun hu hk => hk.2 b _ hT hu rfl⟩
theorem Env.and {B T : Nat} {U U' : World → Prop} (h : Env U B T) (h' : Env U' B T) : Env (fun W => U W ∧ U' W) B T :=
  ⟨fun hu hg hr => ⟨h.grow hu.1 hg hr, h'.grow hu.2 hg hr⟩, fun hu hk => ⟨h.keep hu.1 hk, h'.keep hu.2 hk⟩⟩
/-- What waysFrom leaves. -/
theorem waysFrom_any (A : Option Addr) (n c kc : Nat) (lc : Array Value) (a : Int) (w : World) :
    Calls Tryd.prog 86 #[.slice A n c, .int .i64 a, .func (.func kc) #[] lc] w fun e w' => e = .returned (.func (.func 95) #[] #[.pointer (some ⟨w.heap.size + 1, 0, none⟩), .pointer (some ⟨w.heap.size + 1 + 1, 0, none⟩), .pointer (some ⟨w.heap.size, 0, none⟩)]) ∧ w' = ((w.alloc (.cells #[.slice A n c] 40)).alloc (.cells #[.int .i64 a] 3)).alloc (.cells #[.func (.func kc) #[] lc] 61) := by
  go_enter Tryd.func86, Tryd.ntmps86
  go_wp2
  go_ret
  exact ⟨rfl, rfl⟩
end Go.Proofs.YtbjhlilhbeiogaaDoor

namespace Go.Proofs.YtbjhlilhbeiogaaDoor
open Go.RowKit Go.Shelf
set_option linter.unusedSimpArgs false
attribute [local go_sem] Oper.semAt_some
/-- What a call leaves that makes a row of marks. -/
def MarkRes (k : Nat) (f : Nat → Bool) (w : World) (e : Ending) (w' : World) : Prop :=
  ∃ v, e = .returned v ∧ w'.ownsRow w.heap.size 4 1 v k (bolL k f) ∧ w.grownBy w' none
/-- The marks so far, and the box of their variable. -/
structure Rch (w W : World) (bx n : Nat) (f : Nat → Bool) : Prop where
  ldr : Ldr w W n f
  lt : w.heap.size < bx
  box : Holds5 W bx 54 #[.slice (some ⟨w.heap.size, 0, none⟩) (n + 1) (n + 1)]
theorem Rch.row {w W W' : World} {bx n : Nat} {f : Nat → Bool} {row : Option Nat} (h : Rch w W bx n f) (hg : W.grownBy W' row) (hr : ∀ j, row = some j → bx < j) : Rch w W' bx n f :=
  ⟨h.ldr.row hg (fun j e => by have := hr j e; have := h.lt; omega), h.lt, h.box.grown hg (fun e => by have := hr _ e.symm; omega)⟩
theorem Rch.mark {w W : World} {bx n : Nat} {f : Nat → Bool} (h : Rch w W bx n f) (k : Nat) : Rch w (W.setCell ⟨w.heap.size, k, none⟩ (.bool true)) bx n (fun j => if j = k then true else f j) :=
  ⟨h.ldr.mark k, h.lt, h.box.other (p := ⟨w.heap.size, k, none⟩) (by have := h.lt; show bx ≠ w.heap.size; omega) _⟩
theorem Rch.congr {w W : World} {bx n : Nat} {f g : Nat → Bool} (h : Rch w W bx n f) (hf : ∀ j, f j = g j) : Rch w W bx n g := ⟨h.ldr.congr hf, h.lt, h.box⟩
theorem keepC_set {W : World} {g k : Nat} {v : Value} : KeepC g W (W.setCell ⟨g, k, none⟩ v) := by
  refine ⟨by simp, fun r o hr ho _ => ?_⟩
  exact (Below.heap_setCell W ⟨g, k, none⟩ v r hr).trans ho
set_option maxRecDepth 100000 in
set_option maxHeartbeats 16000000 in
theorem reached_any (A : Option Addr) (n c kc : Nat) (lc : Array Value) (F : Nat → Ins) (cut : Nat → Bool) (Uc : World → Prop) (w : World)
    (hv : vcB n F = true) (hwt : WT w) (hcode : Code w A n F) (hUc : Uc w) (hLow : Low w.heap.size Uc)
    (eg : ∀ args W, (callFunc kc args).run Tryd.prog W = .ok (.enter kc args) W)
    (hcut : ∀ (x : Nat) W, Uc W → WT W → Code W A n F → x ≤ n → Calls Tryd.prog kc (#[.int .i64 (x : Int)] ++ lc) W fun e w' => e = .returned (.bool (cut x)) ∧ W.grownBy w' none) :
    Calls Tryd.prog 58 #[.slice A n c, .func (.func kc) #[] lc] w fun e w' => ∃ r : Nat → Bool, (∀ y, y ≤ n → (r y = true ↔ Way F n cut 0 y)) ∧ MarkRes (n + 1) r w e w' := by
  have hn := vcB_40 hv
  obtain ⟨i0, hi0, hz0, hz1, hz2⟩ := info_parts info4b
  obtain ⟨w1, hrun, hown1, hgr1⟩ := run_make_full (P := Tryd.prog) (w := w) w.heap.size 54 4 i0 (.bool false) 1 Tryd.underlying54 hi0 hz0 hz1 .i64 .i64 (n + 1) (by rw [hz2]; omega) (by unfold maxLen; omega) (Nat.le_refl _)
  rw [show ((n + 1 : Nat) : Int) = (n : Int) + 1 by omega] at hrun
  have hown2 : OwnB w1 w.heap.size (some ⟨w.heap.size, 0, none⟩) (n + 1) (n + 1) (fun _ => false) := by
    show w1.ownsRow _ _ _ _ _ _
    rw [← made_bools]
    have h := hown1
    rw [Nat.mul_one] at h
    exact h
  have hA : ∀ b off, A = some ⟨b, off, none⟩ → n ≠ 0 → b < w.heap.size := fun b off e h0 => by
    obtain ⟨b', off', e', hb, _⟩ := hcode.resolve_left h0
    rw [e] at e'
    injection e' with e'
    injection e' with e1 e2
    omega
  have hlc : Low w.heap.size (fun W => Code W A n F) := by
    by_cases h0 : n = 0
    · intro W W' _ _ _
      exact .inl h0
    · exact low_code _ A n F (fun b off e => hA b off e h0)
  have hl1 := hgr1.size
  have hl2 : w.heap.size < w1.heap.size := hown2.lt.2
  have L0 := shade (show Ldr w w1 n (fun _ => false) from ⟨hown2, hgr1⟩)
  have HV := shade hv; have HWT := shade hwt; have HCO := shade hcode; have HUC := shade hUc; have HLW := shade (((low_wt w.heap.size (wt_lt hwt)).and hlc).and hLow); have HEG := shade eg; have HCUT := shade hcut
  clear hown1 hown2 hgr1 hi0 hz0 hz1 hz2 hv hwt hcode hUc hLow eg hcut hA hlc
  refine (callsIn_wide (n := 6)).1 ?_
  refine callsIn_of_wp_marks Tryd.func58 rfl trivial ?_ rfl
  simp only [Tryd.ntmps58, List.size_toArray, List.length_cons, List.length_nil, Nat.reduceAdd, Nat.reduceSub, Array.replicate_succ, Array.replicate_zero, List.push_toArray, List.append_toArray, List.nil_append, List.cons_append]
  gi_upto_region 2 with (fail)
  have hR2 := shade (show Rch w (w1.alloc (.cells #[.slice (some ⟨w.heap.size, 0, none⟩) (n + 1) (n + 1)] 54)) w1.heap.size n (fun _ => false) from ⟨L0.out.on (World.grownBy_alloc _ _ none), hl2, Holds5.fresh _ _ _⟩)
  have hz2 := World.size_alloc w1 (.cells #[.slice (some ⟨w.heap.size, 0, none⟩) (n + 1) (n + 1)] 54)
  obtain ⟨W2, hW2⟩ : ∃ W2, w1.alloc (.cells #[.slice (some ⟨w.heap.size, 0, none⟩) (n + 1) (n + 1)] 54) = W2 := ⟨_, rfl⟩
  rw [hW2] at hR2 hz2 ⊢
  have HZ2 := shade hz2
  clear hW2 L0 hz2 hrun
  gi_wp2_with (fail)
  refine ⟨trivial, (callsIn_wide.2 (waysFrom_any A n c kc lc 0 W2)).mono ?_⟩
  rintro e W3 ⟨rfl, rfl⟩
  gi_wp2_with (fail)
  have e1 := ((Holds5.fresh W2 40 #[.slice A n c]).alloc (.cells #[.int .i64 0] 3)).alloc (.cells #[.func (.func kc) #[] lc] 61)
  have e2 := (Holds5.fresh (W2.alloc (.cells #[.slice A n c] 40)) 3 #[.int .i64 0]).alloc (.cells #[.func (.func kc) #[] lc] 61)
  have e3 := Holds5.fresh ((W2.alloc (.cells #[.slice A n c] 40)).alloc (.cells #[.int .i64 0] 3)) 61 #[.func (.func kc) #[] lc]
  rw [World.size_alloc] at e2
  rw [World.size_alloc, World.size_alloc] at e3
  have hg3 : W2.grownBy (((W2.alloc (.cells #[.slice A n c] 40)).alloc (.cells #[.int .i64 0] 3)).alloc (.cells #[.func (.func kc) #[] lc] 61)) none := grown_same (grown_same (World.grownBy_alloc _ _ none) (World.grownBy_alloc _ _ none)) (World.grownBy_alloc _ _ none)
  have hz3 : (((W2.alloc (.cells #[.slice A n c] 40)).alloc (.cells #[.int .i64 0] 3)).alloc (.cells #[.func (.func kc) #[] lc] 61)).heap.size = W2.heap.size + 3 := by simp
  obtain ⟨W3, hW3⟩ : ∃ W3, ((W2.alloc (.cells #[.slice A n c] 40)).alloc (.cells #[.int .i64 0] 3)).alloc (.cells #[.func (.func kc) #[] lc] 61) = W3 := ⟨_, rfl⟩
  rw [hW3] at e1 e2 e3 hg3 hz3 ⊢
  clear hW3
  have hR3 := shade (hR2.out.row hg3 (fun j e => by cases e))
  have hu3 : ((WT W3 ∧ Code W3 A n F) ∧ Uc W3) := HLW.out.on ⟨⟨HWT.out, HCO.out⟩, HUC.out⟩ hR3.out.ldr.low
  have HZ3 := shade hz3
  have hzz := HZ2.out
  have hG := ways_gives 5 (by omega) (W2.heap.size + 1) (W2.heap.size + 1 + 1) W2.heap.size w.heap.size 0 A n c kc lc F cut
    (fun W => ((WT W ∧ Code W A n F) ∧ Uc W) ∧ (Holds5 W W2.heap.size 40 #[.slice A n c] ∧ Holds5 W (W2.heap.size + 1) 3 #[.int .i64 0] ∧ Holds5 W (W2.heap.size + 1 + 1) 61 #[.func (.func kc) #[] lc])) W3
    HV.out (Nat.zero_le _) ⟨hu3, e1, e2, e3⟩ ((HLW.out.env (by omega) (Nat.le_refl _)).and ((env_box (by omega) (by omega)).and ((env_box (by omega) (by omega)).and (env_box (by omega) (by omega))))) (by omega) HEG.out
    (fun W h => (h.2.2.1.look 0).trans rfl) (fun W h => (h.2.2.2.look 0).trans rfl) (fun W h => (h.2.1.look 0).trans rfl) (fun W h => h.1.1.1) (fun W h => h.1.1.2) (fun x W h hx => HCUT.out x W h.1.2 h.1.1.1 h.1.1.2 hx)
  have HG := shade hG
  clear e1 e2 e3 hg3 hz3 hzz hR2 hu3 hG HEG HCUT HLW HUC HCO HWT
  refine range_cells (n := 6) (T := w.heap.size) (by omega) (gf := 95) (lb := #[.pointer (some ⟨W2.heap.size + 1, 0, none⟩), .pointer (some ⟨W2.heap.size + 1 + 1, 0, none⟩), .pointer (some ⟨W2.heap.size, 0, none⟩)]) rfl (enters_of Tryd.func95 (by kernel_rfl) rfl) HG.out rfl
    (fun pre W => Rch w W w1.heap.size n (fun j => decide (j ∈ pre))) (fun _ _ _ => False)
    (fun s X X' row hs hg hr => hs.row hg (fun j e => by have := hr j e; have := HZ3.out; have := HZ2.out; omega))
    (fun _ _ _ _ _ hs _ _ => hs)
    (hR3.out.congr (fun j => by simp))
    (fun x => { tmps := #[.slice A n c, .func (.func kc) #[] lc, undef, undef, .slice none 0 0, .pointer (some ⟨w1.heap.size, 0, none⟩), .int .i64 (x : Int), .slice A n c, .int .i64 n, .int .i64 ((n : Int) + 1), .slice (some ⟨w.heap.size, 0, none⟩) (n + 1) (n + 1), .slice A n c, .func (.func kc) #[] lc, .func (.func 95) #[] #[.pointer (some ⟨W2.heap.size + 1, 0, none⟩), .pointer (some ⟨W2.heap.size + 1 + 1, 0, none⟩), .pointer (some ⟨W2.heap.size, 0, none⟩)], .int .i64 (x : Int), undef, undef, undef, undef], defers := [] }) ?assign ?body ?done ?stop
  case assign =>
    intro l x W K hK
    gi_wp2_with (fail)
    exact hK
  case body =>
    intro l pre x W hr hlen hxn
    have HR := shade hr
    clear hr
    have q5 := HR.out.box.look 0
    simp at q5
    have s0 := HR.out.ldr.cell x hxn
    have s1 := HR.out.ldr.free x
    have hx41 : x ≤ 40 := by omega
    gi_wp2_with (fail)
    refine ⟨KeepsOthers.setCell _ _ _, keepC_set, (HR.out.mark x).congr (fun j => ?_)⟩
    by_cases e : j = x
    · rw [if_pos e, e]
      simp
    · rw [if_neg e]
      simp [e]
  case done =>
    intro D ys W hD hS hr hK
    have HR := shade hr
    have HS := shade hS
    have q5 := hr.box.look 0
    simp at q5
    clear hr hS
    gi_wp2_with (fail)
    refine ⟨by simp, .inl ⟨_, _, rfl, run_takeDeferred hK, ?_⟩⟩
    have hR5 := HR.out.row (grownBy_putObj' W D (.deferred none)) (fun j e => by injection e with e; have := HZ3.out; have := HZ2.out; omega)
    exact ⟨_, results_tmp rfl _ _ _, fun j => decide (j ∈ ys), fun y hy => by rw [decide_eq_true_eq]; exact HS.out y, .slice (some ⟨w.heap.size, 0, none⟩) (n + 1) (n + 1), rfl, hR5.ldr.own, hR5.ldr.low⟩
  case stop =>
    rintro D cc pre W hD _ h _
    exact h.elim
end Go.Proofs.YtbjhlilhbeiogaaDoor
