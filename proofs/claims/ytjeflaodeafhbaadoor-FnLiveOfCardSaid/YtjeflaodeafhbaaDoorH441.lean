/- The iterator of ways gives just what is on a way. The iterator of ways, walked. -/
import Derived.Test.YtjeflaodeafhbaaDoorH400
import Derived.Test.YtjeflaodeafhbaaDoorW430
import Derived.Sort.CutIn
import Derived.RangeFuncBox
import Derived.WalkSmall
namespace Go.Proofs.YtjeflaodeafhbaaDoor
open Go.RowKit Go.Shelf
set_option linter.unusedSimpArgs false
attribute [local go_sem] Oper.semAt_some
/-- A predicate on worlds that abides what becomes of blocks from B on, and of block T. -/
structure Env (U : World → Prop) (B T : Nat) : Prop where
  grow : ∀ {W W' : World} {row : Option Nat}, U W → W.grownBy W' row → (∀ r, row = some r → B ≤ r) → U W'
  keep : ∀ {W W' : World}, U W → KeepC T W W' → U W'
theorem own_keep {W W' : World} {T B : Nat} {e : TypeId} {z n : Nat} {v : Value} {xs : List Value} (h : W.ownsRow B e z v n xs) (hk : KeepC T W W') (hT : T < B) : W'.ownsRow B e z v n xs := by
  refine ⟨h.1, ?_⟩
  rcases h.2 with h' | ⟨g, cap, cur, e1, hb, hg, rest⟩
  · exact .inl h'
  · exact .inr ⟨g, cap, cur, e1, hb, hk.2 g _ (by omega) hg rfl, rest⟩
theorem OwnAt_cap {W : World} {B g n cap z : Nat} {e : TypeId} {xs : List Value} (h : W.ownsRow B e z (.slice (some ⟨g, 0, none⟩) n cap) n xs) : n ≤ cap ∧ cap ≤ maxLen ∧ B ≤ g := by
  rcases h.2 with ⟨h', _⟩ | ⟨g', cap', cur, h', hb, hg, hnc, hcm, _⟩
  · simp at h'
  · simp only [Value.slice.injEq, Option.some.injEq, Addr.mk.injEq, and_true, true_and] at h'
    obtain ⟨rfl, rfl⟩ := h'
    exact ⟨hnc, hcm, hb⟩
/-- What is met, in its block. -/
abbrev Met (W : World) (g : Nat) (M : Nat → Bool) : Prop := Holds5 W g 120 (bolL 41 M).toArray
theorem Met.cell {W : World} {g : Nat} {M : Nat → Bool} (h : Met W g M) (x : Nat) (hx : x < 41) : W.cell? ⟨g, x, none⟩ = some (.bool (M x)) := by
  rw [Holds5.look h x]
  simpa using bolL_get 41 M x hx
theorem Met.set {W : World} {g : Nat} {M : Nat → Bool} (h : Met W g M) (y : Nat) : Met (W.setCell ⟨g, y, none⟩ (.bool true)) g (fun x => if x = y then true else M x) := by
  have h1 := Holds5.put h y (.bool true)
  have e : ((bolL 41 M).toArray.setIfInBounds y (.bool true)) = (bolL 41 (fun x => if x = y then true else M x)).toArray := by
    rw [List.setIfInBounds_toArray, bolL_set 41 M (fun x => if x = y then true else M x) y true (by simp) (fun j _ hne => by rw [if_neg hne])]
  rw [e] at h1
  exact h1
theorem Met.keep {W W' : World} {T g : Nat} {M : Nat → Bool} (h : Met W g M) (hk : KeepC T W W') (hT : T ≠ g) : Met W' g M := hk.2 g _ (fun e => hT e.symm) h rfl
/-- What a block of marks tells. -/
def metOf (W : World) (g x : Nat) : Bool := match W.cell? ⟨g, x, none⟩ with
  | some (.bool b) => b
  | _ => false
theorem metOf_eq {W : World} {g : Nat} {M : Nat → Bool} (h : Met W g M) (x : Nat) (hx : x < 41) : metOf W g x = M x := by
  unfold metOf
  rw [h.cell x hx]
/-- How long a slice is. -/
def lenV : Value → Nat
  | .slice _ n _ => n
  | _ => 0
/-- A list of indices as cells. -/
def valN (l : List Nat) : List Value := l.map fun (x : Nat) => Value.int .i64 (x : Int)
theorem valN_len (l : List Nat) : (valN l).length = l.length := by simp [valN]
theorem valN_snoc (l : List Nat) (x : Nat) : valN l ++ [.int .i64 (x : Int)] = valN (l ++ [x]) := by
  unfold valN
  rw [List.map_append]
  rfl
/-- The numbers from the k-th on can be read, in a block above g. -/
def Rest (W : World) (g : Nat) (A0 : Option Addr) (l0 : List Int) (k : Nat) : Prop :=
  ∀ j, k ≤ j → j < l0.length → ∃ bl, A0 = some ⟨bl, 0, none⟩ ∧ g < bl ∧ W.cell? ⟨bl, j, none⟩ = some (.int .i64 (l0.getD j 0))
theorem Rest.first {W : World} {g c B : Nat} {A0 : Option Addr} {l0 : List Int} (h : W.ownsRow B 3 1 (.slice A0 l0.length c) l0.length (valI l0)) (hB : g < B) : Rest W g A0 l0 0 := by
  intro j _ hj
  rcases h.2 with ⟨_, h0⟩ | ⟨g', cap', cur, h', hb, _⟩
  · omega
  · have e := h'
    simp only [Value.slice.injEq, true_and] at e
    obtain ⟨rfl, rfl⟩ := e
    refine ⟨g', rfl, by omega, ?_⟩
    rw [World.ownsRow.cellAt h j (by omega)]
    simp [valI, hj]
theorem Rest.next {W : World} {g k : Nat} {A0 : Option Addr} {l0 : List Int} (h : Rest W g A0 l0 k) : Rest W g A0 l0 (k + 1) := fun j hj hl => h j (by omega) hl
theorem Rest.grown {W W' : World} {g k : Nat} {A0 : Option Addr} {l0 : List Int} {row : Option Nat} (h : Rest W g A0 l0 k) (hg : W.grownBy W' row) (hr : k < l0.length → ∀ bl, A0 = some ⟨bl, 0, none⟩ → g < bl → some bl ≠ row) : Rest W' g A0 l0 k := fun j hj hl => by
  obtain ⟨bl, e, hb, hc⟩ := h j hj hl
  exact ⟨bl, e, hb, hg.cell hc (hr (by omega) bl e hb)⟩
/-- A search under way, in memory. -/
structure Wy (F : Nat → Ins) (n : Nat) (cut : Nat → Bool) (a : Nat) (J : List Nat → World → Prop) (U : World → Prop) (g : Nat) (cl pre st : List Nat) (M : Nat → Bool) (v : Value) (W : World) : Prop where
  dfs : Dfs F n cut a cl pre st M
  met : Met W g M
  own : W.ownsRow (g + 1) 3 1 v st.length (valN st)
  j : J pre W
  u : U W
  lt : g < W.heap.size
section
variable {F : Nat → Ins} {n : Nat} {cut : Nat → Bool} {a : Nat} {J : List Nat → World → Prop} {U : World → Prop} {g T B B' : Nat} {cl pre st : List Nat} {M : Nat → Bool} {v : Value} {W W' : World}
theorem Wy.on (h : Wy F n cut a J U g cl pre st M v W) (hJ : Stands B J) (hE : Env U B' T) (hg : W.grownBy W' none) : Wy F n cut a J U g cl pre st M v W' :=
  ⟨h.dfs, h.met.grown hg (by intro e; cases e), World.ownsRow.kept h.own hg (Classical.em _), hJ _ _ _ _ h.j hg (by intro r e; cases e), hE.grow h.u hg (by intro r e; cases e), Nat.lt_of_lt_of_le h.lt hg.size⟩
theorem Wy.mark (h : Wy F n cut a J U g cl pre st M v W) (hJ : Stands B J) (hE : Env U B' T) (hB : B ≤ g) (hB' : B' ≤ g) (y : Nat) (M' : Nat → Bool) (st' : List Nat) (hd : Dfs F n cut a cl pre st' M') :
    Met (W.setCell ⟨g, y, none⟩ (.bool true)) g (fun x => if x = y then true else M x) ∧ (W.setCell ⟨g, y, none⟩ (.bool true)).ownsRow (g + 1) 3 1 v st.length (valN st) ∧ J pre (W.setCell ⟨g, y, none⟩ (.bool true)) ∧ U (W.setCell ⟨g, y, none⟩ (.bool true)) ∧ Dfs F n cut a cl pre st' M' ∧ g < (W.setCell ⟨g, y, none⟩ (.bool true)).heap.size := by
  have hg := grown_set (w := W) g y (.bool true)
  have hr : ∀ r, some g = some r → B ≤ r := fun r e => by
    injection e with e
    omega
  have hr' : ∀ r, some g = some r → B' ≤ r := fun r e => by
    injection e with e
    omega
  refine ⟨h.met.set y, World.ownsRow.kept h.own hg (.inr (fun e => ?_)), hJ _ _ _ _ h.j hg hr, hE.grow h.u hg hr', hd, by simp; exact h.lt⟩
  have := (World.ownsRow.lt h.own g e).1
  omega
theorem Wy.left (h : Wy F n cut a J U g cl pre st M v W) (hn : n ≤ 40) : lenV v + unm (metOf W g) (n + 1) + pre.length = n + 1 := by
  have h1 := h.dfs.cnt
  have h2 : unm (metOf W g) (n + 1) = unm M (n + 1) := unm_congr _ _ _ (fun x hx => metOf_eq h.met x (by omega))
  obtain ⟨A, c, e, _⟩ := ownsRow_slice h.own
  have h3 : lenV v = st.length := by rw [e]; rfl
  omega
end
end Go.Proofs.YtjeflaodeafhbaaDoor

namespace Go.Proofs.YtjeflaodeafhbaaDoor
open Go.RowKit Go.Shelf
set_option linter.unusedSimpArgs false
attribute [local go_sem] Oper.semAt_some
set_option maxRecDepth 100000 in
set_option maxHeartbeats 16000000 in
theorem ways_gives (m : Nat) (hm : 3 ≤ m) (b1 b2 b3 T a : Nat) (A : Option Addr) (n c kc : Nat) (lc : Array Value) (F : Nat → Ins) (cut : Nat → Bool) (U : World → Prop) (w : World)
    (hv : vcB n F = true) (ha : a ≤ n) (hU : U w) (hE : Env U w.heap.size T) (hT : T < w.heap.size)
    (eg : ∀ args W, (callFunc kc args).run Tryd.prog W = .ok (.enter kc args) W)
    (hc1 : ∀ W, U W → W.cell? ⟨b1, 0, none⟩ = some (.int .i64 (a : Int))) (hc2 : ∀ W, U W → W.cell? ⟨b2, 0, none⟩ = some (.func (.func kc) #[] lc)) (hc3 : ∀ W, U W → W.cell? ⟨b3, 0, none⟩ = some (.slice A n c))
    (hwt : ∀ W, U W → WT W) (hcode : ∀ W, U W → Code W A n F)
    (hcut : ∀ (x : Nat) W, U W → x ≤ n → Calls Tryd.prog kc (#[.int .i64 (x : Int)] ++ lc) W fun e w' => e = .returned (.bool (cut x)) ∧ W.grownBy w' none) :
    Gives m Tryd.prog 115 #[.pointer (some ⟨b1, 0, none⟩), .pointer (some ⟨b2, 0, none⟩), .pointer (some ⟨b3, 0, none⟩)] T (fun x => x ≤ n) (fun xs => ∀ y, y ∈ xs ↔ Way F n cut a y) (fun pre => ∀ y, y ∈ pre → y ≤ n ∧ Way F n cut a y) (n + 1) w := by
  intro l J Jx W hgr hJ hJx hY h0
  have hn := vcB_40 hv
  have hUW : U W := hE.grow hU hgr (fun r e => by cases e)
  have hWz := hgr.size
  have HJ := shade hJ; have HE := shade hE; have HY := shade hY; have H1 := shade hc1; have H2 := shade hc2; have H3 := shade hc3; have HWT := shade hwt; have HCO := shade hcode; have HCUT := shade hcut; have HV := shade hv
  have HU0 := shade hUW
  have HEG := shade eg
  clear hJ hE hY hc1 hc2 hc3 hwt hcode hcut hU hUW hJx hv eg
  refine callsIn_of_wp Tryd.func115 rfl trivial ?_ rfl
  simp only [Tryd.ntmps115, List.size_toArray, List.length_cons, List.length_nil, Nat.reduceAdd, Nat.reduceSub, Array.replicate_succ, Array.replicate_zero, List.push_toArray, List.append_toArray, List.nil_append, List.cons_append]
  gi_upto_region 1 with (fail)
  have hM0 : Met (W.alloc (.cells #[.bool false, .bool false, .bool false, .bool false, .bool false, .bool false, .bool false, .bool false, .bool false, .bool false, .bool false, .bool false, .bool false, .bool false, .bool false, .bool false, .bool false, .bool false, .bool false, .bool false, .bool false, .bool false, .bool false, .bool false, .bool false, .bool false, .bool false, .bool false, .bool false, .bool false, .bool false, .bool false, .bool false, .bool false, .bool false, .bool false, .bool false, .bool false, .bool false, .bool false, .bool false] 120)) W.heap.size (fun _ => false) := Holds5.fresh W 120 #[.bool false, .bool false, .bool false, .bool false, .bool false, .bool false, .bool false, .bool false, .bool false, .bool false, .bool false, .bool false, .bool false, .bool false, .bool false, .bool false, .bool false, .bool false, .bool false, .bool false, .bool false, .bool false, .bool false, .bool false, .bool false, .bool false, .bool false, .bool false, .bool false, .bool false, .bool false, .bool false, .bool false, .bool false, .bool false, .bool false, .bool false, .bool false, .bool false, .bool false, .bool false]
  have hga := World.grownBy_alloc W (.cells #[.bool false, .bool false, .bool false, .bool false, .bool false, .bool false, .bool false, .bool false, .bool false, .bool false, .bool false, .bool false, .bool false, .bool false, .bool false, .bool false, .bool false, .bool false, .bool false, .bool false, .bool false, .bool false, .bool false, .bool false, .bool false, .bool false, .bool false, .bool false, .bool false, .bool false, .bool false, .bool false, .bool false, .bool false, .bool false, .bool false, .bool false, .bool false, .bool false, .bool false, .bool false] 120) none
  obtain ⟨W1, hW1⟩ : ∃ W1, W.alloc (.cells #[.bool false, .bool false, .bool false, .bool false, .bool false, .bool false, .bool false, .bool false, .bool false, .bool false, .bool false, .bool false, .bool false, .bool false, .bool false, .bool false, .bool false, .bool false, .bool false, .bool false, .bool false, .bool false, .bool false, .bool false, .bool false, .bool false, .bool false, .bool false, .bool false, .bool false, .bool false, .bool false, .bool false, .bool false, .bool false, .bool false, .bool false, .bool false, .bool false, .bool false, .bool false] 120) = W1 := ⟨_, rfl⟩
  have hz1 : W1.heap.size = W.heap.size + 1 := by rw [← hW1, World.size_alloc]
  rw [hW1] at hM0 hga ⊢
  clear hW1
  have hU1 : U W1 := HE.out.grow HU0.out hga (fun r e => by cases e)
  have hJ1 : J [] W1 := HJ.out _ _ _ _ h0 hga (fun r e => by cases e)
  have q1 := H1.out W1 hU1
  have s0 := hM0.cell a (by omega)
  have s1 := hM0.free a
  have HM0 := shade hM0
  have HU1 := shade hU1
  have HJ1 := shade hJ1
  have HZ1 := shade hz1
  clear hM0 hga hU1 hJ1 hz1 h0
  gi_upto_region 2 with (fail)
  have hM2 : Met (W1.setCell ⟨W.heap.size, a, none⟩ (.bool true)) W.heap.size (fun x => x == a) := by
    have h := HM0.out.set a
    have e : (fun x => if x = a then true else (fun _ => false) x) = (fun x => x == a) := by
      funext x
      by_cases h : x = a
      · simp [h]
      · simp [h]
    rw [e] at h
    exact h
  have hgs := grown_set (w := W1) W.heap.size a (.bool true)
  have hU2 : U (W1.setCell ⟨W.heap.size, a, none⟩ (.bool true)) := HE.out.grow HU1.out hgs (fun r e => by injection e with e; omega)
  have hJ2 : J [] (W1.setCell ⟨W.heap.size, a, none⟩ (.bool true)) := HJ.out _ _ _ _ HJ1.out hgs (fun r e => by injection e with e; omega)
  have hz2 : (W1.setCell ⟨W.heap.size, a, none⟩ (.bool true)).heap.size = W.heap.size + 1 := by
    have := HZ1.out
    simp
    omega
  obtain ⟨W2, hW2⟩ : ∃ W2, W1.setCell ⟨W.heap.size, a, none⟩ (.bool true) = W2 := ⟨_, rfl⟩
  rw [hW2] at hM2 hU2 hJ2 hz2 ⊢
  clear hW2 hgs HM0 HU1 HJ1 HZ1 s0 s1 q1
  have q1 := H1.out W2 hU2
  have HS2 := shade (show Wy F n cut a J U W.heap.size [] [] [a] (fun x => x == a) (.slice (some ⟨W2.heap.size, 0, none⟩) 1 1) (W2.alloc (.cells #[.int .i64 (a : Int)] 3)) from
    ⟨Dfs.first ha, hM2.alloc _, World.ownsRow_lit W2 #[.int .i64 (a : Int)] 1 (by omega) (by decide) rfl, HJ.out _ _ _ _ hJ2 (World.grownBy_alloc _ _ none) (fun r e => by cases e), HE.out.grow hU2 (World.grownBy_alloc _ _ none) (fun r e => by cases e), by simp; omega⟩)
  clear hM2 hU2 hJ2 hz2
  gi_wp2_with (fail)
  gi_loopw [6] (fun v wr => ∃ (pre st : List Nat) (M : Nat → Bool), Wy F n cut a J U W.heap.size pre pre st M v wr) (fun v wr => lenV v + unm (metOf wr W.heap.size) (n + 1))
  case atStart => exact ⟨[], [a], _, HS2.out⟩
  case round =>
    clear HS2
    obtain ⟨pre, st, M, hs⟩ := hrel
    rcases List.eq_nil_or_concat st with rfl | ⟨st, x, rfl⟩
    · obtain ⟨A4, c4, rfl, -⟩ := ownsRow_slice hs.own
      have HS := shade hs
      clear hs
      gi_wp2_with (fail)
      go_end0
      exact ⟨⟨_, rfl⟩, .inl ⟨pre, HS.out.dfs.done, HS.out.j⟩⟩
    · rw [List.concat_eq_append] at hs
      have hown := hs.own
      rw [List.length_append, List.length_singleton] at hown
      obtain ⟨r, c4, rfl⟩ := ownsRow_succ hown
      have q0 := World.ownsRow.cellAt hown st.length (by omega)
      have e0 : (valN (st ++ [x]))[st.length]? = some (.int .i64 (x : Int)) := by simp [valN]
      rw [e0] at q0
      have hpop : wr.ownsRow (W.heap.size + 1) 3 1 (.slice (some ⟨r, 0, none⟩) st.length c4) st.length (valN st) := ownsRow_pop (last := [.int .i64 (x : Int)]) (by rw [valN_len]; omega) (by rw [valN_snoc]; exact hown)
      have hcap := OwnAt_cap hown
      have hdf := hs.dfs.pop
      have hfew := hdf.few
      rw [List.length_append, List.length_singleton] at hfew
      have hmx := hs.dfs.way x ((hs.dfs.mem x).2 (.inr (by simp)))
      obtain ⟨fn, tmps, assign, body, hy, hR⟩ := HY.out pre x wr hs.j (by omega) hmx.1
      have HL0 := shade (hs.left hn)
      have HS := shade hs
      have HPOP := shade hpop
      have HDF := shade hdf
      have HMX := shade hmx
      have hx41 : x ≤ n := hmx.1
      clear hs hown hpop hdf hmx e0
      gi_wp2_with (fail)
      refine ⟨fun _ => (by omega), hR.mono ?_⟩
      rintro e W3 (⟨rfl, hJ3, hk3⟩ | ⟨rfl, hJx3⟩)
      · have HS3 := shade (show Wy F n cut a J U W.heap.size pre (pre ++ [x]) st M (.slice (some ⟨r, 0, none⟩) st.length c4) W3 from
          ⟨HDF.out, HS.out.met.keep hk3 (by omega), own_keep HPOP.out hk3 (by omega), hJ3, HE.out.keep HS.out.u hk3, Nat.lt_of_lt_of_le HS.out.lt hk3.1⟩)
        have q2 := H2.out W3 HS3.out.u
        clear hJ3 hk3 HS HPOP HDF hR hy q0
        have eg := HEG.out
        have HC := shade ((callsIn_wide (n := m - 1)).2 (HCUT.out x W3 HS3.out.u hx41))
        gi_wp2_with (fail)
        refine ⟨trivial, fun _ => (by omega), HC.out.mono ?_⟩
        rintro e W4 ⟨rfl, hg4⟩
        have HS4 := shade (HS3.out.on HJ.out HE.out hg4)
        clear hg4 HS3 HC q2 eg
        rcases hcx : cut x with _ | _
        · have HCX := shade hcx
          clear hcx
          have q3 := H3.out W4 HS4.out.u
          obtain ⟨l0, hl2, hl3, hl4, hnx⟩ : ∃ l0 : List Int, l0.length ≤ 2 ∧ (∀ z, z ∈ l0 → ∃ y : Nat, z = y ∧ y ≤ n ∧ Way F n cut a y) ∧ (x < n → nxI (F x) x = l0) ∧ CallsIn Fence.wide (m - 1) Tryd.prog 90 #[.slice A n c, .int .i64 (x : Int)] W4 (IntRes l0 W4) := by
            by_cases hxn : x < n
            · obtain ⟨cb, co, rfl, _⟩ := (HCO.out W4 HS4.out.u).resolve_left (by omega)
              refine ⟨nxI (F x) x, nxI_le _ _, fun z hz => ?_, fun _ => rfl, callsIn_wide.2 (pNextOf_at cb co n c x F W4 (HWT.out W4 HS4.out.u) hn hxn (HCO.out W4 HS4.out.u))⟩
              obtain ⟨y, rfl, hy⟩ := nx_in HV.out hxn hz
              exact ⟨y, rfl, hy, HMX.out.2.step hxn HCX.out hz⟩
            · obtain rfl : x = n := by omega
              exact ⟨[], by simp, (fun z hz => absurd hz (by simp)), (fun h => by omega), callsIn_wide.2 (pNextOf_end _ _ _ _)⟩
          have HNX := shade hnx
          have HL3 := shade hl3
          have HL4 := shade hl4
          clear hnx hl3 hl4
          gi_wp2_with (fail)
          refine ⟨trivial, fun _ => (by omega), HNX.out.mono ?_⟩
          rintro e W5 ⟨v0, rfl, ho, hg5⟩
          obtain ⟨A0, c0, rfl, hA0⟩ := ownsRow_slice ho
          have hr4 := (World.ownsRow.lt HS4.out.own r rfl).2
          have HRS := shade (Rest.first ho HS4.out.lt)
          have HS5 := shade (HS4.out.on HJ.out HE.out hg5)
          have HNE := shade (show ∀ bl, A0 = some ⟨bl, 0, none⟩ → r ≠ bl from fun bl e e' => by
            have := (hA0 bl 0 e).1
            omega)
          clear ho hg5 hA0 HS4 HNX q3
          obtain ⟨wo, rfl⟩ : ∃ wo : World, wo = wr := ⟨_, rfl⟩
          gi_wp2_with (fail)
          gi_loopw [6, 39] (fun v q w2 => ∃ (k : Nat) (st : List Nat) (M : Nat → Bool), k ≤ l0.length ∧ q = .int .i64 (k : Int) ∧ Wy F n cut a J U W.heap.size pre (pre ++ [x]) st M v w2 ∧ Rest w2 W.heap.size A0 l0 k ∧ (k = 0 → ∀ bl, A0 = some ⟨bl, 0, none⟩ → v.ownBlock ≠ some bl) ∧ (∀ j, j < k → ∀ y : Nat, l0.getD j 0 = (y : Int) → M y = true)) (fun _ q _ => l0.length - (intOf q).toNat)
          case atStart => exact ⟨0, st, M, Nat.zero_le _, rfl, HS5.out, HRS.out, fun _ bl e e' => by injection e' with e'; exact HNE.out bl e e', fun j hj => absurd hj (Nat.not_lt_zero j)⟩
          case round =>
            clear HS5 HRS HNE
            obtain ⟨k, st, M, hk, rfl, hs, hrest, hne, hmet⟩ := hrel
            obtain ⟨A4, c5, rfl, -⟩ := ownsRow_slice hs.own
            have HS := shade hs
            have HRS := shade hrest
            have HNE := shade hne
            have HME := shade hmet
            clear hs hrest hne hmet
            by_cases hkl : k < l0.length
            · obtain ⟨bl, rfl, hgb, qc⟩ := HRS.out k (Nat.le_refl _) hkl
              obtain ⟨y, hy, hyn, hyw⟩ := HL3.out (l0.getD k 0) (by rw [List.getD_eq_getElem?_getD, List.getElem?_eq_getElem hkl]; exact List.getElem_mem _)
              rw [hy] at qc
              have HY2 := shade hy
              have HYW := shade hyw
              clear hy hyw
              have s0 := HS.out.met.cell y (by omega)
              rcases hmy : M y with _ | _
              · have HMY := shade hmy
                rw [hmy] at s0
                clear hmy
                have s1 := HS.out.met.free y
                gi_upto_region 13 with (fail)
                obtain ⟨m1, m2, m3, m4, m5, m6⟩ := HS.out.mark HJ.out HE.out (Nat.le_refl _) hWz y _ _ (HS.out.dfs.push HMY.out hyn HYW.out)
                have hgs := grown_set (w := wr) W.heap.size y (.bool true)
                have hr6 := HRS.out.next.grown hgs (fun _ bl _ hb e => by injection e with e; omega)
                obtain ⟨W6, hW6⟩ : ∃ W6, wr.setCell ⟨W.heap.size, y, none⟩ (.bool true) = W6 := ⟨_, rfl⟩
                rw [hW6] at m1 m2 m3 m4 m6 hr6 ⊢
                have HM1 := shade m1; have HM2 := shade m2; have HM3 := shade m3; have HM4 := shade m4; have HM5 := shade m5; have HR6 := shade hr6
                have hfew := HS.out.dfs.few
                have hst : st.length ≤ 41 := by omega
                clear hW6 hgs hr6 m1 m2 m3 m4 m5 s0 s1 qc
                obtain ⟨i0, hi0, hz0, hz1, hz2⟩ := info_parts info3
                gi_wp2_with (first | (gi_at_builtin; refine wpListIn_append_own _ rfl _ _ 25 rfl (W.heap.size + 1) 3 i0 (.int .i64 0) 1 8 Tryd.underlying25 hi0 hz0 hz1 hz2 rfl (by decide) _ _ _ rfl (World.ownsRow.alloc HM2.out _) ⟨W6.heap.size, 0, none⟩ 1 1 [.int .i64 (y : Int)] rfl rfl (int_new _ _ _) (int_one _) (by unfold maxLen; omega) (by omega) (by simp; omega) ?_))
                intro v' w8 hown8 hgr8 hnil8
                rw [valN_snoc] at hown8
                have hga := World.grownBy_alloc W6 (.cells #[.int .i64 (y : Int)] 3) none
                have hrow : ∀ j, (Value.slice A4 st.length c5).ownBlock = some j → W.heap.size + 1 ≤ j := fun j e => (World.ownsRow.lt HM2.out j e).1
                have HS8 := shade (show Wy F n cut a J U W.heap.size pre (pre ++ [x]) (st ++ [y]) (fun z => if z = y then true else M z) v' w8 from
                  ⟨HM5.out, (HM1.out.alloc _).grown hgr8 (fun e => by have := hrow _ e.symm; omega), by rw [List.length_append, List.length_singleton]; exact hown8, HJ.out _ _ _ _ (HJ.out _ _ _ _ HM3.out hga (fun r e => by cases e)) hgr8 (fun j e => by have := hrow j e; omega), HE.out.grow (HE.out.grow HM4.out hga (fun r e => by cases e)) hgr8 (fun j e => by have := hrow j e; omega), by have := hgr8.size; simp at this; omega⟩)
                have HR8 := shade ((HR6.out.grown hga (by intro _ _ _ _ e; cases e)).grown hgr8 (fun hk2 bl e hb e2 => by
                  have hk0 : k = 0 := by omega
                  exact HNE.out hk0 bl e e2.symm))
                clear hown8 hgr8 hnil8 hga hrow hi0 hz0 hz1 hz2
                gi_wp2_with (fail)
                go_roundw
                case rel => exact ⟨k + 1, st ++ [y], _, by omega, by go_num, HS8.out, HR8.out, fun h => by omega, fun j hj z hz => by
                  by_cases e : j = k
                  · subst e
                    rw [HY2.out] at hz
                    obtain rfl : y = z := by omega
                    exact if_pos rfl
                  · have h1 := HME.out j (by omega) z hz
                    show (if z = y then true else M z) = true
                    rw [h1]
                    simp⟩
                case measure => simp [intOf]; omega
              · have HMY := shade hmy
                rw [hmy] at s0
                clear hmy
                gi_wp2_with (fail)
                go_roundw
                case rel => exact ⟨k + 1, st, M, by omega, by go_num, HS.out, HRS.out.next, fun h => by omega, fun j hj z hz => by
                  by_cases e : j = k
                  · subst e
                    rw [HY2.out] at hz
                    obtain rfl : y = z := by omega
                    exact HMY.out
                  · exact HME.out j (by omega) z hz⟩
                case measure => simp [intOf]; omega
            · have hkl2 : k = l0.length := by omega
              subst hkl2
              gi_wp2_with (fail)
              have HS6 := shade (show Wy F n cut a J U W.heap.size (pre ++ [x]) (pre ++ [x]) st M (.slice A4 st.length c5) wr from
                ⟨HS.out.dfs.close (fun hxn _ y hy => by
                  rw [HL4.out hxn] at hy
                  obtain ⟨j, hj, e⟩ := List.getElem_of_mem hy
                  exact HME.out j hj y (by rw [List.getD_eq_getElem?_getD, List.getElem?_eq_getElem hj, e]; rfl)), HS.out.met, HS.out.own, HS.out.j, HS.out.u, HS.out.lt⟩)
              go_roundw
              case rel => exact ⟨pre ++ [x], st, M, HS6.out⟩
              case measure =>
                have e1 := HS6.out.left hn
                have e2 := HL0.out
                rw [List.length_append, List.length_singleton] at e1
                simp [lenV] at e1 e2 ⊢
                omega
        · have HCX := shade hcx
          clear hcx
          gi_wp2_with (fail)
          have HS5 := shade (show Wy F n cut a J U W.heap.size (pre ++ [x]) (pre ++ [x]) st M (.slice (some ⟨r, 0, none⟩) st.length c4) W4 from
            ⟨HS4.out.dfs.close (fun _ h => by rw [HCX.out] at h; cases h), HS4.out.met, HS4.out.own, HS4.out.j, HS4.out.u, HS4.out.lt⟩)
          go_roundw
          case rel => exact ⟨pre ++ [x], st, M, HS5.out⟩
          case measure =>
            have e1 := HS5.out.left hn
            have e2 := HL0.out
            rw [List.length_append, List.length_singleton] at e1
            simp [lenV] at e1 e2 ⊢
            omega
      · gi_wp2_with (fail)
        refine bodyPost_ret (results_none rfl _ _ _) rfl ?_
        refine ⟨⟨_, rfl⟩, .inr ⟨pre ++ [x], fun y hy => ?_, hJx3⟩⟩
        exact HDF.out.way y ((HDF.out.mem y).2 (.inl hy))
end Go.Proofs.YtjeflaodeafhbaaDoor
