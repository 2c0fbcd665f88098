/- When all that an instruction reads is there, by the program. The pipe, by the program. The pipe, by the program, of any instructions. Time and stalls of a pipe, by the program. Stalls of a pipe, by the program. -/
import Derived.Test.YtlmjbflnfpccdaaDoorG30
import Derived.Test.YtlmjbflnfpccdaaDoorW958
import Derived.Deep.RegionHeld
import Derived.Test.YtlmjbflnfpccdaaDoorG12
import Derived.Deep.AppendLies
namespace Go.Proofs.YtlmjbflnfpccdaaDoor
open Go.RowKit Go.Shelf
set_option linter.unusedSimpArgs false
attribute [local go_sem] Oper.semAt_some
/-- A region that draws, in a round's frame, by the held walk of a plain frame. -/
theorem wpOpIn_round_held {l m : Nat} {P : Program} {ops : Array Oper} {Q : Exit → Act → World → Prop} {i : Nat} {K K' : Act → World → Prop} {a : Act} {w : World} (hd : ∀ (i : Nat) (o : Oper), ops[i]? = some o → ∀ c, o.op ≠ .defer c) (hL : ¬ LetsOut Q) (hk : ∀ a w, K a w → K' a w) (h : wpOp P ops Q i K a w) :
    wpOpIn (Fence.wide.inRound l) m P ops Q i K' a w := by
  unfold wpOp at h
  unfold wpOpIn
  cases ho : ops[i]? with
  | none =>
    rw [ho] at h
    exact hk _ _ h
  | some o =>
    rw [ho] at h
    dsimp only at h ⊢
    by_cases hw : Region.wanted o (yielded ops a.tmps) = true
    · rw [if_pos hw] at h ⊢
      rcases h with h | ⟨_, h⟩
      · refine ⟨fun f _ => trivial, ?_⟩
        rw [Fence.inRound_round, Oper.semAt_some l _ o (hd i o ho)]
        have h := Oper.wp_mono hk h
        unfold Oper.wp at h
        generalize (execOp a.eval o).run P w = r at *
        cases r with
        | ok nx w' =>
          cases nx <;> simp only [Oper.upon, Oper.uponIn] at h ⊢
          all_goals first
            | exact h
            | exact h.elim
            | exact ⟨(by intro e; cases e), CallsIn.inRound l (callsIn_wide.2 h)⟩
            | exact ⟨(by intro e; cases e), fun c cs _ => (h c cs).elim fun v h1 => h1.elim fun w2 h2 => ⟨v, w2, h2.1, stepsIn_wide.2 h2.2⟩⟩
        | halt x w' =>
          cases x <;> simp only [Oper.upon, Oper.uponIn] at h ⊢
          all_goals exact h
      · exact absurd h hL
    · rw [if_neg hw] at h ⊢
      exact ⟨fun _ _ => trivial, hk _ _ h⟩
theorem wpAnyIn_round_held {l m : Nat} {P : Program} {md : Region.Mode} {ops : Array Oper} {Q : Exit → Act → World → Prop} (hd : ∀ (i : Nat) (o : Oper), ops[i]? = some o → ∀ c, o.op ≠ .defer c) (hL : ¬ LetsOut Q) : ∀ (fuel : Nat) (listed : Array Bool) (a : Act) (w : World),
    wpAny P md ops Q fuel listed a w → wpAnyIn (Fence.wide.inRound l) m P md ops Q fuel listed a w
  | 0, _, _, _, h => h
  | fuel + 1, _, _, _, h => ⟨h.1, fun i hi => wpOpIn_round_held hd hL (fun a' w' h' => wpAnyIn_round_held hd hL fuel _ a' w' h') (h.2 i hi)⟩
def notDefer (o : Oper) : Bool := match o.op with | .defer _ => false | _ => true
theorem notDefer_all {ops : Array Oper} (h : ops.toList.all notDefer = true) (i : Nat) (o : Oper) (hi : ops[i]? = some o) (c) : o.op ≠ .defer c := fun e => by
  have h1 := List.all_eq_true.1 h o (by
    rw [← Array.getElem?_toList] at hi
    exact List.mem_of_getElem? hi)
  unfold notDefer at h1
  rw [e] at h1
  cases h1
theorem wpIn_region_round_held {l m id : Nat} {P : Program} {ops : Array Oper} {Q : Exit → Act → World → Prop} {a : Act} {w : World} {S : World → Prop} (hd : ops.toList.all notDefer = true) (hL : ¬ LetsOut Q) (hm : P.follows .mixedOrders = true) (hS : S w.drew)
    (h : S w.drew → wpAnyH P .any ops Q S ops.size (Array.replicate ops.size false) a w.drew) : (Code.region id ops true).wpIn (Fence.wide.inRound l) m P Q a w :=
  wpIn_region_any hm (wpAnyIn_round_held (notDefer_all hd) hL _ _ _ _ (wpAny_of_held _ _ _ _ (h hS)))
/-- How far an instruction is behind those ahead of it: by what is left of what it reads. -/
def wlI (c : Ins) (F : Nat → Ins) (fw : Bool) (n t : Nat) : Int := if (bits .and .i64 (lft (rdI c) (fun j => wrI (F j)) n t) (wrI (F (n - 1 - t))) != 0) = true then lg (F (n - 1 - t)) fw else 0
/-- One round: the tick, and what is left of what is read. -/
def wst (F : Nat → Ins) (fw : Bool) (f : Nat → Int) (s : Int × Int) (i : Nat) : Int × Int := (if (bits .and .i64 s.2 (wrI (F i)) != 0) = true then max s.1 (f i + lg (F i) fw) else s.1, bits .andNot .i64 s.2 (wrI (F i)))
theorem wst_all (c : Ins) (F : Nat → Ins) (fw : Bool) (f : Nat → Int) (t0 : Int) (n : Nat) : ∀ t, (backI n t).foldl (wst F fw f) (t0, rdI c) = (sx t0 (wlI c F fw n) (fun t => f (n - 1 - t)) t, lft (rdI c) (fun j => wrI (F j)) n t)
  | 0 => rfl
  | t + 1 => by
    rw [backI_succ, List.foldl_append, wst_all c F fw f t0 n t]
    show wst F fw f (sx t0 (wlI c F fw n) (fun t => f (n - 1 - t)) t, lft (rdI c) (fun j => wrI (F j)) n t) (n - 1 - t) = _
    unfold wst
    show (_, _) = (if 0 < wlI c F fw n t then max (sx t0 (wlI c F fw n) (fun t => f (n - 1 - t)) t) (f (n - 1 - t) + wlI c F fw n t) else sx t0 (wlI c F fw n) (fun t => f (n - 1 - t)) t, bits .andNot .i64 (lft (rdI c) (fun j => wrI (F j)) n t) (wrI (F (n - 1 - t))))
    have hl := lg_rng (F (n - 1 - t)) fw
    dsimp only
    congr 1
    unfold wlI
    by_cases e : (bits .and .i64 (lft (rdI c) (fun j => wrI (F j)) n t) (wrI (F (n - 1 - t))) != 0) = true
    · rw [if_pos e, if_pos e, if_pos (by omega)]
    · rw [if_neg e, if_neg e, if_neg (by omega)]
theorem wst_rng {F : Nat → Ins} {fw : Bool} {f : Nat → Int} (hf : ∀ j, 0 ≤ f j ∧ f j ≤ 1000) : ∀ (l : List Nat) (s : Int × Int), 0 ≤ s.1 → s.1 ≤ 1100 → 0 ≤ (l.foldl (wst F fw f) s).1 ∧ (l.foldl (wst F fw f) s).1 ≤ 1100
  | [], _, h0, h1 => ⟨h0, h1⟩
  | i :: l, s, h0, h1 => by
    have h2 := hf i
    have h3 := lg_rng (F i) fw
    refine wst_rng hf l (wst F fw f s i) ?_ ?_
    · unfold wst
      dsimp only
      split <;> omega
    · unfold wst
      dsimp only
      split <;> omega
/-- The boxes: the tick, the ticks of those ahead, what is told of forward, what is left of what is read. -/
structure Wth (w W : World) (B Br n : Nat) (AW : Option Addr) (cw : Nat) (fw : Bool) (s : Int × Int) : Prop where
  tk : Holds5 W (B + 1) 3 #[.int .i64 s.1]
  wk : Holds5 W (B + 1 + 1) 25 #[.slice AW n cw]
  fwd : Holds5 W (B + 1 + 1 + 1) 4 #[.bool fw]
  rd : Holds5 W Br 3 #[.int .i64 s.2]
  low : w.grownBy W none
  lt : B + 3 < Br
  ge : w.heap.size ≤ B
section
variable {w W W' : World} {B Br n : Nat} {AW : Option Addr} {cw : Nat} {fw : Bool} {s : Int × Int}
theorem Wth.grown {row : Option Nat} (h : Wth w W B Br n AW cw fw s) (hg : W.grownBy W' row) (hr : ∀ r, row = some r → Br < r) : Wth w W' B Br n AW cw fw s := by
  have hl := h.lt
  have hw := h.ge
  refine ⟨h.tk.grown hg (fun e => ?_), h.wk.grown hg (fun e => ?_), h.fwd.grown hg (fun e => ?_), h.rd.grown hg (fun e => ?_), grown_row' h.low hg (fun r e => ?_), hl, hw⟩
  all_goals first
    | (have := hr _ e.symm; omega)
    | (have := hr _ e; omega)
theorem Wth.tick (h : Wth w W B Br n AW cw fw s) (x : Int) : Wth w (W.setCell ⟨B + 1, 0, none⟩ (.int .i64 x)) B Br n AW cw fw (x, s.2) := by
  have hl := h.lt
  have hw := h.ge
  refine ⟨by simpa using h.tk.put 0 (.int .i64 x), h.wk.other (p := ⟨B + 1, 0, none⟩) (by show B + 1 + 1 ≠ B + 1; omega) _, h.fwd.other (p := ⟨B + 1, 0, none⟩) (by show B + 1 + 1 + 1 ≠ B + 1; omega) _, h.rd.other (p := ⟨B + 1, 0, none⟩) (by show Br ≠ B + 1; omega) _, grown_then h.low (grown_set (B + 1) 0 _) (by omega), hl, hw⟩
theorem Wth.left (h : Wth w W B Br n AW cw fw s) (x : Int) : Wth w (W.setCell ⟨Br, 0, none⟩ (.int .i64 x)) B Br n AW cw fw (s.1, x) := by
  have hl := h.lt
  have hw := h.ge
  refine ⟨h.tk.other (p := ⟨Br, 0, none⟩) (by show B + 1 ≠ Br; omega) _, h.wk.other (p := ⟨Br, 0, none⟩) (by show B + 1 + 1 ≠ Br; omega) _, h.fwd.other (p := ⟨Br, 0, none⟩) (by show B + 1 + 1 + 1 ≠ Br; omega) _, by simpa using h.rd.put 0 (.int .i64 x), grown_then h.low (grown_set Br 0 _) (by omega), hl, hw⟩
end
/-- What the last region reads. -/
def SS33 (B Bx bb bo i n cw : Nat) (AW : Option Addr) (fw : Bool) (op : ByteArray) (d a b k z : Int) (w' : World) : Prop := w'.cell? ⟨B + 1 + 1, 0, none⟩ = some (.slice AW n cw) ∧ w'.cell? ⟨bb, bo + i, none⟩ = some (.int .i64 z) ∧ w'.cell? ⟨B + 1 + 1 + 1, 0, none⟩ = some (.bool fw) ∧ w'.cell? ⟨Bx, 0, none⟩ = some (.string op) ∧ w'.cell? ⟨Bx, 1, none⟩ = some (.int .i64 d) ∧ w'.cell? ⟨Bx, 2, none⟩ = some (.int .i64 a) ∧ w'.cell? ⟨Bx, 3, none⟩ = some (.int .i64 b) ∧ w'.cell? ⟨Bx, 4, none⟩ = some (.int .i64 k)
theorem SS33.grown {B Bx bb bo i n cw : Nat} {AW : Option Addr} {fw : Bool} {op : ByteArray} {d a b k z : Int} {w w' : World} (h : SS33 B Bx bb bo i n cw AW fw op d a b k z w) (hg : w.grownBy w' none) : SS33 B Bx bb bo i n cw AW fw op d a b k z w' := by
  obtain ⟨h0, h1, h2, h3, h4, h5, h6, h7⟩ := h
  exact ⟨hg.cell h0 (by intro e; cases e), hg.cell h1 (by intro e; cases e), hg.cell h2 (by intro e; cases e), hg.cell h3 (by intro e; cases e), hg.cell h4 (by intro e; cases e), hg.cell h5 (by intro e; cases e), hg.cell h6 (by intro e; cases e), hg.cell h7 (by intro e; cases e)⟩
theorem SS33.put {B Bx bb bo i n cw : Nat} {AW : Option Addr} {fw : Bool} {op : ByteArray} {d a b k z : Int} {w : World} (h : SS33 B Bx bb bo i n cw AW fw op d a b k z w) (v : Value) (h1 : bb ≠ B + 1) (h2 : Bx ≠ B + 1) : SS33 B Bx bb bo i n cw AW fw op d a b k z (w.setCell ⟨B + 1, 0, none⟩ v) := by
  obtain ⟨g0, g1, g2, g3, g4, g5, g6, g7⟩ := h
  refine ⟨(World.cell?_setCell_other w ⟨B + 1, 0, none⟩ _ v ?_).trans g0, (World.cell?_setCell_other w ⟨B + 1, 0, none⟩ _ v ?_).trans g1, (World.cell?_setCell_other w ⟨B + 1, 0, none⟩ _ v ?_).trans g2, (World.cell?_setCell_other w ⟨B + 1, 0, none⟩ _ v ?_).trans g3, (World.cell?_setCell_other w ⟨B + 1, 0, none⟩ _ v ?_).trans g4, (World.cell?_setCell_other w ⟨B + 1, 0, none⟩ _ v ?_).trans g5, (World.cell?_setCell_other w ⟨B + 1, 0, none⟩ _ v ?_).trans g6, (World.cell?_setCell_other w ⟨B + 1, 0, none⟩ _ v ?_).trans g7⟩
  all_goals
    intro e
    injection e with e
    omega
set_option maxRecDepth 100000 in
set_option maxHeartbeats 8000000 in
theorem whenThere_any (c : Ins) (t0 : Int) (A : Option Addr) (n ca : Nat) (F : Nat → Ins) (AW : Option Addr) (cw : Nat) (f : Nat → Int) (fw : Bool) (w : World) (hw : WT w) (hn : n ≤ 3) (hc : vI c = true) (hv : ∀ j, j < n → vI (F j) = true) (ht : 0 ≤ t0 ∧ t0 ≤ 1000) (hfr : ∀ j, 0 ≤ f j ∧ f j ≤ 1000) (h : Code w A n F) (hf : Nums w AW n f) :
    Calls Tryd.prog 56 #[IV c.op c.d c.a c.b c.k, .int .i64 t0, .slice A n ca, .slice AW n cw, .bool fw] w fun e w' => e = .returned (.int .i64 (sx t0 (wlI c F fw n) (fun t => f (n - 1 - t)) n)) ∧ w.grownBy w' none := by
  have HU := shade (fun W (hW : WT W) => uses_impl c hc W hW)
  refine (callsIn_wide (n := 8)).1 ?_
  refine callsIn_of_wp_marks Tryd.func56 rfl trivial ?_ rfl
  simp only [Tryd.ntmps56, List.size_toArray, List.length_cons, List.length_nil, Nat.reduceAdd, Nat.reduceSub, Array.replicate_succ, Array.replicate_zero, List.push_toArray, List.append_toArray, List.nil_append, List.cons_append]
  have hwt4 : WT ((((w.alloc (.cells #[.string c.op, .int .i64 c.d, .int .i64 c.a, .int .i64 c.b, .int .i64 c.k] 53)).alloc (.cells #[.int .i64 t0] 3)).alloc (.cells #[.slice AW n cw] 25)).alloc (.cells #[.bool fw] 4)) := (((hw.alloc _).alloc _).alloc _).alloc _
  have H1 := (((Holds5.fresh (w.alloc (.cells #[.string c.op, .int .i64 c.d, .int .i64 c.a, .int .i64 c.b, .int .i64 c.k] 53)) 3 #[.int .i64 t0]).alloc (.cells #[.slice AW n cw] 25)).alloc (.cells #[.bool fw] 4))
  have H2 := ((Holds5.fresh ((w.alloc (.cells #[.string c.op, .int .i64 c.d, .int .i64 c.a, .int .i64 c.b, .int .i64 c.k] 53)).alloc (.cells #[.int .i64 t0] 3)) 25 #[.slice AW n cw]).alloc (.cells #[.bool fw] 4))
  have H3 := Holds5.fresh (((w.alloc (.cells #[.string c.op, .int .i64 c.d, .int .i64 c.a, .int .i64 c.b, .int .i64 c.k] 53)).alloc (.cells #[.int .i64 t0] 3)).alloc (.cells #[.slice AW n cw] 25)) 4 #[.bool fw]
  have hg4 : w.grownBy ((((w.alloc (.cells #[.string c.op, .int .i64 c.d, .int .i64 c.a, .int .i64 c.b, .int .i64 c.k] 53)).alloc (.cells #[.int .i64 t0] 3)).alloc (.cells #[.slice AW n cw] 25)).alloc (.cells #[.bool fw] 4)) none := grown_same (grown_same (grown_same (World.grownBy_alloc _ _ none) (World.grownBy_alloc _ _ none)) (World.grownBy_alloc _ _ none)) (World.grownBy_alloc _ _ none)
  have hz4 : ((((w.alloc (.cells #[.string c.op, .int .i64 c.d, .int .i64 c.a, .int .i64 c.b, .int .i64 c.k] 53)).alloc (.cells #[.int .i64 t0] 3)).alloc (.cells #[.slice AW n cw] 25)).alloc (.cells #[.bool fw] 4)).heap.size = w.heap.size + 4 := by simp
  rw [World.size_alloc] at H1
  rw [World.size_alloc, World.size_alloc] at H2
  rw [World.size_alloc, World.size_alloc, World.size_alloc] at H3
  gi_wp2_with (fail)
  obtain ⟨W4, hW4⟩ : ∃ W4, (((w.alloc (.cells #[.string c.op, .int .i64 c.d, .int .i64 c.a, .int .i64 c.b, .int .i64 c.k] 53)).alloc (.cells #[.int .i64 t0] 3)).alloc (.cells #[.slice AW n cw] 25)).alloc (.cells #[.bool fw] 4) = W4 := ⟨_, rfl⟩
  rw [hW4] at hwt4 H1 H2 H3 hg4 hz4
  simp only [hW4]
  clear hW4
  refine ⟨trivial, (callsIn_wide.2 (HU.out _ hwt4)).mono ?_⟩
  rintro e w2 ⟨rfl, hb2⟩
  have hg2 := grown_of_below hb2
  have K1 := H1.grown hg2 (by intro e; cases e)
  have K2 := H2.grown hg2 (by intro e; cases e)
  have K3 := H3.grown hg2 (by intro e; cases e)
  have hgw2 := grown_same hg4 hg2
  have hs2 := hg2.size
  clear hb2 H1 H2 H3 hg4 hwt4 HU hg2
  obtain ⟨R0, hR0⟩ : ∃ R0, rdI c = R0 := ⟨_, rfl⟩
  rw [hR0]
  gi_wp2_with (fail)
  refine ⟨trivial, (callsIn_wide.2 ((callsIn_wide (n := 7)).1 (backward_in Fence.wide 7 trivial rfl A n ca _))).mono ?_⟩
  rintro e W3 ⟨rfl, rfl⟩
  gi_wp2_with (fail)
  have e3 := Holds5.fresh (w2.alloc (.cells #[.int .i64 R0] 3)) 27 #[.slice A n ca]
  have e1 := (Holds5.fresh w2 3 #[.int .i64 R0]).alloc (.cells #[.slice A n ca] 27)
  rw [World.size_alloc] at e3
  have hg3 : w2.grownBy ((w2.alloc (.cells #[.int .i64 R0] 3)).alloc (.cells #[.slice A n ca] 27)) none := grown_same (World.grownBy_alloc _ _ none) (World.grownBy_alloc _ _ none)
  have hz3 : ((w2.alloc (.cells #[.int .i64 R0] 3)).alloc (.cells #[.slice A n ca] 27)).heap.size = w2.heap.size + 2 := by simp
  obtain ⟨W3, hW3⟩ : ∃ W3, (w2.alloc (.cells #[.int .i64 R0] 3)).alloc (.cells #[.slice A n ca] 27) = W3 := ⟨_, rfl⟩
  rw [hW3] at e1 e3 hg3 hz3 ⊢
  clear hW3
  have hN3 : Wth w W3 w.heap.size w2.heap.size n AW cw fw (t0, R0) := ⟨K1.grown hg3 (by intro e; cases e), K2.grown hg3 (by intro e; cases e), K3.grown hg3 (by intro e; cases e), e1, grown_same hgw2 hg3, by omega, Nat.le_refl _⟩
  have hst := backward_stops Fence.wide 7 trivial rfl (by omega) (w2.heap.size + 1) (fun r => r = w.heap.size + 1 ∨ r = w2.heap.size) A n ca F (by omega) W3 (by omega) (by omega) (e3.look 0) (h.on hN3.low) (fun b off e h0 => by
    obtain ⟨b', off', e', hb, _⟩ := h.resolve_left (by omega)
    rw [e] at e'
    injection e' with e'
    injection e' with e1 e2
    omega)
  have HST := shade hst
  have HN3 := shade hN3
  have HZ3 := shade hz3
  have HZ2 := shade (show w.heap.size + 4 ≤ w2.heap.size by omega)
  have HV := shade hv; have HF := shade hf; have HFR := shade hfr; have HW := shade hw
  have HALL := shade (fun t => wst_all c F fw f t0 n t)
  rw [hR0] at HALL
  clear e1 e3 hg3 hz3 hN3 hst K1 K2 K3 hgw2 hv hf hfr hw hz4 hs2 hR0 h
  refine wpIn_rangeFunc_ownH (F := Fence.wide) (n := 8) rfl (by omega) (gf := 78) (lb := #[.pointer (some ⟨w2.heap.size + 1, 0, none⟩)]) rfl trivial (enters_of Tryd.func78 (by kernel_rfl) rfl)
    HST.out (fun h k => h.trans k) (fun W l o o' _ ho hc _ => KeepP.put ho hc) (Below.refl _ _) (fun _ => rfl)
    (fun pre W => Wth w W w.heap.size w2.heap.size n AW cw fw ((pre.map Subtype.val).foldl (wst F fw f) (t0, R0)) ∧ w2.heap.size + 2 ≤ W.heap.size)
    (fun _ _ _ => False)
    (fun s X X' row hs hg hr => ⟨hs.1.grown hg (fun r e => by have := (hr r e).1; have := HZ3.out; omega), Nat.le_trans hs.2 hg.size⟩)
    (fun _ _ _ _ _ hs _ _ => hs)
    ⟨HN3.out, by have := HZ3.out; omega⟩
    (fun q a' W => ∃ Bx, w2.heap.size + 1 < Bx ∧ Holds5 W Bx 53 #[.string (F q.1).op, .int .i64 (F q.1).d, .int .i64 (F q.1).a, .int .i64 (F q.1).b, .int .i64 (F q.1).k] ∧ a' = { tmps := #[IV c.op c.d c.a c.b c.k, .int .i64 t0, .slice A n ca, .slice AW n cw, .bool fw, .pointer (some ⟨w.heap.size, 0, none⟩), .pointer (some ⟨w.heap.size + 1, 0, none⟩), undef, .pointer (some ⟨w.heap.size + 1 + 1, 0, none⟩), .pointer (some ⟨w.heap.size + 1 + 1 + 1, 0, none⟩), .int .i64 0, .pointer (some ⟨w2.heap.size, 0, none⟩), .int .i64 (wrI c), .int .i64 (q.1 : Int), .pointer (some ⟨Bx, 0, none⟩), undef, undef, .tuple #[.int .i64 R0, .int .i64 (wrI c)], .agg #[.string c.op, .int .i64 c.d, .int .i64 c.a, .int .i64 c.b, .int .i64 c.k], .tuple #[.int .i64 R0, .int .i64 (wrI c)], .int .i64 R0, .int .i64 (wrI c), .slice A n ca, .func (.func 78) #[] #[.pointer (some ⟨w2.heap.size + 1, 0, none⟩)], .int .i64 (q.1 : Int), IV (F q.1).op (F q.1).d (F q.1).a (F q.1).b (F q.1).k, undef, undef, undef, undef, undef, undef, undef, undef, undef, undef, undef, undef, undef, undef, undef, undef, undef, undef, undef, undef, undef, undef, undef], defers := [] })
    (fun q a' => ?own) ?assign ?body ?done ?stop
  case own =>
    rintro _ X X' row ⟨Bx, h1, h2, h3⟩ hg hr
    refine ⟨Bx, h1, h2.grown hg (fun e => ?_), h3⟩
    obtain ⟨_, o, ho, hc⟩ := hr Bx e.symm
    have h2' : X.heap[Bx]? = some (.cells _ _ (0, 0)) := h2
    rw [h2'] at ho
    injection ho with ho
    subst ho
    cases hc
  case assign =>
    intro l pre q W K hi hK
    dsimp only [encI]
    gi_wp2_with (fail)
    have hg := World.grownBy_alloc W (.cells #[.string (F q.1).op, .int .i64 (F q.1).d, .int .i64 (F q.1).a, .int .i64 (F q.1).b, .int .i64 (F q.1).k] 53) none
    refine hK _ _ ((KeepsOthers.alloc _ _).from _) (KeepP.grown hg (fun r e => by cases e)) ⟨hi.1.grown hg (fun r e => by cases e), Nat.le_trans hi.2 hg.size⟩ ⟨W.heap.size, by omega, Holds5.fresh _ _ _, rfl⟩
  case body =>
    rintro l pre q a' W hl hlp ⟨hN, hz⟩ ⟨Bx, hBx, hbx, rfl⟩ hlen
    obtain ⟨i, hin⟩ := q
    dsimp only at hbx ⊢
    have hrg := wst_rng (F := F) (fw := fw) (f := f) HFR.out (pre.map Subtype.val) (t0, R0) ht.1 (by have := ht.2; omega)
    have hfold : ((pre ++ [(⟨i, hin⟩ : { i : Nat // i < n })]).map Subtype.val).foldl (wst F fw f) (t0, R0) = wst F fw f ((pre.map Subtype.val).foldl (wst F fw f) (t0, R0)) i := by
      rw [List.map_append, List.foldl_append]
      rfl
    have HFD := shade hfold
    clear hfold
    generalize (pre.map Subtype.val).foldl (wst F fw f) (t0, R0) = st at *
    obtain ⟨TT, R⟩ := st
    dsimp only at hrg
    have HSTP := shade (show wst F fw f (TT, R) i = (if (bits .and .i64 R (wrI (F i)) != 0) = true then max TT (f i + lg (F i) fw) else TT, bits .andNot .i64 R (wrI (F i))) from rfl)
    have HWT := shade (HW.out.below (below_of_grown hN.low) (wt_lt HW.out))
    have HUI := shade (fun W (hW : WT W) => uses_impl (F i) (HV.out i hin) W hW)
    have HLG := shade (fun W (hW : WT W) => lag_any (F i) fw W hW)
    have hlg := lg_rng (F i) fw
    have hfi := HFR.out i
    obtain ⟨bb, bo, rfl, hbb⟩ := HF.out.resolve_left (by omega)
    have HNUM := shade (fun (W' : World) (hg : w.grownBy W' none) => (HF.out.grown hg (by intro _ _ _ e; cases e)).cell hin)
    have hbb1 := hbb.1
    generalize wrI (F i) = wr at *
    generalize lg (F i) fw = lgv at *
    generalize f i = z at *
    generalize F i = cc at *
    obtain ⟨op, d, a, b', kk⟩ := cc
    dsimp only at hbx HUI HLG ⊢
    have HBX := shade hbx
    have b0 := hbx.look 0; have b1 := hbx.look 1; have b2 := hbx.look 2; have b3 := hbx.look 3; have b4 := hbx.look 4
    simp at b0 b1 b2 b3 b4
    have HN := shade hN
    have hgt := hN.lt
    clear hN hbx
    gi_wp2_with (fail)
    refine ⟨trivial, (CallsIn.inRound l (callsIn_wide.2 (HUI.out _ HWT.out))).mono ?_⟩
    rintro e w5 ⟨rfl, hb5⟩
    have hg5 := grown_of_below hb5
    have HN5 := shade (HN.out.grown hg5 (fun r e => by cases e))
    have HBX5 := shade (HBX.out.grown hg5 (by intro e; cases e))
    have HG5 := shade hg5
    have z5 := hg5.size
    clear hb5 hg5 b0 b1 b2 b3 b4 HBX HN HUI
    have c11 := HN5.out.rd.look 0
    have f11 := HN5.out.rd.free 0
    simp at c11
    rcases hcnd : (bits .and .i64 R wr != 0) with _ | _
    · rw [hcnd] at HSTP
      have HSTP2 := shade (show wst F fw f (TT, R) i = (TT, bits .andNot .i64 R wr) from HSTP.out)
      gi_wp2_with (fail)
      refine ⟨?_, ?_, ?_, ?_⟩
      · exact (KeepsFrom.of_grownBy HG5.out (fun j e => by cases e)).trans ((KeepsOthers.setCell w5 ⟨w2.heap.size, 0, none⟩ (.int .i64 (bits .andNot .i64 R wr))).from _)
      · exact (KeepP.grown HG5.out (fun r e => by cases e)).trans (KeepP.grown (grown_set w2.heap.size 0 _) (fun r e => by injection e with e; exact .inr e.symm))
      · rw [HFD.out, HSTP2.out]
        exact HN5.out.left _
      · exact Nat.le_trans hz (Nat.le_trans z5 (grown_set (w := w5) w2.heap.size 0 (.int .i64 (bits .andNot .i64 R wr))).size)
    · rw [hcnd] at HSTP
      have HSTP2 := shade (show wst F fw f (TT, R) i = (max TT (z + lgv), bits .andNot .i64 R wr) from HSTP.out)
      clear HSTP
      have c0 := HN5.out.tk.look 0
      have f0 := HN5.out.tk.free 0
      simp at c0
      have x0 := HBX5.out.look 0; have x1 := HBX5.out.look 1; have x2 := HBX5.out.look 2; have x3 := HBX5.out.look 3; have x4 := HBX5.out.look 4
      simp at x0 x1 x2 x3 x4
      have y0 := HN5.out.wk.look 0; have y1 := HN5.out.fwd.look 0
      simp at y0 y1
      have y2 := HNUM.out w5 HN5.out.low
      have HS5 := shade (show SS33 w.heap.size Bx bb bo i n cw (some ⟨bb, bo, none⟩) fw op d a b' kk z w5.drew from ⟨y0, y2, y1, x0, x1, x2, x3, x4⟩)
      have HSK := shade (fun w9 (hg : w5.drew.grownBy w9 none) => HS5.out.grown hg)
      have HSP := shade (fun w9 (hg : w5.drew.grownBy w9 none) (v : Value) => (HS5.out.grown hg).put v (by omega) (by omega))
      have c0d : w5.drew.cell? ⟨w.heap.size + 1, 0, none⟩ = some (.int .i64 TT) := c0
      have f0d : w5.drew.frozen? ⟨w.heap.size + 1, 0, none⟩ = false := f0
      have HFZ := shade (fun w9 (hg : w5.drew.grownBy w9 none) => show w9.frozen? ⟨w.heap.size + 1, 0, none⟩ = false ∧ w9.frozen? ⟨w2.heap.size, 0, none⟩ = false ∧ w9.cell? ⟨w2.heap.size, 0, none⟩ = some (.int .i64 R) from by
        have h9 := HN5.out.grown (grown_same (grown_drew1 w5) hg) (fun r e => by cases e)
        have h10 := h9.rd.look 0
        simp at h10
        exact ⟨h9.tk.free 0, h9.rd.free 0, h10⟩)
      have HWT5 := shade (show WT w5.drew from HWT.out.below (below_of_grown (grown_same HG5.out (grown_drew1 w5))) (wt_lt HWT.out))
      have in0 : (i : Int) < (n : Int) := by omega
      have i0 : (0 : Int) ≤ (i : Int) := by omega
      have hz2 := HZ2.out
      have d1 : ¬ w2.heap.size = w.heap.size + 1 := by omega
      have d2 : ¬ w.heap.size + 1 = w2.heap.size := by omega
      have HZW := shade hz
      have HZZ := shade (show w2.heap.size + 2 ≤ w5.heap.size by omega)
      have hwz : IntKind.i64.wrap (z + lgv) = z + lgv := by rw [IntKind.wrap_i64]; omega
      clear c0 f0 x0 x1 x2 x3 x4 y0 y1 y2 hgt hbb1
      gi_wp2_with (fail)
      rename_i KK hKK
      refine wpIn_region_round_held (S := SS33 w.heap.size Bx bb bo i n cw (some ⟨bb, bo, none⟩) fw op d a b' kk z) (by kernel_rfl) (by rintro ⟨a', w', h'⟩; exact h') (by kernel_rfl) HS5.out (fun hHeld => ?_)
      refine wpAnyH_take (i := 1) (oi := { dst := some 36, op := Op.load 25 (Operand.tmp 8), type := 25, pos := "c8_pipe.go:77", after := #[], guard := none }) (v := ?_) rfl (by kernel_rfl) (by kernel_rfl) (by kernel_rfl) (fun _ _ _ h => h) (Or.inl ⟨by rfl, ?_⟩) (by assumption) ?_
      rotate_left
      · intro w' hSw
        (try dsimp only at hSw); obtain ⟨v0', v1', v2', v3', v4', v5', v6', v7'⟩ := hSw
        go_simp
        try with_reducible rfl
      try simp only [Act.put, List.setIfInBounds_toArray, List.set_cons_zero, List.set_cons_succ]
      refine wpAnyH_take (i := 2) (oi := { dst := some 37, op := Op.move (Operand.tmp 13), type := 3, pos := "c8_pipe.go:77", after := #[], guard := none }) (v := ?_) rfl (by kernel_rfl) (by kernel_rfl) (by kernel_rfl) (fun _ _ _ h => h) (Or.inl ⟨by rfl, ?_⟩) (by assumption) ?_
      rotate_left
      · intro w' hSw
        (try dsimp only at hSw); obtain ⟨v0', v1', v2', v3', v4', v5', v6', v7'⟩ := hSw
        go_simp
        try with_reducible rfl
      try simp only [Act.put, List.setIfInBounds_toArray, List.set_cons_zero, List.set_cons_succ]
      refine wpAnyH_take (i := 3) (oi := { dst := some 38, op := Op.indexAddr 25 (Operand.tmp 36) (Operand.tmp 37), type := 0, pos := "c8_pipe.go:77", after := #[{ on := 1, ground := Ground.data }, { on := 2, ground := Ground.data }], guard := none }) (v := ?_) rfl (by kernel_rfl) (by kernel_rfl) (by kernel_rfl) (fun _ _ _ h => h) (Or.inl ⟨by rfl, ?_⟩) (by assumption) ?_
      rotate_left
      · intro w' hSw
        (try dsimp only at hSw); obtain ⟨v0', v1', v2', v3', v4', v5', v6', v7'⟩ := hSw
        go_simp
        try with_reducible rfl
      try simp only [Act.put, List.setIfInBounds_toArray, List.set_cons_zero, List.set_cons_succ]
      refine wpAnyH_take (i := 4) (oi := { dst := some 39, op := Op.load 3 (Operand.tmp 38), type := 3, pos := "c8_pipe.go:77", after := #[{ on := 3, ground := Ground.data }], guard := none }) (v := ?_) rfl (by kernel_rfl) (by kernel_rfl) (by kernel_rfl) (fun _ _ _ h => h) (Or.inl ⟨by rfl, ?_⟩) (by assumption) ?_
      rotate_left
      · intro w' hSw
        (try dsimp only at hSw); obtain ⟨v0', v1', v2', v3', v4', v5', v6', v7'⟩ := hSw
        go_simp
        try with_reducible rfl
      try simp only [Act.put, List.setIfInBounds_toArray, List.set_cons_zero, List.set_cons_succ]
      refine wpAnyH_take (i := 5) (oi := { dst := some 40, op := Op.load 53 (Operand.tmp 14), type := 53, pos := "c8_pipe.go:77", after := #[], guard := none }) (v := ?_) rfl (by kernel_rfl) (by kernel_rfl) (by kernel_rfl) (fun _ _ _ h => h) (Or.inl ⟨by rfl, ?_⟩) (by assumption) ?_
      rotate_left
      · intro w' hSw
        (try dsimp only at hSw); obtain ⟨v0', v1', v2', v3', v4', v5', v6', v7'⟩ := hSw
        go_simp
        try with_reducible rfl
      try simp only [Act.put, List.setIfInBounds_toArray, List.set_cons_zero, List.set_cons_succ]
      refine wpAnyH_take (i := 6) (oi := { dst := some 41, op := Op.load 4 (Operand.tmp 9), type := 4, pos := "c8_pipe.go:77", after := #[], guard := none }) (v := ?_) rfl (by kernel_rfl) (by kernel_rfl) (by kernel_rfl) (fun _ _ _ h => h) (Or.inl ⟨by rfl, ?_⟩) (by assumption) ?_
      rotate_left
      · intro w' hSw
        (try dsimp only at hSw); obtain ⟨v0', v1', v2', v3', v4', v5', v6', v7'⟩ := hSw
        go_simp
        try with_reducible rfl
      try simp only [Act.put, List.setIfInBounds_toArray, List.set_cons_zero, List.set_cons_succ]
      refine wpAnyH_ready (rs := [0, 7]) (by kernel_rfl) (by simp) ?_
      refine AllReadyH.cons (o := { dst := some 35, op := Op.load 3 (Operand.tmp 6), type := 3, pos := "c8_pipe.go:77", after := #[], guard := none }) rfl (fun K hK => ?_) ?_
      · go_simp
        refine hK.out _ _ ?_ (fun hHeld => ?_)
        · (try dsimp only)
          first | exact HSP.out _ HG9.out _ | exact HS9.out | exact HS5.out
        clear hK K
        try simp only [Act.put, List.setIfInBounds_toArray, List.set_cons_zero, List.set_cons_succ]
        refine wpAnyH_ready (rs := [7]) (by kernel_rfl) (by simp) ?_
        refine AllReadyH.cons (o := { dst := some 42, op := Op.call { callee := Callee.value (Operand.func 68), args := #[Operand.tmp 40, Operand.tmp 41], argTypes := #[53, 4] }, type := 3, pos := "c8_pipe.go:77", after := #[{ on := 5, ground := Ground.data }, { on := 6, ground := Ground.data }], guard := none }) rfl (fun K hK => ?_) ?_
        · go_simp
          go_at_call 68
          refine (HLG.out _ HWT5.out).mono ?_
          rintro e w9 ⟨rfl, hg9⟩
          have HS9 := shade (HSK.out w9 hg9)
          have c9 := hg9.cell c0d (by intro e; cases e)
          obtain ⟨f9, f9r, c9r⟩ := HFZ.out w9 hg9
          have HG9 := shade hg9
          clear hg9
          refine hK.out _ _ ?_ (fun hHeld => ?_)
          · (try dsimp only)
            first | exact HSP.out _ HG9.out _ | exact HS9.out | exact HS5.out
          clear hK K
          try simp only [Act.put, List.setIfInBounds_toArray, List.set_cons_zero, List.set_cons_succ]
          refine wpAnyH_take (i := 8) (oi := { dst := some 43, op := Op.binOp BinOp.add 3 (Operand.tmp 39) (Operand.tmp 42) 3, type := 3, pos := "c8_pipe.go:77", after := #[{ on := 4, ground := Ground.data }, { on := 7, ground := Ground.data }], guard := none }) (v := ?_) rfl (by kernel_rfl) (by kernel_rfl) (by kernel_rfl) (fun _ _ _ h => h) (Or.inl ⟨by rfl, ?_⟩) (by assumption) ?_
          rotate_left
          · intro w' hSw
            (try dsimp only at hSw); obtain ⟨v0', v1', v2', v3', v4', v5', v6', v7'⟩ := hSw
            go_simp
            try with_reducible rfl
          try simp only [Act.put, List.setIfInBounds_toArray, List.set_cons_zero, List.set_cons_succ]
          refine wpAnyH_ready (rs := [9]) (by kernel_rfl) (by simp) ?_
          refine AllReadyH.cons (o := { dst := some 44, op := Op.call { callee := Callee.builtin Builtin.max, args := #[Operand.tmp 35, Operand.tmp 43], argTypes := #[3, 3] }, type := 3, pos := "c8_pipe.go:77", after := #[{ on := 0, ground := Ground.data }, { on := 8, ground := Ground.data }], guard := none }) rfl (fun K hK => ?_) ?_
          · go_simp
            refine hK.out _ _ ?_ (fun hHeld => ?_)
            · (try dsimp only)
              first | exact HSP.out _ HG9.out _ | exact HS9.out | exact HS5.out
            clear hK K
            try simp only [Act.put, List.setIfInBounds_toArray, List.set_cons_zero, List.set_cons_succ]
            refine wpAnyH_ready (rs := [10]) (by kernel_rfl) (by simp) ?_
            refine AllReadyH.cons (o := { dst := none, op := Op.store 3 (Operand.tmp 6) (Operand.tmp 44), type := 0, pos := "c8_pipe.go:77", after := #[{ on := 9, ground := Ground.data }, { on := 7, ground := Ground.chain }, { on := 0, ground := Ground.phase }, { on := 1, ground := Ground.phase }, { on := 2, ground := Ground.phase }, { on := 3, ground := Ground.phase }, { on := 4, ground := Ground.phase }, { on := 5, ground := Ground.phase }, { on := 6, ground := Ground.phase }, { on := 7, ground := Ground.phase }, { on := 8, ground := Ground.phase }, { on := 9, ground := Ground.phase }], guard := none }) rfl (fun K hK => ?_) ?_
            · go_simp
              refine hK.out _ _ ?_ (fun hHeld => ?_)
              · (try dsimp only)
                first | exact HSP.out _ HG9.out _ | exact HS9.out | exact HS5.out
              clear hK K
              try simp only [Act.put, List.setIfInBounds_toArray, List.set_cons_zero, List.set_cons_succ]
              refine wpAnyH_done (by kernel_rfl) ?_ _
              clear hHeld
              refine hKK _ _ ?_
              clear hKK KK
              gi_wp2_with (fail)
              (try simp only [hwz])
              all_goals
                have hS1 := (HN5.out.grown (grown_same (grown_drew1 _) HG9.out) (fun r e => by cases e))
                refine ⟨?_, ?_, ?_, ?_⟩
                · exact (KeepsFrom.of_grownBy (grown_same (grown_same HG5.out (grown_drew1 _)) HG9.out) (fun j e => by cases e)).trans (((KeepsOthers.setCell w9 ⟨w.heap.size + 1, 0, none⟩ _).from _).trans ((KeepsOthers.setCell _ ⟨w2.heap.size, 0, none⟩ _).from _))
                · exact ((KeepP.grown (grown_same (grown_same HG5.out (grown_drew1 _)) HG9.out) (fun r e => by cases e)).trans (KeepP.grown (grown_set (w.heap.size + 1) 0 _) (fun r e => by injection e with e; exact .inl e.symm))).trans (KeepP.grown (grown_set w2.heap.size 0 _) (fun r e => by injection e with e; exact .inr e.symm))
                · refine (show Wth w _ _ _ n _ cw fw (List.foldl (wst F fw f) (t0, R0) ((pre ++ [(⟨i, hin⟩ : { i : Nat // i < n })]).map Subtype.val)) from ?_)
                  rw [HFD.out, HSTP2.out]
                  first
                    | (rw [show max TT (z + lgv) = z + lgv by omega]; exact (hS1.tick _).left _)
                    | (rw [show max TT (z + lgv) = TT by omega]; exact (hS1.tick _).left _)
                · exact Nat.le_trans (Nat.le_trans HZZ.out HG9.out.size) (Nat.le_trans (grown_set (w := w9) (w.heap.size + 1) 0 _).size (grown_set w2.heap.size 0 _).size)
            exact AllReadyH.nil
          exact AllReadyH.nil
        exact AllReadyH.nil
      refine AllReadyH.cons (o := { dst := some 42, op := Op.call { callee := Callee.value (Operand.func 68), args := #[Operand.tmp 40, Operand.tmp 41], argTypes := #[53, 4] }, type := 3, pos := "c8_pipe.go:77", after := #[{ on := 5, ground := Ground.data }, { on := 6, ground := Ground.data }], guard := none }) rfl (fun K hK => ?_) ?_
      · go_simp
        go_at_call 68
        refine (HLG.out _ HWT5.out).mono ?_
        rintro e w9 ⟨rfl, hg9⟩
        have HS9 := shade (HSK.out w9 hg9)
        have c9 := hg9.cell c0d (by intro e; cases e)
        obtain ⟨f9, f9r, c9r⟩ := HFZ.out w9 hg9
        have HG9 := shade hg9
        clear hg9
        refine hK.out _ _ ?_ (fun hHeld => ?_)
        · (try dsimp only)
          first | exact HSP.out _ HG9.out _ | exact HS9.out | exact HS5.out
        clear hK K
        try simp only [Act.put, List.setIfInBounds_toArray, List.set_cons_zero, List.set_cons_succ]
        refine wpAnyH_take (i := 8) (oi := { dst := some 43, op := Op.binOp BinOp.add 3 (Operand.tmp 39) (Operand.tmp 42) 3, type := 3, pos := "c8_pipe.go:77", after := #[{ on := 4, ground := Ground.data }, { on := 7, ground := Ground.data }], guard := none }) (v := ?_) rfl (by kernel_rfl) (by kernel_rfl) (by kernel_rfl) (fun _ _ _ h => h) (Or.inl ⟨by rfl, ?_⟩) (by assumption) ?_
        rotate_left
        · intro w' hSw
          (try dsimp only at hSw); obtain ⟨v0', v1', v2', v3', v4', v5', v6', v7'⟩ := hSw
          go_simp
          try with_reducible rfl
        try simp only [Act.put, List.setIfInBounds_toArray, List.set_cons_zero, List.set_cons_succ]
        refine wpAnyH_ready (rs := [0]) (by kernel_rfl) (by simp) ?_
        refine AllReadyH.cons (o := { dst := some 35, op := Op.load 3 (Operand.tmp 6), type := 3, pos := "c8_pipe.go:77", after := #[], guard := none }) rfl (fun K hK => ?_) ?_
        · go_simp
          refine hK.out _ _ ?_ (fun hHeld => ?_)
          · (try dsimp only)
            first | exact HSP.out _ HG9.out _ | exact HS9.out | exact HS5.out
          clear hK K
          try simp only [Act.put, List.setIfInBounds_toArray, List.set_cons_zero, List.set_cons_succ]
          refine wpAnyH_ready (rs := [9]) (by kernel_rfl) (by simp) ?_
          refine AllReadyH.cons (o := { dst := some 44, op := Op.call { callee := Callee.builtin Builtin.max, args := #[Operand.tmp 35, Operand.tmp 43], argTypes := #[3, 3] }, type := 3, pos := "c8_pipe.go:77", after := #[{ on := 0, ground := Ground.data }, { on := 8, ground := Ground.data }], guard := none }) rfl (fun K hK => ?_) ?_
          · go_simp
            refine hK.out _ _ ?_ (fun hHeld => ?_)
            · (try dsimp only)
              first | exact HSP.out _ HG9.out _ | exact HS9.out | exact HS5.out
            clear hK K
            try simp only [Act.put, List.setIfInBounds_toArray, List.set_cons_zero, List.set_cons_succ]
            refine wpAnyH_ready (rs := [10]) (by kernel_rfl) (by simp) ?_
            refine AllReadyH.cons (o := { dst := none, op := Op.store 3 (Operand.tmp 6) (Operand.tmp 44), type := 0, pos := "c8_pipe.go:77", after := #[{ on := 9, ground := Ground.data }, { on := 7, ground := Ground.chain }, { on := 0, ground := Ground.phase }, { on := 1, ground := Ground.phase }, { on := 2, ground := Ground.phase }, { on := 3, ground := Ground.phase }, { on := 4, ground := Ground.phase }, { on := 5, ground := Ground.phase }, { on := 6, ground := Ground.phase }, { on := 7, ground := Ground.phase }, { on := 8, ground := Ground.phase }, { on := 9, ground := Ground.phase }], guard := none }) rfl (fun K hK => ?_) ?_
            · go_simp
              refine hK.out _ _ ?_ (fun hHeld => ?_)
              · (try dsimp only)
                first | exact HSP.out _ HG9.out _ | exact HS9.out | exact HS5.out
              clear hK K
              try simp only [Act.put, List.setIfInBounds_toArray, List.set_cons_zero, List.set_cons_succ]
              refine wpAnyH_done (by kernel_rfl) ?_ _
              clear hHeld
              refine hKK _ _ ?_
              clear hKK KK
              gi_wp2_with (fail)
              (try simp only [hwz])
              all_goals
                have hS1 := (HN5.out.grown (grown_same (grown_drew1 _) HG9.out) (fun r e => by cases e))
                refine ⟨?_, ?_, ?_, ?_⟩
                · exact (KeepsFrom.of_grownBy (grown_same (grown_same HG5.out (grown_drew1 _)) HG9.out) (fun j e => by cases e)).trans (((KeepsOthers.setCell w9 ⟨w.heap.size + 1, 0, none⟩ _).from _).trans ((KeepsOthers.setCell _ ⟨w2.heap.size, 0, none⟩ _).from _))
                · exact ((KeepP.grown (grown_same (grown_same HG5.out (grown_drew1 _)) HG9.out) (fun r e => by cases e)).trans (KeepP.grown (grown_set (w.heap.size + 1) 0 _) (fun r e => by injection e with e; exact .inl e.symm))).trans (KeepP.grown (grown_set w2.heap.size 0 _) (fun r e => by injection e with e; exact .inr e.symm))
                · refine (show Wth w _ _ _ n _ cw fw (List.foldl (wst F fw f) (t0, R0) ((pre ++ [(⟨i, hin⟩ : { i : Nat // i < n })]).map Subtype.val)) from ?_)
                  rw [HFD.out, HSTP2.out]
                  first
                    | (rw [show max TT (z + lgv) = z + lgv by omega]; exact (hS1.tick _).left _)
                    | (rw [show max TT (z + lgv) = TT by omega]; exact (hS1.tick _).left _)
                · exact Nat.le_trans (Nat.le_trans HZZ.out HG9.out.size) (Nat.le_trans (grown_set (w := w9) (w.heap.size + 1) 0 _).size (grown_set w2.heap.size 0 _).size)
            exact AllReadyH.nil
          exact AllReadyH.nil
        exact AllReadyH.nil
      exact AllReadyH.nil
  case done =>
    rintro D ys W hD hys ⟨hN, hz⟩ hK
    have hal := HALL.out n
    rw [hys, hal] at hN
    have c0 := hN.tk.look 0
    simp at c0
    have HN := shade hN
    clear hN hal hys
    gi_wp2_with (fail)
    refine ⟨by simp, .inl ⟨_, _, rfl, run_takeDeferred hK, ?_⟩⟩
    have hR5 := HN.out.grown (grownBy_putObj' W D (.deferred none)) (fun j e => by injection e with e; have := HZ3.out; omega)
    exact ⟨_, results_tmp rfl _ _ _, rfl, hR5.low⟩
  case stop =>
    rintro D cc pre W hD _ h _
    exact h.elim
end Go.Proofs.YtlmjbflnfpccdaaDoor

namespace Go.Proofs.YtlmjbflnfpccdaaDoor
open Go.RowKit
set_option linter.unusedSimpArgs false
theorem own_not_held {W : World} {B : Nat} {e t : TypeId} {z : Nat} {v : Value} {n : Nat} {xs : List Value} {g : Nat} {cs : Array Value} (h : W.ownsRow B e z v n xs) (h' : Holds5 W g t cs) (ht : e ≠ t) : v.ownBlock ≠ some g := by
  intro hb
  rcases h.2 with ⟨e1, h0⟩ | ⟨g', c, cur, e1, _, hw, _⟩
  · rw [e1] at hb
    cases hb
  · rw [e1] at hb
    have a1 : g' = g := by injection hb
    subst a1
    unfold Holds5 at h'
    rw [hw] at h'
    injection h' with h1
    injection h1 with h2 h3
    exact ht h3
theorem lft_shift {R : Int} {w : Nat → Int} {lo n k : Nat} (h : lo + n = k) : ∀ t, t ≤ n → lft R (fun j => w (lo + j)) n t = lft R w k t
  | 0, _ => rfl
  | t + 1, ht => by
    show bits .andNot .i64 (lft R (fun j => w (lo + j)) n t) (w (lo + (n - 1 - t))) = bits .andNot .i64 (lft R w k t) (w (k - 1 - t))
    rw [lft_shift h t (by omega), show lo + (n - 1 - t) = k - 1 - t by omega]
/-- What whenThere tells is the tick. -/
theorem there_is {F : Nat → Ins} {J : Nat → Bool} {fw : Bool} {k lo n : Nat} {f' : Nat → Int} (hlo : k - 3 = lo) (hn : k - lo = n) (hv : ∀ j, j ≤ k → vI (F j) = true) (hf : ∀ j, j < n → f' j = pk F J fw (lo + j)) :
    sx (st J (pk F J fw) k) (wlI (F k) (fun j => F (lo + j)) fw n) (fun t => f' (n - 1 - t)) n = pk F J fw k := by
  have h := pk_back (J := J) (fw := fw) hv
  rw [hlo, hn] at h
  rw [← h]
  refine sx_congr fun t ht => ⟨?_, ?_⟩
  · unfold wlI wl
    dsimp only
    have e : lo + (n - 1 - t) = k - 1 - t := by omega
    rw [lft_shift (w := fun j => wrI (F j)) (k := k) (by omega) t (by omega)]
    simp only [e]
  · show f' (n - 1 - t) = pk F J fw (k - 1 - t)
    rw [hf _ (by omega), show lo + (n - 1 - t) = k - 1 - t by omega]
theorem Code.sub {W : World} {b off n : Nat} {F : Nat → Ins} (h : Code W (some ⟨b, off, none⟩) n F) (lo m : Nat) (hm : lo + m ≤ n) : Code W (some ⟨b, off + lo * 5, none⟩) m (fun j => F (lo + j)) := by
  by_cases h0 : m = 0
  · exact .inl h0
  · obtain ⟨b', off', e, hb, hc⟩ := h.resolve_left (by omega)
    injection e with e
    injection e with e1 e2
    subst e1 e2
    refine .inr ⟨b, _, rfl, hb, fun j i hj hi => ?_⟩
    rw [show off + lo * 5 + j * 5 + i = off + (lo + j) * 5 + i by omega]
    exact hc (lo + j) i (by omega) hi
theorem Nums.sub {W : World} {b off n : Nat} {f : Nat → Int} (h : Nums W (some ⟨b, off, none⟩) n f) (lo m : Nat) (hm : lo + m ≤ n) {f' : Nat → Int} (hf : ∀ j, j < m → f' j = f (lo + j)) : Nums W (some ⟨b, off + lo, none⟩) m f' := by
  by_cases h0 : m = 0
  · exact .inl h0
  · obtain ⟨b', off', e, hb, hc⟩ := h.resolve_left (by omega)
    injection e with e
    injection e with e1 e2
    subst e1 e2
    refine .inr ⟨b, _, rfl, hb, fun j hj => ?_⟩
    rw [show off + lo + j = off + (lo + j) by omega, hf j hj]
    exact hc (lo + j) (by omega)
/-- The ticks from which on is read, and those at which is worked out, and the box of both. -/
structure Pps (w wr : World) (B : Nat) (rv wv : Value) (kr kw : Nat) (rd f : Nat → Int) : Prop where
  box : Holds5 wr B 56 #[rv, wv]
  r : wr.ownsRow w.heap.size 3 1 rv kr (numL kr rd)
  wk : wr.ownsRow w.heap.size 3 1 wv kw (numL kw f)
  sep : ∀ b, rv.ownBlock = some b → wv.ownBlock ≠ some b
  low : w.grownBy wr none
  ge : w.heap.size < B
  res : Holds5 wr w.heap.size 56 #[.slice none 0 0, .slice none 0 0]
section
variable {w wr w2 : World} {B : Nat} {rv wv : Value} {kr kw : Nat} {rd f : Nat → Int}
theorem Pps.grown (h : Pps w wr B rv wv kr kw rd f) (hg : wr.grownBy w2 none) : Pps w w2 B rv wv kr kw rd f :=
  ⟨h.box.grown hg (by intro e; cases e), ownsRow_on h.r hg, ownsRow_on h.wk hg, h.sep, grown_same h.low hg, h.ge, h.res.grown hg (by intro e; cases e)⟩
theorem Pps.app0 (h : Pps w wr B rv wv kr kw rd f) {g c : Nat} (ho : w2.ownsRow w.heap.size 3 1 (.slice (some ⟨g, 0, none⟩) (kr + 1) c) (kr + 1) (numL (kr + 1) rd)) (hg : wr.grownBy w2 rv.ownBlock) (hat : rv.ownBlock = some g ∨ g = wr.heap.size) :
    Pps w (w2.setCell ⟨B, 0, none⟩ (.slice (some ⟨g, 0, none⟩) (kr + 1) c)) B (.slice (some ⟨g, 0, none⟩) (kr + 1) c) wv (kr + 1) kw rd f := by
  have hBr := own_not_held h.r h.box (by decide)
  have hBw := own_not_held h.wk h.box (by decide)
  have hBl := h.box.inside
  have hgB : g ≠ B := fun e => by
    rcases hat with h1 | h1
    · exact hBr (by rw [h1, e])
    · omega
  have hb2 := h.box.grown hg (fun e => hBr e.symm)
  have hw2 : w2.ownsRow w.heap.size 3 1 wv kw (numL kw f) := by
    rcases e : rv.ownBlock with _ | r
    · rw [e] at hg
      exact ownsRow_on h.wk hg
    · exact World.ownsRow.kept h.wk hg (.inr (by rw [e]; exact h.sep r e))
  refine ⟨by simpa using hb2.put 0 (.slice (some ⟨g, 0, none⟩) (kr + 1) c), World.ownsRow.kept ho (grown_set B 0 _) (.inr (fun e => by injection e with e; exact hgB e)), World.ownsRow.kept hw2 (grown_set B 0 _) (.inr hBw), fun b hb => ?_, grown_then (grown_row' h.low hg (fun r e => (World.ownsRow.lt h.r r e).1)) (grown_set B 0 _) (Nat.le_of_lt h.ge), h.ge, (h.res.grown hg (fun e => own_not_held h.r h.res (by decide) e.symm)).other (p := ⟨B, 0, none⟩) (by have := h.ge; show w.heap.size ≠ B; omega) _⟩
  have hb' : g = b := by injection hb
  subst hb'
  rcases hat with h1 | h1
  · exact h.sep g h1
  · intro e
    have := (World.ownsRow.lt h.wk g e).2
    omega
theorem Pps.app1 (h : Pps w wr B rv wv kr kw rd f) {g c : Nat} (ho : w2.ownsRow w.heap.size 3 1 (.slice (some ⟨g, 0, none⟩) (kw + 1) c) (kw + 1) (numL (kw + 1) f)) (hg : wr.grownBy w2 wv.ownBlock) (hat : wv.ownBlock = some g ∨ g = wr.heap.size) :
    Pps w (w2.setCell ⟨B, 1, none⟩ (.slice (some ⟨g, 0, none⟩) (kw + 1) c)) B rv (.slice (some ⟨g, 0, none⟩) (kw + 1) c) kr (kw + 1) rd f := by
  have hBr := own_not_held h.r h.box (by decide)
  have hBw := own_not_held h.wk h.box (by decide)
  have hBl := h.box.inside
  have hgB : g ≠ B := fun e => by
    rcases hat with h1 | h1
    · exact hBw (by rw [h1, e])
    · omega
  have hb2 := h.box.grown hg (fun e => hBw e.symm)
  have hw2 : w2.ownsRow w.heap.size 3 1 rv kr (numL kr rd) := by
    rcases e : wv.ownBlock with _ | r
    · rw [e] at hg
      exact ownsRow_on h.r hg
    · refine World.ownsRow.kept h.r hg (.inr (by rw [e]; exact fun e' => h.sep r e' e))
  refine ⟨by simpa using hb2.put 1 (.slice (some ⟨g, 0, none⟩) (kw + 1) c), World.ownsRow.kept hw2 (grown_set B 1 _) (.inr hBr), World.ownsRow.kept ho (grown_set B 1 _) (.inr (fun e => by injection e with e; exact hgB e)), fun b hb hb2 => ?_, grown_then (grown_row' h.low hg (fun r e => (World.ownsRow.lt h.wk r e).1)) (grown_set B 1 _) (Nat.le_of_lt h.ge), h.ge, (h.res.grown hg (fun e => own_not_held h.wk h.res (by decide) e.symm)).other (p := ⟨B, 1, none⟩) (by have := h.ge; show w.heap.size ≠ B; omega) _⟩
  have hb' : g = b := by injection hb2
  subst hb'
  rcases hat with h1 | h1
  · exact h.sep g hb h1
  · have := (World.ownsRow.lt h.r g hb).2
    omega
end
/-- The first ticks at which is read. -/
def rdP (J : Nat → Bool) (f : Nat → Int) (k : Nat) : Int := st J f k - 1
/-- What is left by a function that answers a pipe, and whether it is one. -/
def PipRes (n : Nat) (rd f : Nat → Int) (ok : Bool) (w : World) (e : Ending) (w' : World) : Prop :=
  ∃ rv wv, e = .returned (.tuple #[.agg #[rv, wv], .bool ok]) ∧ w'.ownsRow w.heap.size 3 1 rv n (numL n rd) ∧ w'.ownsRow w.heap.size 3 1 wv n (numL n f) ∧ w.grownBy w' none
theorem ownsRow_caps {w : World} {B n : Nat} {A : Option Addr} {c : Nat} {xs : List Value} {e : TypeId} (h : w.ownsRow B e 1 (.slice A n c) n xs) : n ≤ c := by
  rcases h.2 with ⟨e1, h0⟩ | ⟨g, cap, cur, e1, _, _, hc, _⟩
  · omega
  · injection e1 with _ _ e3
    omega
set_option maxRecDepth 100000 in
set_option maxHeartbeats 16000000 in
theorem pipeOf_at (b off m c : Nat) (F : Nat → Ins) (AJ : Option Addr) (cj : Nat) (J : Nat → Bool) (fw : Bool) (w : World) (hw : WT w) (hc : m ≤ c) (hv : vpB m F m = true) (h : Code w (some ⟨b, off, none⟩) m F) (hj : Bols w AJ m J) :
    Calls Tryd.prog 43 #[.slice (some ⟨b, off, none⟩) m c, .slice AJ m cj, .bool fw] w (PipRes m (rdP J (pk F J fw)) (pk F J fw) true w) := by
  obtain ⟨h3, -, hI⟩ := vpB_yes hv
  have HM := shade (fun W (hW : WT W) (hC : Code W (some ⟨b, off, none⟩) m F) => mayPass_any (some ⟨b, off, none⟩) m c F AJ m cj W hW (by omega) hC)
  rw [hv] at HM
  have hw0 := hw.alloc (.cells #[.slice none 0 0, .slice none 0 0] 56)
  have hg0 := World.grownBy_alloc w (.cells #[.slice none 0 0, .slice none 0 0] 56) none
  have hc0 := h.on hg0
  have HG0 := shade hg0
  have HX0 := shade (Holds5.fresh w 56 #[.slice none 0 0, .slice none 0 0])
  have hz0 : (w.alloc (.cells #[.slice none 0 0, .slice none 0 0] 56)).heap.size = w.heap.size + 1 := by simp
  clear hg0
  have HR := shade (pk_rng F J fw)
  have HTH := shade (fun k (hk : k < m) lo n f' h1 h2 h3 => there_is (F := F) (J := J) (fw := fw) (k := k) (lo := lo) (n := n) (f' := f') h1 h2 (fun j hj => hI j (by omega)) h3)
  obtain ⟨f, hf⟩ : ∃ f, pk F J fw = f := ⟨_, rfl⟩
  rw [hf] at HR HTH ⊢
  clear hf
  obtain ⟨rd, hrd⟩ : ∃ rd, rdP J f = rd := ⟨_, rfl⟩
  have HRD := shade (show rd 0 = 1 ∧ ∀ k, rd (k + 1) = f k + (if J k = true then 2 else 0) from ⟨by rw [← hrd]; rfl, fun k => by
    rw [← hrd]
    show (if k + 1 = 0 then (2 : Int) else f (k + 1 - 1) + 1 + (if J (k + 1 - 1) = true then 2 else 0)) - 1 = _
    rw [if_neg (by omega), show k + 1 - 1 = k from rfl]
    omega⟩)
  have HST := shade (show ∀ k, st J f k = rd k + 1 from fun k => by
    rw [← hrd]
    show _ = st J f k - 1 + 1
    omega)
  rw [hrd]
  clear hrd
  have HRR := shade (show ∀ k, k ≤ m → 1 ≤ rd k ∧ rd k ≤ 950 from fun k hk => by
    rcases k with _ | q
    · rw [HRD.out.1]; omega
    · rw [HRD.out.2 q]
      have := HR.out q
      split <;> omega)
  have HC := shade h; have HBJ := shade hj; have HI := shade hI; have HW := shade hw
  clear h hj hI hw hv
  obtain ⟨i1, hi1, hy0, hy1, hy2⟩ := info_parts info3p
  have HJ := shade (And.intro hi1 (And.intro hy0 (And.intro hy1 hy2)))
  clear hi1 hy0 hy1 hy2
  go_enter Tryd.func43, Tryd.ntmps43
  go_wp2_with fail
  refine (HM.out _ hw0 hc0).mono ?_
  rintro e w1 ⟨rfl, hg⟩
  have HG := shade (grown_same HG0.out hg)
  have hX1 := HX0.out.grown hg (by intro e; cases e)
  have hs1 := hg.size
  clear hg HM hw0 hc0 HG0 HX0
  have L0 := shade (show Pps w (w1.alloc (.cells #[.slice none 0 0, .slice none 0 0] 56)) w1.heap.size (.slice none 0 0) (.slice none 0 0) 0 0 rd f from ⟨Holds5.fresh _ _ _, World.ownsRow_nil _ _ _ _, World.ownsRow_nil _ _ _ _, fun _ h => (by cases h), grown_same HG.out (World.grownBy_alloc _ _ none), by omega, hX1.alloc _⟩)
  go_wp2_with fail
  go_loopw [9, 21] (fun v q wr => ∃ (k : Nat) (rv wv : Value), k ≤ m ∧ q = .int .i64 (k : Int) ∧ v = .int .i64 (rd k) ∧ Pps w wr w1.heap.size rv wv k k rd f ∧ (k = 0 → rv = .slice none 0 0 ∧ wv = .slice none 0 0)) (fun _ q _ => m - (intOf q).toNat)
  case atStart => exact ⟨0, _, _, Nat.zero_le _, rfl, by rw [HRD.out.1], L0.out, fun _ => ⟨rfl, rfl⟩⟩
  case round =>
    clear L0
    obtain ⟨k, rv, wv, hk, rfl, rfl, hp, hnil⟩ := hrel
    have HP := shade hp
    obtain ⟨A1, c1, rfl, -⟩ := ownsRow_slice hp.r
    obtain ⟨A2, c2, rfl, -⟩ := ownsRow_slice hp.wk
    have hcap := ownsRow_caps hp.wk
    clear hp
    by_cases hkm : k < m
    · obtain ⟨q0, q1, q2, q3, q4⟩ := (HC.out.on HP.out.low).five hkm
      have kq : (k : Int) < (m : Int) := by omega
      have kq0 : (0 : Int) ≤ (k : Int) := by omega
      have hrk := HRR.out k (by omega)
      have hrk1 := HRR.out (k + 1) (by omega)
      have hfk := HR.out k
      obtain ⟨lo, hlo⟩ : ∃ lo, k - 3 = lo := ⟨_, rfl⟩
      obtain ⟨nn, hnn⟩ : ∃ nn, k - lo = nn := ⟨_, rfl⟩
      have hln : lo + nn = k := by omega
      have hn3 : nn ≤ 3 := by omega
      have HWH := shade (fun W (hW : w.grownBy W none) (A' : Option Addr) (hC : Code W A' nn (fun j => F (lo + j))) (AW : Option Addr) (cw : Nat) (hN : Nums W AW nn (fun j => if lo + j < 300 then f (lo + j) else 0)) => whenThere_any (F k) (rd k + 1) A' nn nn (fun j => F (lo + j)) AW cw (fun j => if lo + j < 300 then f (lo + j) else 0) fw W (HW.out.below (below_of_grown hW) (wt_lt HW.out)) hn3 (HI.out k hkm) (fun j hj => HI.out (lo + j) (by omega)) (by omega) (fun j => by
        have := HR.out (lo + j)
        split <;> omega) hC hN)
      have hth := HTH.out k hkm lo nn (fun j => if lo + j < 300 then f (lo + j) else 0) hlo hnn (fun j hj => if_pos (by omega))
      rw [HST.out k] at hth
      rw [hth] at HWH
      clear hth
      have HSB := shade (fun W (hW : w.grownBy W none) => (HC.out.on hW).sub lo nn (by omega))
      have HRK := shade (HRD.out.2 k)
      generalize hz : rd k = z at *
      have HZ := shade hz
      generalize hz2 : f k = y at *
      have HY := shade hz2
      clear hz hz2
      generalize F k = cc at *
      obtain ⟨op, d, a, b', kk⟩ := cc
      dsimp only at q0 q1 q2 q3 q4 HWH
      have hx0 := (Holds5.fresh wr 53 #[.string op, .int .i64 d, .int .i64 a, .int .i64 b', .int .i64 kk])
      have HPA := shade (HP.out.grown (World.grownBy_alloc wr (.cells #[.string op, .int .i64 d, .int .i64 a, .int .i64 b', .int .i64 kk] 53) none))
      have HB5 := shade hx0
      have HCC := shade (show (wr.alloc (.cells #[.string op, .int .i64 d, .int .i64 a, .int .i64 b', .int .i64 kk] 53)).drew.cell? ⟨w1.heap.size, 1, none⟩ = some (.slice A2 k c2) ∧ (wr.alloc (.cells #[.string op, .int .i64 d, .int .i64 a, .int .i64 b', .int .i64 kk] 53)).drew.cell? ⟨wr.heap.size, 0, none⟩ = some (.string op) ∧ (wr.alloc (.cells #[.string op, .int .i64 d, .int .i64 a, .int .i64 b', .int .i64 kk] 53)).drew.cell? ⟨wr.heap.size, 1, none⟩ = some (.int .i64 d) ∧ (wr.alloc (.cells #[.string op, .int .i64 d, .int .i64 a, .int .i64 b', .int .i64 kk] 53)).drew.cell? ⟨wr.heap.size, 2, none⟩ = some (.int .i64 a) ∧ (wr.alloc (.cells #[.string op, .int .i64 d, .int .i64 a, .int .i64 b', .int .i64 kk] 53)).drew.cell? ⟨wr.heap.size, 3, none⟩ = some (.int .i64 b') ∧ (wr.alloc (.cells #[.string op, .int .i64 d, .int .i64 a, .int .i64 b', .int .i64 kk] 53)).drew.cell? ⟨wr.heap.size, 4, none⟩ = some (.int .i64 kk) from ⟨HPA.out.box.look 1, HB5.out.look 0, HB5.out.look 1, HB5.out.look 2, HB5.out.look 3, HB5.out.look 4⟩)
      have HNW := shade (fun (W : World) (hW : (wr.alloc (.cells #[.string op, .int .i64 d, .int .i64 a, .int .i64 b', .int .i64 kk] 53)).grownBy W none) => (show RowO W w.heap.size W.heap.size 3 (.slice A2 k c2) k (numL k f) from ⟨(HPA.out.grown hW).wk, fun i hi => (World.ownsRow.lt (HPA.out.grown hW).wk i hi).2⟩).nums)
      clear hx0
      obtain ⟨jb, jo, rfl, hjb, -⟩ := HBJ.out.resolve_left (by omega)
      have hwz : IntKind.i64.wrap (z + 1) = z + 1 := by rw [IntKind.wrap_i64]; omega
      by_cases hl3 : (0 : Int) < (k : Int) - 3
      · obtain rfl : k = lo + 3 := by omega
        obtain rfl : nn = 3 := by omega
        obtain ⟨A2', c2', e2, hN2⟩ := HNW.out _ (grown_drew1 _)
        injection e2 with e2 _ e3
        subst e2 e3
        obtain ⟨g2, o2, rfl, -⟩ := hN2.resolve_left (by omega)
        have HS2 := shade (hN2.sub lo 3 (by omega) (f' := fun j => if lo + j < 300 then f (lo + j) else 0) (fun j hj => if_pos (by omega)))
        have HS1 := shade HSB.out
        clear hN2 hln hnn hlo hnil HSB
        have s0 : (0 : Int) ≤ (lo : Int) := by omega
        have s1 : (lo : Int) ≤ (lo : Int) + 3 := by omega
        have s2 : (lo : Int) + 3 ≤ (c : Int) := by omega
        have s3 : (lo : Int) + 3 ≤ (c2 : Int) := by omega
        have s4 : ((lo : Int) + 3).toNat = lo + 3 := by omega
        have s5 : ¬ lo + 3 = lo := by omega
        have s6 : lo + 3 - lo = 3 := by omega
        go_wp2_with fail
        refine wp_region_held_drew (S := fun w' => w'.cell? ⟨w1.heap.size, 1, none⟩ = some (.slice (some ⟨g2, o2, none⟩) (lo + 3) c2) ∧ w'.cell? ⟨wr.heap.size, 0, none⟩ = some (.string op) ∧ w'.cell? ⟨wr.heap.size, 1, none⟩ = some (.int .i64 d) ∧ w'.cell? ⟨wr.heap.size, 2, none⟩ = some (.int .i64 a) ∧ w'.cell? ⟨wr.heap.size, 3, none⟩ = some (.int .i64 b') ∧ w'.cell? ⟨wr.heap.size, 4, none⟩ = some (.int .i64 kk)) (by kernel_rfl) (HCC.out) (fun hHeld => ?_)
        refine wpAnyH_take (i := 0) (oi := { dst := some 29, op := Op.load 53 (Operand.tmp 11), type := 53, pos := "c8_pipe.go:96", after := #[], guard := none }) (v := ?_) rfl (by kernel_rfl) (by kernel_rfl) (by kernel_rfl) (fun _ _ _ h => h) (Or.inl ⟨by rfl, ?_⟩) (by assumption) ?_
        rotate_left
        · intro w' hSw
          (try dsimp only at hSw); obtain ⟨v0', v1', v2', v3', v4', v5'⟩ := hSw
          go_simp
          try with_reducible rfl
        try simp only [Act.put, List.setIfInBounds_toArray, List.set_cons_zero, List.set_cons_succ]
        refine wpAnyH_take (i := 1) (oi := { dst := some 30, op := Op.move (Operand.tmp 9), type := 3, pos := "c8_pipe.go:96", after := #[], guard := none }) (v := ?_) rfl (by kernel_rfl) (by kernel_rfl) (by kernel_rfl) (fun _ _ _ h => h) (Or.inl ⟨by rfl, ?_⟩) (by assumption) ?_
        rotate_left
        · intro w' hSw
          (try dsimp only at hSw); obtain ⟨v0', v1', v2', v3', v4', v5'⟩ := hSw
          go_simp
          try with_reducible rfl
        try simp only [Act.put, List.setIfInBounds_toArray, List.set_cons_zero, List.set_cons_succ]
        refine wpAnyH_take (i := 2) (oi := { dst := some 31, op := Op.binOp BinOp.add 3 (Operand.tmp 30) (Operand.const (Value.int IntKind.i64 1)) 3, type := 3, pos := "c8_pipe.go:96", after := #[{ on := 1, ground := Ground.data }], guard := none }) (v := ?_) rfl (by kernel_rfl) (by kernel_rfl) (by kernel_rfl) (fun _ _ _ h => h) (Or.inl ⟨by rfl, ?_⟩) (by assumption) ?_
        rotate_left
        · intro w' hSw
          (try dsimp only at hSw); obtain ⟨v0', v1', v2', v3', v4', v5'⟩ := hSw
          go_simp
          try with_reducible rfl
        try simp only [Act.put, List.setIfInBounds_toArray, List.set_cons_zero, List.set_cons_succ]
        refine wpAnyH_take (i := 3) (oi := { dst := some 32, op := Op.move (Operand.tmp 0), type := 27, pos := "c8_pipe.go:96", after := #[], guard := none }) (v := ?_) rfl (by kernel_rfl) (by kernel_rfl) (by kernel_rfl) (fun _ _ _ h => h) (Or.inl ⟨by rfl, ?_⟩) (by assumption) ?_
        rotate_left
        · intro w' hSw
          (try dsimp only at hSw); obtain ⟨v0', v1', v2', v3', v4', v5'⟩ := hSw
          go_simp
          try with_reducible rfl
        try simp only [Act.put, List.setIfInBounds_toArray, List.set_cons_zero, List.set_cons_succ]
        refine wpAnyH_take (i := 4) (oi := { dst := some 33, op := Op.move (Operand.tmp 12), type := 3, pos := "c8_pipe.go:96", after := #[], guard := none }) (v := ?_) rfl (by kernel_rfl) (by kernel_rfl) (by kernel_rfl) (fun _ _ _ h => h) (Or.inl ⟨by rfl, ?_⟩) (by assumption) ?_
        rotate_left
        · intro w' hSw
          (try dsimp only at hSw); obtain ⟨v0', v1', v2', v3', v4', v5'⟩ := hSw
          go_simp
          try with_reducible rfl
        try simp only [Act.put, List.setIfInBounds_toArray, List.set_cons_zero, List.set_cons_succ]
        refine wpAnyH_take (i := 5) (oi := { dst := some 34, op := Op.move (Operand.tmp 10), type := 3, pos := "c8_pipe.go:96", after := #[], guard := none }) (v := ?_) rfl (by kernel_rfl) (by kernel_rfl) (by kernel_rfl) (fun _ _ _ h => h) (Or.inl ⟨by rfl, ?_⟩) (by assumption) ?_
        rotate_left
        · intro w' hSw
          (try dsimp only at hSw); obtain ⟨v0', v1', v2', v3', v4', v5'⟩ := hSw
          go_simp
          try with_reducible rfl
        try simp only [Act.put, List.setIfInBounds_toArray, List.set_cons_zero, List.set_cons_succ]
        refine wpAnyH_take (i := 6) (oi := { dst := some 35, op := Op.move (Operand.tmp 10), type := 3, pos := "c8_pipe.go:96", after := #[], guard := none }) (v := ?_) rfl (by kernel_rfl) (by kernel_rfl) (by kernel_rfl) (fun _ _ _ h => h) (Or.inl ⟨by rfl, ?_⟩) (by assumption) ?_
        rotate_left
        · intro w' hSw
          (try dsimp only at hSw); obtain ⟨v0', v1', v2', v3', v4', v5'⟩ := hSw
          go_simp
          try with_reducible rfl
        try simp only [Act.put, List.setIfInBounds_toArray, List.set_cons_zero, List.set_cons_succ]
        refine wpAnyH_take (i := 7) (oi := { dst := some 36, op := Op.slice 27 (Operand.tmp 32) (some (Operand.tmp 33)) (some (Operand.tmp 34)) (some (Operand.tmp 35)), type := 27, pos := "c8_pipe.go:96", after := #[{ on := 3, ground := Ground.data }, { on := 4, ground := Ground.data }, { on := 5, ground := Ground.data }, { on := 6, ground := Ground.data }], guard := none }) (v := ?_) rfl (by kernel_rfl) (by kernel_rfl) (by kernel_rfl) (fun _ _ _ h => h) (Or.inl ⟨by rfl, ?_⟩) (by assumption) ?_
        rotate_left
        · intro w' hSw
          (try dsimp only at hSw); obtain ⟨v0', v1', v2', v3', v4', v5'⟩ := hSw
          go_simp
          try with_reducible rfl
        try simp only [Act.put, List.setIfInBounds_toArray, List.set_cons_zero, List.set_cons_succ]
        refine wpAnyH_take (i := 8) (oi := { dst := some 37, op := Op.fieldAddr 56 (Operand.tmp 8) 1, type := 0, pos := "c8_pipe.go:96", after := #[], guard := none }) (v := ?_) rfl (by kernel_rfl) (by kernel_rfl) (by kernel_rfl) (fun _ _ _ h => h) (Or.inl ⟨by rfl, ?_⟩) (by assumption) ?_
        rotate_left
        · intro w' hSw
          (try dsimp only at hSw); obtain ⟨v0', v1', v2', v3', v4', v5'⟩ := hSw
          go_simp
          try with_reducible rfl
        try simp only [Act.put, List.setIfInBounds_toArray, List.set_cons_zero, List.set_cons_succ]
        refine wpAnyH_take (i := 9) (oi := { dst := some 38, op := Op.load 25 (Operand.tmp 37), type := 25, pos := "c8_pipe.go:96", after := #[{ on := 8, ground := Ground.data }], guard := none }) (v := ?_) rfl (by kernel_rfl) (by kernel_rfl) (by kernel_rfl) (fun _ _ _ h => h) (Or.inl ⟨by rfl, ?_⟩) (by assumption) ?_
        rotate_left
        · intro w' hSw
          (try dsimp only at hSw); obtain ⟨v0', v1', v2', v3', v4', v5'⟩ := hSw
          go_simp
          try with_reducible rfl
        try simp only [Act.put, List.setIfInBounds_toArray, List.set_cons_zero, List.set_cons_succ]
        refine wpAnyH_take (i := 10) (oi := { dst := some 39, op := Op.move (Operand.tmp 12), type := 3, pos := "c8_pipe.go:96", after := #[], guard := none }) (v := ?_) rfl (by kernel_rfl) (by kernel_rfl) (by kernel_rfl) (fun _ _ _ h => h) (Or.inl ⟨by rfl, ?_⟩) (by assumption) ?_
        rotate_left
        · intro w' hSw
          (try dsimp only at hSw); obtain ⟨v0', v1', v2', v3', v4', v5'⟩ := hSw
          go_simp
          try with_reducible rfl
        try simp only [Act.put, List.setIfInBounds_toArray, List.set_cons_zero, List.set_cons_succ]
        refine wpAnyH_take (i := 11) (oi := { dst := some 40, op := Op.move (Operand.tmp 10), type := 3, pos := "c8_pipe.go:96", after := #[], guard := none }) (v := ?_) rfl (by kernel_rfl) (by kernel_rfl) (by kernel_rfl) (fun _ _ _ h => h) (Or.inl ⟨by rfl, ?_⟩) (by assumption) ?_
        rotate_left
        · intro w' hSw
          (try dsimp only at hSw); obtain ⟨v0', v1', v2', v3', v4', v5'⟩ := hSw
          go_simp
          try with_reducible rfl
        try simp only [Act.put, List.setIfInBounds_toArray, List.set_cons_zero, List.set_cons_succ]
        refine wpAnyH_take (i := 12) (oi := { dst := some 41, op := Op.move (Operand.tmp 10), type := 3, pos := "c8_pipe.go:96", after := #[], guard := none }) (v := ?_) rfl (by kernel_rfl) (by kernel_rfl) (by kernel_rfl) (fun _ _ _ h => h) (Or.inl ⟨by rfl, ?_⟩) (by assumption) ?_
        rotate_left
        · intro w' hSw
          (try dsimp only at hSw); obtain ⟨v0', v1', v2', v3', v4', v5'⟩ := hSw
          go_simp
          try with_reducible rfl
        try simp only [Act.put, List.setIfInBounds_toArray, List.set_cons_zero, List.set_cons_succ]
        refine wpAnyH_take (i := 13) (oi := { dst := some 42, op := Op.slice 25 (Operand.tmp 38) (some (Operand.tmp 39)) (some (Operand.tmp 40)) (some (Operand.tmp 41)), type := 25, pos := "c8_pipe.go:96", after := #[{ on := 9, ground := Ground.data }, { on := 10, ground := Ground.data }, { on := 11, ground := Ground.data }, { on := 12, ground := Ground.data }], guard := none }) (v := ?_) rfl (by kernel_rfl) (by kernel_rfl) (by kernel_rfl) (fun _ _ _ h => h) (Or.inl ⟨by rfl, ?_⟩) (by assumption) ?_
        rotate_left
        · intro w' hSw
          (try dsimp only at hSw); obtain ⟨v0', v1', v2', v3', v4', v5'⟩ := hSw
          go_simp
          try with_reducible rfl
        try simp only [Act.put, List.setIfInBounds_toArray, List.set_cons_zero, List.set_cons_succ]
        refine wpAnyH_take (i := 14) (oi := { dst := some 43, op := Op.move (Operand.tmp 2), type := 4, pos := "c8_pipe.go:96", after := #[], guard := none }) (v := ?_) rfl (by kernel_rfl) (by kernel_rfl) (by kernel_rfl) (fun _ _ _ h => h) (Or.inl ⟨by rfl, ?_⟩) (by assumption) ?_
        rotate_left
        · intro w' hSw
          (try dsimp only at hSw); obtain ⟨v0', v1', v2', v3', v4', v5'⟩ := hSw
          go_simp
          try with_reducible rfl
        try simp only [Act.put, List.setIfInBounds_toArray, List.set_cons_zero, List.set_cons_succ]
        refine wpAnyH_ready (rs := [15]) (by kernel_rfl) (by simp) ?_
        refine AllReadyH.cons (o := { dst := some 44, op := Op.call { callee := Callee.value (Operand.func 56), args := #[Operand.tmp 29, Operand.tmp 31, Operand.tmp 36, Operand.tmp 42, Operand.tmp 43], argTypes := #[53, 3, 27, 25, 4] }, type := 3, pos := "c8_pipe.go:96", after := #[{ on := 0, ground := Ground.data }, { on := 2, ground := Ground.data }, { on := 7, ground := Ground.data }, { on := 13, ground := Ground.data }, { on := 14, ground := Ground.data }], guard := none }) rfl (fun K hK => ?_) ?_
        · go_simp
          go_at_call 56
          (try simp only [hwz])
          refine (HWH.out _ (grown_same HPA.out.low (grown_drew1 _)) _ (HS1.out _ (grown_same HPA.out.low (grown_drew1 _))) _ _ HS2.out).mono ?_
          rintro e w3 ⟨rfl, hg3⟩
          obtain ⟨h0, h1, h2, h3, h4, h5⟩ := HCC.out
          have HCC3 := shade (And.intro (hg3.cell h0 (by intro e; cases e)) (And.intro (hg3.cell h1 (by intro e; cases e)) (And.intro (hg3.cell h2 (by intro e; cases e)) (And.intro (hg3.cell h3 (by intro e; cases e)) (And.intro (hg3.cell h4 (by intro e; cases e)) (hg3.cell h5 (by intro e; cases e)))))))
          have HP3 := shade (HPA.out.grown (grown_same (grown_drew1 _) hg3))
          clear hg3 h0 h1 h2 h3 h4 h5
          refine hK.out _ _ ?_ (fun hHeld => ?_)
          · (try dsimp only)
            first | exact HCC3.out | exact HCC.out
          clear hK K
          try simp only [Act.put, List.setIfInBounds_toArray, List.set_cons_zero, List.set_cons_succ]
          refine wpAnyH_ready (rs := [16]) (by kernel_rfl) (by simp) ?_
          refine AllReadyH.cons (o := { dst := some 13, op := Op.assign (Operand.tmp 44), type := 3, pos := "c8_pipe.go:96", after := #[{ on := 15, ground := Ground.data }, { on := 15, ground := Ground.chain }, { on := 0, ground := Ground.phase }, { on := 1, ground := Ground.phase }, { on := 2, ground := Ground.phase }, { on := 3, ground := Ground.phase }, { on := 4, ground := Ground.phase }, { on := 5, ground := Ground.phase }, { on := 6, ground := Ground.phase }, { on := 7, ground := Ground.phase }, { on := 8, ground := Ground.phase }, { on := 9, ground := Ground.phase }, { on := 10, ground := Ground.phase }, { on := 11, ground := Ground.phase }, { on := 12, ground := Ground.phase }, { on := 13, ground := Ground.phase }, { on := 14, ground := Ground.phase }, { on := 15, ground := Ground.phase }], guard := none }) rfl (fun K hK => ?_) ?_
          · go_simp
            refine hK.out _ _ ?_ (fun hHeld => ?_)
            · (try dsimp only)
              first | exact HCC3.out | exact HCC.out
            clear hK K
            try simp only [Act.put, List.setIfInBounds_toArray, List.set_cons_zero, List.set_cons_succ]
            refine wpAnyH_done (by kernel_rfl) ?_ _
            clear hHeld
            have b0 := HP3.out.box.look 0
            simp at b0
            go_wp2_with (first
              | (at_builtin; refine wpList_append_lies _ rfl _ _ 25 rfl w.heap.size 3 i1 (.int .i64 0) 1 8 Tryd.underlying25 HJ.out.1 HJ.out.2.1 HJ.out.2.2.1 HJ.out.2.2.2 rfl (by decide) _ _ _ rfl (World.ownsRow.alloc HP3.out.r _) ⟨w3.heap.size, 0, none⟩ 1 1 [.int .i64 z] rfl rfl (int_new _ _ _) (int_one _) (by omega) (by unfold maxLen; omega) (by omega) (by have := HP3.out.low.size; simp at this ⊢; omega) _ rfl ?_)
              | go_in)
            intro g8 c8 w8 hown8 hgr8 hat8 hlt8
            rw [numL_snoc' _ rd _ HZ.out] at hown8
            have hpa := HP3.out.grown (World.grownBy_alloc w3 (.cells #[.int .i64 z] 3) none)
            have hbx8 := hpa.box.grown hgr8 (fun e => own_not_held hpa.r hpa.box (by decide) e.symm)
            have f8 := hbx8.free 0
            have b80 := hbx8.look 0
            have b81 := hbx8.look 1
            simp at b80 b81
            have HP8 := shade (hpa.app0 hown8 hgr8 (by simpa using hat8))
            clear hown8 hgr8 hat8 hlt8 hbx8 hpa b0
            have HNEW := shade (int_new (w8.setCell ⟨w1.heap.size, 0, none⟩ (.slice (some ⟨g8, 0, none⟩) ((lo + 3) + 1) c8)) 3 y)
            rw [show (w8.setCell ⟨w1.heap.size, 0, none⟩ (.slice (some ⟨g8, 0, none⟩) ((lo + 3) + 1) c8)).heap.size = w8.heap.size by simp] at HNEW
            go_wp2_with (first
              | (at_builtin; refine wpList_append_lies _ rfl _ _ 25 rfl w.heap.size 3 i1 (.int .i64 0) 1 8 Tryd.underlying25 HJ.out.1 HJ.out.2.1 HJ.out.2.2.1 HJ.out.2.2.2 rfl (by decide) _ _ _ rfl (World.ownsRow.alloc HP8.out.wk _) ⟨w8.heap.size, 0, none⟩ 1 1 [.int .i64 y] rfl rfl (HNEW.out) (int_one _) (by omega) (by unfold maxLen; omega) (by omega) (by have := HP8.out.low.size; simp at this ⊢; omega) _ rfl ?_)
              | go_in)
            intro g9 c9 w9 hown9 hgr9 hat9 hlt9
            rw [numL_snoc' _ f _ HY.out] at hown9
            have hpb := HP8.out.grown (World.grownBy_alloc _ (.cells #[.int .i64 y] 3) none)
            have hbx9 := hpb.box.grown hgr9 (fun e => own_not_held hpb.wk hpb.box (by decide) e.symm)
            have f9 := hbx9.free 1
            have b90 := hbx9.look 0
            have b91 := hbx9.look 1
            simp at b90 b91
            have cj9 := (bols_on HBJ.out (grown_row' hpb.low hgr9 (fun r e => (World.ownsRow.lt hpb.wk r e).1))).cell hkm
            have HP9 := shade (hpb.app1 hown9 hgr9 (by simpa using hat9))
            clear hown9 hgr9 hat9 hlt9 hbx9 hpb f8 b80 b81
            have d1 : ¬ jb = w1.heap.size := by have := HG.out.size; omega
            have HRK2 := shade HRK.out
            obtain ⟨jv, hjk⟩ : ∃ jv, J (lo + 3) = jv := ⟨_, rfl⟩
            rw [hjk] at cj9 HRK2
            clear hjk
            rcases jv with _ | _
            all_goals
              go_wp2_with fail
              go_roundw
              case rel => exact ⟨(lo + 3) + 1, _, _, by omega, by go_num, (by rw [HRK2.out]; simp), HP9.out, fun e => by omega⟩
              case measure => simp [intOf]; omega
          exact AllReadyH.nil
        exact AllReadyH.nil
      · obtain rfl : lo = 0 := by omega
        obtain rfl : nn = k := by omega
        have HS1 := shade (fun W (hW : w.grownBy W none) => show Code W (some ⟨b, off, none⟩) nn (fun j => F (0 + j)) from by
          have h := HSB.out W hW
          rwa [Nat.zero_mul, Nat.add_zero] at h)
        have s2 : (nn : Int) ≤ (c : Int) := by omega
        have s3 : (nn : Int) ≤ (c2 : Int) := by omega
        rcases nn with _ | q
        · obtain ⟨e1, e2⟩ := hnil rfl
          injection e1 with e1a e1b e1c
          injection e2 with e2a e2b e2c
          subst e1a e1c e2a e2c
          have HS2 := shade (fun (W : World) => show Nums W none 0 (fun j => if 0 + j < 300 then f (0 + j) else 0) from .inl rfl)
          clear hln hnn hlo hnil HSB
          rw [Nat.zero_mul, Nat.add_zero] at q0 q1 q2 q3 q4
          go_wp2_with fail
          refine wp_region_held_drew (S := fun w' => w'.cell? ⟨w1.heap.size, 1, none⟩ = some (.slice none 0 0) ∧ w'.cell? ⟨wr.heap.size, 0, none⟩ = some (.string op) ∧ w'.cell? ⟨wr.heap.size, 1, none⟩ = some (.int .i64 d) ∧ w'.cell? ⟨wr.heap.size, 2, none⟩ = some (.int .i64 a) ∧ w'.cell? ⟨wr.heap.size, 3, none⟩ = some (.int .i64 b') ∧ w'.cell? ⟨wr.heap.size, 4, none⟩ = some (.int .i64 kk)) (by kernel_rfl) (HCC.out) (fun hHeld => ?_)
          refine wpAnyH_take (i := 0) (oi := { dst := some 29, op := Op.load 53 (Operand.tmp 11), type := 53, pos := "c8_pipe.go:96", after := #[], guard := none }) (v := ?_) rfl (by kernel_rfl) (by kernel_rfl) (by kernel_rfl) (fun _ _ _ h => h) (Or.inl ⟨by rfl, ?_⟩) (by assumption) ?_
          rotate_left
          · intro w' hSw
            (try dsimp only at hSw); obtain ⟨v0', v1', v2', v3', v4', v5'⟩ := hSw
            go_simp
            try with_reducible rfl
          try simp only [Act.put, List.setIfInBounds_toArray, List.set_cons_zero, List.set_cons_succ]
          refine wpAnyH_take (i := 1) (oi := { dst := some 30, op := Op.move (Operand.tmp 9), type := 3, pos := "c8_pipe.go:96", after := #[], guard := none }) (v := ?_) rfl (by kernel_rfl) (by kernel_rfl) (by kernel_rfl) (fun _ _ _ h => h) (Or.inl ⟨by rfl, ?_⟩) (by assumption) ?_
          rotate_left
          · intro w' hSw
            (try dsimp only at hSw); obtain ⟨v0', v1', v2', v3', v4', v5'⟩ := hSw
            go_simp
            try with_reducible rfl
          try simp only [Act.put, List.setIfInBounds_toArray, List.set_cons_zero, List.set_cons_succ]
          refine wpAnyH_take (i := 2) (oi := { dst := some 31, op := Op.binOp BinOp.add 3 (Operand.tmp 30) (Operand.const (Value.int IntKind.i64 1)) 3, type := 3, pos := "c8_pipe.go:96", after := #[{ on := 1, ground := Ground.data }], guard := none }) (v := ?_) rfl (by kernel_rfl) (by kernel_rfl) (by kernel_rfl) (fun _ _ _ h => h) (Or.inl ⟨by rfl, ?_⟩) (by assumption) ?_
          rotate_left
          · intro w' hSw
            (try dsimp only at hSw); obtain ⟨v0', v1', v2', v3', v4', v5'⟩ := hSw
            go_simp
            try with_reducible rfl
          try simp only [Act.put, List.setIfInBounds_toArray, List.set_cons_zero, List.set_cons_succ]
          refine wpAnyH_take (i := 3) (oi := { dst := some 32, op := Op.move (Operand.tmp 0), type := 27, pos := "c8_pipe.go:96", after := #[], guard := none }) (v := ?_) rfl (by kernel_rfl) (by kernel_rfl) (by kernel_rfl) (fun _ _ _ h => h) (Or.inl ⟨by rfl, ?_⟩) (by assumption) ?_
          rotate_left
          · intro w' hSw
            (try dsimp only at hSw); obtain ⟨v0', v1', v2', v3', v4', v5'⟩ := hSw
            go_simp
            try with_reducible rfl
          try simp only [Act.put, List.setIfInBounds_toArray, List.set_cons_zero, List.set_cons_succ]
          refine wpAnyH_take (i := 4) (oi := { dst := some 33, op := Op.move (Operand.tmp 12), type := 3, pos := "c8_pipe.go:96", after := #[], guard := none }) (v := ?_) rfl (by kernel_rfl) (by kernel_rfl) (by kernel_rfl) (fun _ _ _ h => h) (Or.inl ⟨by rfl, ?_⟩) (by assumption) ?_
          rotate_left
          · intro w' hSw
            (try dsimp only at hSw); obtain ⟨v0', v1', v2', v3', v4', v5'⟩ := hSw
            go_simp
            try with_reducible rfl
          try simp only [Act.put, List.setIfInBounds_toArray, List.set_cons_zero, List.set_cons_succ]
          refine wpAnyH_take (i := 5) (oi := { dst := some 34, op := Op.move (Operand.tmp 10), type := 3, pos := "c8_pipe.go:96", after := #[], guard := none }) (v := ?_) rfl (by kernel_rfl) (by kernel_rfl) (by kernel_rfl) (fun _ _ _ h => h) (Or.inl ⟨by rfl, ?_⟩) (by assumption) ?_
          rotate_left
          · intro w' hSw
            (try dsimp only at hSw); obtain ⟨v0', v1', v2', v3', v4', v5'⟩ := hSw
            go_simp
            try with_reducible rfl
          try simp only [Act.put, List.setIfInBounds_toArray, List.set_cons_zero, List.set_cons_succ]
          refine wpAnyH_take (i := 6) (oi := { dst := some 35, op := Op.move (Operand.tmp 10), type := 3, pos := "c8_pipe.go:96", after := #[], guard := none }) (v := ?_) rfl (by kernel_rfl) (by kernel_rfl) (by kernel_rfl) (fun _ _ _ h => h) (Or.inl ⟨by rfl, ?_⟩) (by assumption) ?_
          rotate_left
          · intro w' hSw
            (try dsimp only at hSw); obtain ⟨v0', v1', v2', v3', v4', v5'⟩ := hSw
            go_simp
            try with_reducible rfl
          try simp only [Act.put, List.setIfInBounds_toArray, List.set_cons_zero, List.set_cons_succ]
          refine wpAnyH_take (i := 7) (oi := { dst := some 36, op := Op.slice 27 (Operand.tmp 32) (some (Operand.tmp 33)) (some (Operand.tmp 34)) (some (Operand.tmp 35)), type := 27, pos := "c8_pipe.go:96", after := #[{ on := 3, ground := Ground.data }, { on := 4, ground := Ground.data }, { on := 5, ground := Ground.data }, { on := 6, ground := Ground.data }], guard := none }) (v := ?_) rfl (by kernel_rfl) (by kernel_rfl) (by kernel_rfl) (fun _ _ _ h => h) (Or.inl ⟨by rfl, ?_⟩) (by assumption) ?_
          rotate_left
          · intro w' hSw
            (try dsimp only at hSw); obtain ⟨v0', v1', v2', v3', v4', v5'⟩ := hSw
            go_simp
            try with_reducible rfl
          try simp only [Act.put, List.setIfInBounds_toArray, List.set_cons_zero, List.set_cons_succ]
          refine wpAnyH_take (i := 8) (oi := { dst := some 37, op := Op.fieldAddr 56 (Operand.tmp 8) 1, type := 0, pos := "c8_pipe.go:96", after := #[], guard := none }) (v := ?_) rfl (by kernel_rfl) (by kernel_rfl) (by kernel_rfl) (fun _ _ _ h => h) (Or.inl ⟨by rfl, ?_⟩) (by assumption) ?_
          rotate_left
          · intro w' hSw
            (try dsimp only at hSw); obtain ⟨v0', v1', v2', v3', v4', v5'⟩ := hSw
            go_simp
            try with_reducible rfl
          try simp only [Act.put, List.setIfInBounds_toArray, List.set_cons_zero, List.set_cons_succ]
          refine wpAnyH_take (i := 9) (oi := { dst := some 38, op := Op.load 25 (Operand.tmp 37), type := 25, pos := "c8_pipe.go:96", after := #[{ on := 8, ground := Ground.data }], guard := none }) (v := ?_) rfl (by kernel_rfl) (by kernel_rfl) (by kernel_rfl) (fun _ _ _ h => h) (Or.inl ⟨by rfl, ?_⟩) (by assumption) ?_
          rotate_left
          · intro w' hSw
            (try dsimp only at hSw); obtain ⟨v0', v1', v2', v3', v4', v5'⟩ := hSw
            go_simp
            try with_reducible rfl
          try simp only [Act.put, List.setIfInBounds_toArray, List.set_cons_zero, List.set_cons_succ]
          refine wpAnyH_take (i := 10) (oi := { dst := some 39, op := Op.move (Operand.tmp 12), type := 3, pos := "c8_pipe.go:96", after := #[], guard := none }) (v := ?_) rfl (by kernel_rfl) (by kernel_rfl) (by kernel_rfl) (fun _ _ _ h => h) (Or.inl ⟨by rfl, ?_⟩) (by assumption) ?_
          rotate_left
          · intro w' hSw
            (try dsimp only at hSw); obtain ⟨v0', v1', v2', v3', v4', v5'⟩ := hSw
            go_simp
            try with_reducible rfl
          try simp only [Act.put, List.setIfInBounds_toArray, List.set_cons_zero, List.set_cons_succ]
          refine wpAnyH_take (i := 11) (oi := { dst := some 40, op := Op.move (Operand.tmp 10), type := 3, pos := "c8_pipe.go:96", after := #[], guard := none }) (v := ?_) rfl (by kernel_rfl) (by kernel_rfl) (by kernel_rfl) (fun _ _ _ h => h) (Or.inl ⟨by rfl, ?_⟩) (by assumption) ?_
          rotate_left
          · intro w' hSw
            (try dsimp only at hSw); obtain ⟨v0', v1', v2', v3', v4', v5'⟩ := hSw
            go_simp
            try with_reducible rfl
          try simp only [Act.put, List.setIfInBounds_toArray, List.set_cons_zero, List.set_cons_succ]
          refine wpAnyH_take (i := 12) (oi := { dst := some 41, op := Op.move (Operand.tmp 10), type := 3, pos := "c8_pipe.go:96", after := #[], guard := none }) (v := ?_) rfl (by kernel_rfl) (by kernel_rfl) (by kernel_rfl) (fun _ _ _ h => h) (Or.inl ⟨by rfl, ?_⟩) (by assumption) ?_
          rotate_left
          · intro w' hSw
            (try dsimp only at hSw); obtain ⟨v0', v1', v2', v3', v4', v5'⟩ := hSw
            go_simp
            try with_reducible rfl
          try simp only [Act.put, List.setIfInBounds_toArray, List.set_cons_zero, List.set_cons_succ]
          refine wpAnyH_take (i := 13) (oi := { dst := some 42, op := Op.slice 25 (Operand.tmp 38) (some (Operand.tmp 39)) (some (Operand.tmp 40)) (some (Operand.tmp 41)), type := 25, pos := "c8_pipe.go:96", after := #[{ on := 9, ground := Ground.data }, { on := 10, ground := Ground.data }, { on := 11, ground := Ground.data }, { on := 12, ground := Ground.data }], guard := none }) (v := ?_) rfl (by kernel_rfl) (by kernel_rfl) (by kernel_rfl) (fun _ _ _ h => h) (Or.inl ⟨by rfl, ?_⟩) (by assumption) ?_
          rotate_left
          · intro w' hSw
            (try dsimp only at hSw); obtain ⟨v0', v1', v2', v3', v4', v5'⟩ := hSw
            go_simp
            try with_reducible rfl
          try simp only [Act.put, List.setIfInBounds_toArray, List.set_cons_zero, List.set_cons_succ]
          refine wpAnyH_take (i := 14) (oi := { dst := some 43, op := Op.move (Operand.tmp 2), type := 4, pos := "c8_pipe.go:96", after := #[], guard := none }) (v := ?_) rfl (by kernel_rfl) (by kernel_rfl) (by kernel_rfl) (fun _ _ _ h => h) (Or.inl ⟨by rfl, ?_⟩) (by assumption) ?_
          rotate_left
          · intro w' hSw
            (try dsimp only at hSw); obtain ⟨v0', v1', v2', v3', v4', v5'⟩ := hSw
            go_simp
            try with_reducible rfl
          try simp only [Act.put, List.setIfInBounds_toArray, List.set_cons_zero, List.set_cons_succ]
          refine wpAnyH_ready (rs := [15]) (by kernel_rfl) (by simp) ?_
          refine AllReadyH.cons (o := { dst := some 44, op := Op.call { callee := Callee.value (Operand.func 56), args := #[Operand.tmp 29, Operand.tmp 31, Operand.tmp 36, Operand.tmp 42, Operand.tmp 43], argTypes := #[53, 3, 27, 25, 4] }, type := 3, pos := "c8_pipe.go:96", after := #[{ on := 0, ground := Ground.data }, { on := 2, ground := Ground.data }, { on := 7, ground := Ground.data }, { on := 13, ground := Ground.data }, { on := 14, ground := Ground.data }], guard := none }) rfl (fun K hK => ?_) ?_
          · go_simp
            go_at_call 56
            (try simp only [hwz])
            refine (HWH.out _ (grown_same HPA.out.low (grown_drew1 _)) _ (HS1.out _ (grown_same HPA.out.low (grown_drew1 _))) _ _ (HS2.out _)).mono ?_
            rintro e w3 ⟨rfl, hg3⟩
            obtain ⟨h0, h1, h2, h3, h4, h5⟩ := HCC.out
            have HCC3 := shade (And.intro (hg3.cell h0 (by intro e; cases e)) (And.intro (hg3.cell h1 (by intro e; cases e)) (And.intro (hg3.cell h2 (by intro e; cases e)) (And.intro (hg3.cell h3 (by intro e; cases e)) (And.intro (hg3.cell h4 (by intro e; cases e)) (hg3.cell h5 (by intro e; cases e)))))))
            have HP3 := shade (HPA.out.grown (grown_same (grown_drew1 _) hg3))
            clear hg3 h0 h1 h2 h3 h4 h5
            refine hK.out _ _ ?_ (fun hHeld => ?_)
            · (try dsimp only)
              first | exact HCC3.out | exact HCC.out
            clear hK K
            try simp only [Act.put, List.setIfInBounds_toArray, List.set_cons_zero, List.set_cons_succ]
            refine wpAnyH_ready (rs := [16]) (by kernel_rfl) (by simp) ?_
            refine AllReadyH.cons (o := { dst := some 13, op := Op.assign (Operand.tmp 44), type := 3, pos := "c8_pipe.go:96", after := #[{ on := 15, ground := Ground.data }, { on := 15, ground := Ground.chain }, { on := 0, ground := Ground.phase }, { on := 1, ground := Ground.phase }, { on := 2, ground := Ground.phase }, { on := 3, ground := Ground.phase }, { on := 4, ground := Ground.phase }, { on := 5, ground := Ground.phase }, { on := 6, ground := Ground.phase }, { on := 7, ground := Ground.phase }, { on := 8, ground := Ground.phase }, { on := 9, ground := Ground.phase }, { on := 10, ground := Ground.phase }, { on := 11, ground := Ground.phase }, { on := 12, ground := Ground.phase }, { on := 13, ground := Ground.phase }, { on := 14, ground := Ground.phase }, { on := 15, ground := Ground.phase }], guard := none }) rfl (fun K hK => ?_) ?_
            · go_simp
              refine hK.out _ _ ?_ (fun hHeld => ?_)
              · (try dsimp only)
                first | exact HCC3.out | exact HCC.out
              clear hK K
              try simp only [Act.put, List.setIfInBounds_toArray, List.set_cons_zero, List.set_cons_succ]
              refine wpAnyH_done (by kernel_rfl) ?_ _
              clear hHeld
              have b0 := HP3.out.box.look 0
              simp at b0
              go_wp2_with (first
                | (at_builtin; refine wpList_append_lies _ rfl _ _ 25 rfl w.heap.size 3 i1 (.int .i64 0) 1 8 Tryd.underlying25 HJ.out.1 HJ.out.2.1 HJ.out.2.2.1 HJ.out.2.2.2 rfl (by decide) _ _ _ rfl (World.ownsRow.alloc HP3.out.r _) ⟨w3.heap.size, 0, none⟩ 1 1 [.int .i64 z] rfl rfl (int_new _ _ _) (int_one _) (by omega) (by unfold maxLen; omega) (by omega) (by have := HP3.out.low.size; simp at this ⊢; omega) _ rfl ?_)
                | go_in)
              intro g8 c8 w8 hown8 hgr8 hat8 hlt8
              rw [numL_snoc' _ rd _ HZ.out] at hown8
              have hpa := HP3.out.grown (World.grownBy_alloc w3 (.cells #[.int .i64 z] 3) none)
              have hbx8 := hpa.box.grown hgr8 (fun e => own_not_held hpa.r hpa.box (by decide) e.symm)
              have f8 := hbx8.free 0
              have b80 := hbx8.look 0
              have b81 := hbx8.look 1
              simp at b80 b81
              have HP8 := shade (hpa.app0 hown8 hgr8 (by simpa using hat8))
              clear hown8 hgr8 hat8 hlt8 hbx8 hpa b0
              have HNEW := shade (int_new (w8.setCell ⟨w1.heap.size, 0, none⟩ (.slice (some ⟨g8, 0, none⟩) (0 + 1) c8)) 3 y)
              rw [show (w8.setCell ⟨w1.heap.size, 0, none⟩ (.slice (some ⟨g8, 0, none⟩) (0 + 1) c8)).heap.size = w8.heap.size by simp] at HNEW
              go_wp2_with (first
                | (at_builtin; refine wpList_append_lies _ rfl _ _ 25 rfl w.heap.size 3 i1 (.int .i64 0) 1 8 Tryd.underlying25 HJ.out.1 HJ.out.2.1 HJ.out.2.2.1 HJ.out.2.2.2 rfl (by decide) _ _ _ rfl (World.ownsRow.alloc HP8.out.wk _) ⟨w8.heap.size, 0, none⟩ 1 1 [.int .i64 y] rfl rfl (HNEW.out) (int_one _) (by omega) (by unfold maxLen; omega) (by omega) (by have := HP8.out.low.size; simp at this ⊢; omega) _ rfl ?_)
                | go_in)
              intro g9 c9 w9 hown9 hgr9 hat9 hlt9
              rw [numL_snoc' _ f _ HY.out] at hown9
              have hpb := HP8.out.grown (World.grownBy_alloc _ (.cells #[.int .i64 y] 3) none)
              have hbx9 := hpb.box.grown hgr9 (fun e => own_not_held hpb.wk hpb.box (by decide) e.symm)
              have f9 := hbx9.free 1
              have b90 := hbx9.look 0
              have b91 := hbx9.look 1
              simp at b90 b91
              have cj9 := (bols_on HBJ.out (grown_row' hpb.low hgr9 (fun r e => (World.ownsRow.lt hpb.wk r e).1))).cell hkm
              have HP9 := shade (hpb.app1 hown9 hgr9 (by simpa using hat9))
              clear hown9 hgr9 hat9 hlt9 hbx9 hpb f8 b80 b81
              have d1 : ¬ jb = w1.heap.size := by have := HG.out.size; omega
              have HRK2 := shade HRK.out
              obtain ⟨jv, hjk⟩ : ∃ jv, J 0 = jv := ⟨_, rfl⟩
              rw [hjk] at cj9 HRK2
              rw [Nat.add_zero] at cj9
              rcases jv with _ | _
              all_goals
                go_wp2_with fail
                go_roundw
                case rel => exact ⟨0 + 1, _, _, by omega, by go_num, (by rw [HRK2.out]; simp), HP9.out, fun e => by omega⟩
                case measure => simp [intOf]; omega
            exact AllReadyH.nil
          exact AllReadyH.nil
        · obtain ⟨A2', c2', e2, hN2⟩ := HNW.out _ (grown_drew1 _)
          injection e2 with e2 _ e3
          subst e2 e3
          obtain ⟨g2, o2, rfl, -⟩ := hN2.resolve_left (by omega)
          have HS2 := shade (show Nums _ (some ⟨g2, o2, none⟩) (q + 1) (fun j => if 0 + j < 300 then f (0 + j) else 0) from by
            have h := hN2.sub 0 (q + 1) (by omega) (f' := fun j => if 0 + j < 300 then f (0 + j) else 0) (fun j hj => if_pos (by omega))
            rwa [Nat.add_zero] at h)
          clear hN2 hln hnn hlo hnil HSB
          have s4 : ((q : Int) + 1).toNat = q + 1 := by omega
          have s5 : ¬ q + 1 = 0 := by omega
          have s6 : (q : Int) + 1 ≤ (c : Int) := by omega
          have s7 : (q : Int) + 1 ≤ (c2 : Int) := by omega
          have s8 : (0 : Int) ≤ (q : Int) + 1 := by omega
          go_wp2_with fail
          refine wp_region_held_drew (S := fun w' => w'.cell? ⟨w1.heap.size, 1, none⟩ = some (.slice (some ⟨g2, o2, none⟩) (q + 1) c2) ∧ w'.cell? ⟨wr.heap.size, 0, none⟩ = some (.string op) ∧ w'.cell? ⟨wr.heap.size, 1, none⟩ = some (.int .i64 d) ∧ w'.cell? ⟨wr.heap.size, 2, none⟩ = some (.int .i64 a) ∧ w'.cell? ⟨wr.heap.size, 3, none⟩ = some (.int .i64 b') ∧ w'.cell? ⟨wr.heap.size, 4, none⟩ = some (.int .i64 kk)) (by kernel_rfl) (HCC.out) (fun hHeld => ?_)
          refine wpAnyH_take (i := 0) (oi := { dst := some 29, op := Op.load 53 (Operand.tmp 11), type := 53, pos := "c8_pipe.go:96", after := #[], guard := none }) (v := ?_) rfl (by kernel_rfl) (by kernel_rfl) (by kernel_rfl) (fun _ _ _ h => h) (Or.inl ⟨by rfl, ?_⟩) (by assumption) ?_
          rotate_left
          · intro w' hSw
            (try dsimp only at hSw); obtain ⟨v0', v1', v2', v3', v4', v5'⟩ := hSw
            go_simp
            try with_reducible rfl
          try simp only [Act.put, List.setIfInBounds_toArray, List.set_cons_zero, List.set_cons_succ]
          refine wpAnyH_take (i := 1) (oi := { dst := some 30, op := Op.move (Operand.tmp 9), type := 3, pos := "c8_pipe.go:96", after := #[], guard := none }) (v := ?_) rfl (by kernel_rfl) (by kernel_rfl) (by kernel_rfl) (fun _ _ _ h => h) (Or.inl ⟨by rfl, ?_⟩) (by assumption) ?_
          rotate_left
          · intro w' hSw
            (try dsimp only at hSw); obtain ⟨v0', v1', v2', v3', v4', v5'⟩ := hSw
            go_simp
            try with_reducible rfl
          try simp only [Act.put, List.setIfInBounds_toArray, List.set_cons_zero, List.set_cons_succ]
          refine wpAnyH_take (i := 2) (oi := { dst := some 31, op := Op.binOp BinOp.add 3 (Operand.tmp 30) (Operand.const (Value.int IntKind.i64 1)) 3, type := 3, pos := "c8_pipe.go:96", after := #[{ on := 1, ground := Ground.data }], guard := none }) (v := ?_) rfl (by kernel_rfl) (by kernel_rfl) (by kernel_rfl) (fun _ _ _ h => h) (Or.inl ⟨by rfl, ?_⟩) (by assumption) ?_
          rotate_left
          · intro w' hSw
            (try dsimp only at hSw); obtain ⟨v0', v1', v2', v3', v4', v5'⟩ := hSw
            go_simp
            try with_reducible rfl
          try simp only [Act.put, List.setIfInBounds_toArray, List.set_cons_zero, List.set_cons_succ]
          refine wpAnyH_take (i := 3) (oi := { dst := some 32, op := Op.move (Operand.tmp 0), type := 27, pos := "c8_pipe.go:96", after := #[], guard := none }) (v := ?_) rfl (by kernel_rfl) (by kernel_rfl) (by kernel_rfl) (fun _ _ _ h => h) (Or.inl ⟨by rfl, ?_⟩) (by assumption) ?_
          rotate_left
          · intro w' hSw
            (try dsimp only at hSw); obtain ⟨v0', v1', v2', v3', v4', v5'⟩ := hSw
            go_simp
            try with_reducible rfl
          try simp only [Act.put, List.setIfInBounds_toArray, List.set_cons_zero, List.set_cons_succ]
          refine wpAnyH_take (i := 4) (oi := { dst := some 33, op := Op.move (Operand.tmp 12), type := 3, pos := "c8_pipe.go:96", after := #[], guard := none }) (v := ?_) rfl (by kernel_rfl) (by kernel_rfl) (by kernel_rfl) (fun _ _ _ h => h) (Or.inl ⟨by rfl, ?_⟩) (by assumption) ?_
          rotate_left
          · intro w' hSw
            (try dsimp only at hSw); obtain ⟨v0', v1', v2', v3', v4', v5'⟩ := hSw
            go_simp
            try with_reducible rfl
          try simp only [Act.put, List.setIfInBounds_toArray, List.set_cons_zero, List.set_cons_succ]
          refine wpAnyH_take (i := 5) (oi := { dst := some 34, op := Op.move (Operand.tmp 10), type := 3, pos := "c8_pipe.go:96", after := #[], guard := none }) (v := ?_) rfl (by kernel_rfl) (by kernel_rfl) (by kernel_rfl) (fun _ _ _ h => h) (Or.inl ⟨by rfl, ?_⟩) (by assumption) ?_
          rotate_left
          · intro w' hSw
            (try dsimp only at hSw); obtain ⟨v0', v1', v2', v3', v4', v5'⟩ := hSw
            go_simp
            try with_reducible rfl
          try simp only [Act.put, List.setIfInBounds_toArray, List.set_cons_zero, List.set_cons_succ]
          refine wpAnyH_take (i := 6) (oi := { dst := some 35, op := Op.move (Operand.tmp 10), type := 3, pos := "c8_pipe.go:96", after := #[], guard := none }) (v := ?_) rfl (by kernel_rfl) (by kernel_rfl) (by kernel_rfl) (fun _ _ _ h => h) (Or.inl ⟨by rfl, ?_⟩) (by assumption) ?_
          rotate_left
          · intro w' hSw
            (try dsimp only at hSw); obtain ⟨v0', v1', v2', v3', v4', v5'⟩ := hSw
            go_simp
            try with_reducible rfl
          try simp only [Act.put, List.setIfInBounds_toArray, List.set_cons_zero, List.set_cons_succ]
          refine wpAnyH_take (i := 7) (oi := { dst := some 36, op := Op.slice 27 (Operand.tmp 32) (some (Operand.tmp 33)) (some (Operand.tmp 34)) (some (Operand.tmp 35)), type := 27, pos := "c8_pipe.go:96", after := #[{ on := 3, ground := Ground.data }, { on := 4, ground := Ground.data }, { on := 5, ground := Ground.data }, { on := 6, ground := Ground.data }], guard := none }) (v := ?_) rfl (by kernel_rfl) (by kernel_rfl) (by kernel_rfl) (fun _ _ _ h => h) (Or.inl ⟨by rfl, ?_⟩) (by assumption) ?_
          rotate_left
          · intro w' hSw
            (try dsimp only at hSw); obtain ⟨v0', v1', v2', v3', v4', v5'⟩ := hSw
            go_simp
            try with_reducible rfl
          try simp only [Act.put, List.setIfInBounds_toArray, List.set_cons_zero, List.set_cons_succ]
          refine wpAnyH_take (i := 8) (oi := { dst := some 37, op := Op.fieldAddr 56 (Operand.tmp 8) 1, type := 0, pos := "c8_pipe.go:96", after := #[], guard := none }) (v := ?_) rfl (by kernel_rfl) (by kernel_rfl) (by kernel_rfl) (fun _ _ _ h => h) (Or.inl ⟨by rfl, ?_⟩) (by assumption) ?_
          rotate_left
          · intro w' hSw
            (try dsimp only at hSw); obtain ⟨v0', v1', v2', v3', v4', v5'⟩ := hSw
            go_simp
            try with_reducible rfl
          try simp only [Act.put, List.setIfInBounds_toArray, List.set_cons_zero, List.set_cons_succ]
          refine wpAnyH_take (i := 9) (oi := { dst := some 38, op := Op.load 25 (Operand.tmp 37), type := 25, pos := "c8_pipe.go:96", after := #[{ on := 8, ground := Ground.data }], guard := none }) (v := ?_) rfl (by kernel_rfl) (by kernel_rfl) (by kernel_rfl) (fun _ _ _ h => h) (Or.inl ⟨by rfl, ?_⟩) (by assumption) ?_
          rotate_left
          · intro w' hSw
            (try dsimp only at hSw); obtain ⟨v0', v1', v2', v3', v4', v5'⟩ := hSw
            go_simp
            try with_reducible rfl
          try simp only [Act.put, List.setIfInBounds_toArray, List.set_cons_zero, List.set_cons_succ]
          refine wpAnyH_take (i := 10) (oi := { dst := some 39, op := Op.move (Operand.tmp 12), type := 3, pos := "c8_pipe.go:96", after := #[], guard := none }) (v := ?_) rfl (by kernel_rfl) (by kernel_rfl) (by kernel_rfl) (fun _ _ _ h => h) (Or.inl ⟨by rfl, ?_⟩) (by assumption) ?_
          rotate_left
          · intro w' hSw
            (try dsimp only at hSw); obtain ⟨v0', v1', v2', v3', v4', v5'⟩ := hSw
            go_simp
            try with_reducible rfl
          try simp only [Act.put, List.setIfInBounds_toArray, List.set_cons_zero, List.set_cons_succ]
          refine wpAnyH_take (i := 11) (oi := { dst := some 40, op := Op.move (Operand.tmp 10), type := 3, pos := "c8_pipe.go:96", after := #[], guard := none }) (v := ?_) rfl (by kernel_rfl) (by kernel_rfl) (by kernel_rfl) (fun _ _ _ h => h) (Or.inl ⟨by rfl, ?_⟩) (by assumption) ?_
          rotate_left
          · intro w' hSw
            (try dsimp only at hSw); obtain ⟨v0', v1', v2', v3', v4', v5'⟩ := hSw
            go_simp
            try with_reducible rfl
          try simp only [Act.put, List.setIfInBounds_toArray, List.set_cons_zero, List.set_cons_succ]
          refine wpAnyH_take (i := 12) (oi := { dst := some 41, op := Op.move (Operand.tmp 10), type := 3, pos := "c8_pipe.go:96", after := #[], guard := none }) (v := ?_) rfl (by kernel_rfl) (by kernel_rfl) (by kernel_rfl) (fun _ _ _ h => h) (Or.inl ⟨by rfl, ?_⟩) (by assumption) ?_
          rotate_left
          · intro w' hSw
            (try dsimp only at hSw); obtain ⟨v0', v1', v2', v3', v4', v5'⟩ := hSw
            go_simp
            try with_reducible rfl
          try simp only [Act.put, List.setIfInBounds_toArray, List.set_cons_zero, List.set_cons_succ]
          refine wpAnyH_take (i := 13) (oi := { dst := some 42, op := Op.slice 25 (Operand.tmp 38) (some (Operand.tmp 39)) (some (Operand.tmp 40)) (some (Operand.tmp 41)), type := 25, pos := "c8_pipe.go:96", after := #[{ on := 9, ground := Ground.data }, { on := 10, ground := Ground.data }, { on := 11, ground := Ground.data }, { on := 12, ground := Ground.data }], guard := none }) (v := ?_) rfl (by kernel_rfl) (by kernel_rfl) (by kernel_rfl) (fun _ _ _ h => h) (Or.inl ⟨by rfl, ?_⟩) (by assumption) ?_
          rotate_left
          · intro w' hSw
            (try dsimp only at hSw); obtain ⟨v0', v1', v2', v3', v4', v5'⟩ := hSw
            go_simp
            try with_reducible rfl
          try simp only [Act.put, List.setIfInBounds_toArray, List.set_cons_zero, List.set_cons_succ]
          refine wpAnyH_take (i := 14) (oi := { dst := some 43, op := Op.move (Operand.tmp 2), type := 4, pos := "c8_pipe.go:96", after := #[], guard := none }) (v := ?_) rfl (by kernel_rfl) (by kernel_rfl) (by kernel_rfl) (fun _ _ _ h => h) (Or.inl ⟨by rfl, ?_⟩) (by assumption) ?_
          rotate_left
          · intro w' hSw
            (try dsimp only at hSw); obtain ⟨v0', v1', v2', v3', v4', v5'⟩ := hSw
            go_simp
            try with_reducible rfl
          try simp only [Act.put, List.setIfInBounds_toArray, List.set_cons_zero, List.set_cons_succ]
          refine wpAnyH_ready (rs := [15]) (by kernel_rfl) (by simp) ?_
          refine AllReadyH.cons (o := { dst := some 44, op := Op.call { callee := Callee.value (Operand.func 56), args := #[Operand.tmp 29, Operand.tmp 31, Operand.tmp 36, Operand.tmp 42, Operand.tmp 43], argTypes := #[53, 3, 27, 25, 4] }, type := 3, pos := "c8_pipe.go:96", after := #[{ on := 0, ground := Ground.data }, { on := 2, ground := Ground.data }, { on := 7, ground := Ground.data }, { on := 13, ground := Ground.data }, { on := 14, ground := Ground.data }], guard := none }) rfl (fun K hK => ?_) ?_
          · go_simp
            go_at_call 56
            (try simp only [hwz])
            refine (HWH.out _ (grown_same HPA.out.low (grown_drew1 _)) _ (HS1.out _ (grown_same HPA.out.low (grown_drew1 _))) _ _ HS2.out).mono ?_
            rintro e w3 ⟨rfl, hg3⟩
            obtain ⟨h0, h1, h2, h3, h4, h5⟩ := HCC.out
            have HCC3 := shade (And.intro (hg3.cell h0 (by intro e; cases e)) (And.intro (hg3.cell h1 (by intro e; cases e)) (And.intro (hg3.cell h2 (by intro e; cases e)) (And.intro (hg3.cell h3 (by intro e; cases e)) (And.intro (hg3.cell h4 (by intro e; cases e)) (hg3.cell h5 (by intro e; cases e)))))))
            have HP3 := shade (HPA.out.grown (grown_same (grown_drew1 _) hg3))
            clear hg3 h0 h1 h2 h3 h4 h5
            refine hK.out _ _ ?_ (fun hHeld => ?_)
            · (try dsimp only)
              first | exact HCC3.out | exact HCC.out
            clear hK K
            try simp only [Act.put, List.setIfInBounds_toArray, List.set_cons_zero, List.set_cons_succ]
            refine wpAnyH_ready (rs := [16]) (by kernel_rfl) (by simp) ?_
            refine AllReadyH.cons (o := { dst := some 13, op := Op.assign (Operand.tmp 44), type := 3, pos := "c8_pipe.go:96", after := #[{ on := 15, ground := Ground.data }, { on := 15, ground := Ground.chain }, { on := 0, ground := Ground.phase }, { on := 1, ground := Ground.phase }, { on := 2, ground := Ground.phase }, { on := 3, ground := Ground.phase }, { on := 4, ground := Ground.phase }, { on := 5, ground := Ground.phase }, { on := 6, ground := Ground.phase }, { on := 7, ground := Ground.phase }, { on := 8, ground := Ground.phase }, { on := 9, ground := Ground.phase }, { on := 10, ground := Ground.phase }, { on := 11, ground := Ground.phase }, { on := 12, ground := Ground.phase }, { on := 13, ground := Ground.phase }, { on := 14, ground := Ground.phase }, { on := 15, ground := Ground.phase }], guard := none }) rfl (fun K hK => ?_) ?_
            · go_simp
              refine hK.out _ _ ?_ (fun hHeld => ?_)
              · (try dsimp only)
                first | exact HCC3.out | exact HCC.out
              clear hK K
              try simp only [Act.put, List.setIfInBounds_toArray, List.set_cons_zero, List.set_cons_succ]
              refine wpAnyH_done (by kernel_rfl) ?_ _
              clear hHeld
              have b0 := HP3.out.box.look 0
              simp at b0
              go_wp2_with (first
                | (at_builtin; refine wpList_append_lies _ rfl _ _ 25 rfl w.heap.size 3 i1 (.int .i64 0) 1 8 Tryd.underlying25 HJ.out.1 HJ.out.2.1 HJ.out.2.2.1 HJ.out.2.2.2 rfl (by decide) _ _ _ rfl (World.ownsRow.alloc HP3.out.r _) ⟨w3.heap.size, 0, none⟩ 1 1 [.int .i64 z] rfl rfl (int_new _ _ _) (int_one _) (by omega) (by unfold maxLen; omega) (by omega) (by have := HP3.out.low.size; simp at this ⊢; omega) _ rfl ?_)
                | go_in)
              intro g8 c8 w8 hown8 hgr8 hat8 hlt8
              rw [numL_snoc' _ rd _ HZ.out] at hown8
              have hpa := HP3.out.grown (World.grownBy_alloc w3 (.cells #[.int .i64 z] 3) none)
              have hbx8 := hpa.box.grown hgr8 (fun e => own_not_held hpa.r hpa.box (by decide) e.symm)
              have f8 := hbx8.free 0
              have b80 := hbx8.look 0
              have b81 := hbx8.look 1
              simp at b80 b81
              have HP8 := shade (hpa.app0 hown8 hgr8 (by simpa using hat8))
              clear hown8 hgr8 hat8 hlt8 hbx8 hpa b0
              have HNEW := shade (int_new (w8.setCell ⟨w1.heap.size, 0, none⟩ (.slice (some ⟨g8, 0, none⟩) ((q + 1) + 1) c8)) 3 y)
              rw [show (w8.setCell ⟨w1.heap.size, 0, none⟩ (.slice (some ⟨g8, 0, none⟩) ((q + 1) + 1) c8)).heap.size = w8.heap.size by simp] at HNEW
              go_wp2_with (first
                | (at_builtin; refine wpList_append_lies _ rfl _ _ 25 rfl w.heap.size 3 i1 (.int .i64 0) 1 8 Tryd.underlying25 HJ.out.1 HJ.out.2.1 HJ.out.2.2.1 HJ.out.2.2.2 rfl (by decide) _ _ _ rfl (World.ownsRow.alloc HP8.out.wk _) ⟨w8.heap.size, 0, none⟩ 1 1 [.int .i64 y] rfl rfl (HNEW.out) (int_one _) (by omega) (by unfold maxLen; omega) (by omega) (by have := HP8.out.low.size; simp at this ⊢; omega) _ rfl ?_)
                | go_in)
              intro g9 c9 w9 hown9 hgr9 hat9 hlt9
              rw [numL_snoc' _ f _ HY.out] at hown9
              have hpb := HP8.out.grown (World.grownBy_alloc _ (.cells #[.int .i64 y] 3) none)
              have hbx9 := hpb.box.grown hgr9 (fun e => own_not_held hpb.wk hpb.box (by decide) e.symm)
              have f9 := hbx9.free 1
              have b90 := hbx9.look 0
              have b91 := hbx9.look 1
              simp at b90 b91
              have cj9 := (bols_on HBJ.out (grown_row' hpb.low hgr9 (fun r e => (World.ownsRow.lt hpb.wk r e).1))).cell hkm
              have HP9 := shade (hpb.app1 hown9 hgr9 (by simpa using hat9))
              clear hown9 hgr9 hat9 hlt9 hbx9 hpb f8 b80 b81
              have d1 : ¬ jb = w1.heap.size := by have := HG.out.size; omega
              have HRK2 := shade HRK.out
              obtain ⟨jv, hjk⟩ : ∃ jv, J (q + 1) = jv := ⟨_, rfl⟩
              rw [hjk] at cj9 HRK2
              clear hjk
              rcases jv with _ | _
              all_goals
                go_wp2_with fail
                go_roundw
                case rel => exact ⟨(q + 1) + 1, _, _, by omega, by go_num, (by rw [HRK2.out]; simp), HP9.out, fun e => by omega⟩
                case measure => simp [intOf]; omega
            exact AllReadyH.nil
          exact AllReadyH.nil
    · obtain rfl : k = m := by omega
      have b0 := HP.out.box.look 0; have b1 := HP.out.box.look 1
      have x0 := HP.out.res.look 0; have x1 := HP.out.res.look 1
      have f0 := HP.out.res.free 0; have f1 := HP.out.res.free 1
      simp at b0 b1 x0 x1
      have hx2 := (HP.out.res.put 0 (.slice A1 k c1)).put 1 (.slice A2 k c2)
      simp at hx2
      have g1 : wr.grownBy ((wr.setCell ⟨w.heap.size, 0, none⟩ (.slice A1 k c1)).setCell ⟨w.heap.size, 1, none⟩ (.slice A2 k c2)) (some w.heap.size) := grown_same (grown_set w.heap.size 0 (.slice A1 k c1)) (grown_set w.heap.size 1 (.slice A2 k c2))
      have HG9 := shade (grown_then HP.out.low g1 (Nat.le_refl _))
      have HT9 := shade (World.ownsRow.kept HP.out.r g1 (.inr (own_not_held HP.out.r HP.out.res (by decide))))
      have HR9 := shade (World.ownsRow.kept HP.out.wk g1 (.inr (own_not_held HP.out.wk HP.out.res (by decide))))
      have HX9 := shade hx2
      clear hx2 g1
      go_wp2_with fail
      obtain ⟨W2, hW2⟩ : ∃ W2, (wr.setCell ⟨w.heap.size, 0, none⟩ (.slice A1 k c1)).setCell ⟨w.heap.size, 1, none⟩ (.slice A2 k c2) = W2 := ⟨_, rfl⟩
      rw [hW2] at HG9 HT9 HR9 HX9 ⊢
      clear hW2 b0 b1 x0 x1 f0 f1
      have x0 := HX9.out.look 0; have x1 := HX9.out.look 1
      simp at x0 x1
      refine bodyPost_ret (by simp [results, Tryd.results43, go_sem, x0, x1]; try rfl) rfl ?_
      exact ⟨_, _, rfl, HT9.out, HR9.out, HG9.out⟩
end Go.Proofs.YtlmjbflnfpccdaaDoor

namespace Go.Proofs.YtlmjbflnfpccdaaDoor
open Go.RowKit
set_option linter.unusedSimpArgs false
set_option maxRecDepth 100000 in
set_option maxHeartbeats 4000000 in
theorem pipeOf_no (A : Option Addr) (n c : Nat) (F : Nat → Ins) (AJ : Option Addr) (m cj : Nat) (fw : Bool) (rd f : Nat → Int) (w : World) (hw : WT w) (hn : n ≤ 9223372036854775807) (hv : vpB n F m = false) (h : Code w A n F) :
    Calls Tryd.prog 43 #[.slice A n c, .slice AJ m cj, .bool fw] w (PipRes 0 rd f false w) := by
  have hw0 := hw.alloc (.cells #[.slice none 0 0, .slice none 0 0] 56)
  have hg0 := World.grownBy_alloc w (.cells #[.slice none 0 0, .slice none 0 0] 56) none
  have HM := shade (mayPass_any A n c F AJ m cj _ hw0 hn (h.on hg0))
  rw [hv] at HM
  have HX0 := shade (Holds5.fresh w 56 #[.slice none 0 0, .slice none 0 0])
  have HG0 := shade hg0
  clear hw0 hg0 hv h hw
  go_enter Tryd.func43, Tryd.ntmps43
  go_wp2_with fail
  refine HM.out.mono ?_
  rintro e w1 ⟨rfl, hg⟩
  have HG := shade (grown_same HG0.out hg)
  have hx1 := HX0.out.grown hg (by intro e; cases e)
  have x0 := hx1.look 0; have x1 := hx1.look 1
  have f0 := hx1.free 0; have f1 := hx1.free 1
  simp at x0 x1
  have hx2 := (hx1.put 0 (.slice none 0 0)).put 1 (.slice none 0 0)
  simp at hx2
  have g1 : w1.grownBy ((w1.setCell ⟨w.heap.size, 0, none⟩ (.slice none 0 0)).setCell ⟨w.heap.size, 1, none⟩ (.slice none 0 0)) (some w.heap.size) := grown_same (grown_set w.heap.size 0 (.slice none 0 0)) (grown_set w.heap.size 1 (.slice none 0 0))
  have HG9 := shade (grown_then HG.out g1 (Nat.le_refl _))
  have HX9 := shade hx2
  clear hx2 g1 hx1 hg HM HX0 HG0
  go_wp2_with fail
  obtain ⟨W2, hW2⟩ : ∃ W2, (w1.setCell ⟨w.heap.size, 0, none⟩ (.slice none 0 0)).setCell ⟨w.heap.size, 1, none⟩ (.slice none 0 0) = W2 := ⟨_, rfl⟩
  rw [hW2] at HG9 HX9 ⊢
  clear hW2 x0 x1 f0 f1
  have x0 := HX9.out.look 0; have x1 := HX9.out.look 1
  simp at x0 x1
  refine bodyPost_ret (by simp [results, Tryd.results43, go_sem, x0, x1]; try rfl) rfl ?_
  exact ⟨_, _, rfl, World.ownsRow_nil _ _ _ _, World.ownsRow_nil _ _ _ _, HG9.out⟩
set_option maxRecDepth 100000 in
set_option maxHeartbeats 4000000 in
theorem pipeOf_zero (A : Option Addr) (c : Nat) (F : Nat → Ins) (AJ : Option Addr) (cj : Nat) (fw : Bool) (rd f : Nat → Int) (w : World) (hw : WT w) :
    Calls Tryd.prog 43 #[.slice A 0 c, .slice AJ 0 cj, .bool fw] w (PipRes 0 rd f true w) := by
  have hw0 := hw.alloc (.cells #[.slice none 0 0, .slice none 0 0] 56)
  have hg0 := World.grownBy_alloc w (.cells #[.slice none 0 0, .slice none 0 0] 56) none
  have HM := shade (mayPass_any A 0 c F AJ 0 cj _ hw0 (by omega) (.inl rfl))
  rw [show vpB 0 F 0 = true from rfl] at HM
  have HX0 := shade (Holds5.fresh w 56 #[.slice none 0 0, .slice none 0 0])
  have HG0 := shade hg0
  have hz0 : (w.alloc (.cells #[.slice none 0 0, .slice none 0 0] 56)).heap.size = w.heap.size + 1 := by simp
  clear hw0 hg0 hw
  go_enter Tryd.func43, Tryd.ntmps43
  go_wp2_with fail
  refine HM.out.mono ?_
  rintro e w1 ⟨rfl, hg⟩
  have hs1 := hg.size
  have hx1 := (HX0.out.grown hg (by intro e; cases e)).alloc (.cells #[.slice none 0 0, .slice none 0 0] 56)
  have HG := shade (grown_same (grown_same HG0.out hg) (World.grownBy_alloc w1 (.cells #[.slice none 0 0, .slice none 0 0] 56) none))
  have hb1 := Holds5.fresh w1 56 #[.slice none 0 0, .slice none 0 0]
  have d1 : ¬ w1.heap.size = w.heap.size := by omega
  have d2 : ¬ w.heap.size = w1.heap.size := by omega
  go_wp2_with fail
  refine wp_loop_rounds 1 ?_
  rw [rounds_succ]
  obtain ⟨W1, hW1⟩ : ∃ W1, w1.alloc (.cells #[.slice none 0 0, .slice none 0 0] 56) = W1 := ⟨_, rfl⟩
  rw [hW1] at HG hx1 hb1 ⊢
  clear hW1 hg HX0 HG0 HM
  have x0 := hx1.look 0; have x1 := hx1.look 1
  have f0 := hx1.free 0; have f1 := hx1.free 1
  have y0 := hb1.look 0; have y1 := hb1.look 1
  simp at x0 x1 y0 y1
  have hx2 := (hx1.put 0 (.slice none 0 0)).put 1 (.slice none 0 0)
  simp at hx2
  have g1 : W1.grownBy ((W1.setCell ⟨w.heap.size, 0, none⟩ (.slice none 0 0)).setCell ⟨w.heap.size, 1, none⟩ (.slice none 0 0)) (some w.heap.size) := grown_same (grown_set w.heap.size 0 (.slice none 0 0)) (grown_set w.heap.size 1 (.slice none 0 0))
  have HG9 := shade (grown_then HG.out g1 (Nat.le_refl _))
  have HX9 := shade hx2
  clear hx2 g1 hx1 hb1
  go_wp2_with fail
  obtain ⟨W2, hW2⟩ : ∃ W2, (W1.setCell ⟨w.heap.size, 0, none⟩ (.slice none 0 0)).setCell ⟨w.heap.size, 1, none⟩ (.slice none 0 0) = W2 := ⟨_, rfl⟩
  rw [hW2] at HG9 HX9 ⊢
  clear hW2 x0 x1 f0 f1 y0 y1
  have x0 := HX9.out.look 0; have x1 := HX9.out.look 1
  simp at x0 x1
  refine bodyPost_ret (by simp [results, Tryd.results43, go_sem, x0, x1]; try rfl) rfl ?_
  exact ⟨_, _, rfl, World.ownsRow_nil _ _ _ _, World.ownsRow_nil _ _ _ _, HG9.out⟩
theorem pipeOf_any (A : Option Addr) (n c : Nat) (F : Nat → Ins) (AJ : Option Addr) (m cj : Nat) (J : Nat → Bool) (fw : Bool) (w : World) (hw : WT w) (hn : n ≤ 9223372036854775807) (hc : n ≤ c) (h : Code w A n F) (hj : Bols w AJ m J) :
    Calls Tryd.prog 43 #[.slice A n c, .slice AJ m cj, .bool fw] w (PipRes (nP n F m) (rdP J (pk F J fw)) (pk F J fw) (vpB n F m) w) := by
  rcases hv : vpB n F m with _ | _
  · rw [nP_no hv]
    exact pipeOf_no A n c F AJ m cj fw _ _ w hw hn hv h
  · rw [nP_yes hv]
    obtain ⟨-, rfl, -⟩ := vpB_yes hv
    by_cases h0 : m = 0
    · subst h0
      exact pipeOf_zero A c F AJ cj fw _ _ w hw
    · obtain ⟨b, off, rfl, _⟩ := h.resolve_left h0
      exact pipeOf_at b off m c F AJ cj J fw w hw hc hv h hj
set_option maxHeartbeats 4000000 in
theorem IPipeTicks_any (A : Option Addr) (n c : Nat) (F : Nat → Ins) (AJ : Option Addr) (m cj : Nat) (J : Nat → Bool) (fw : Bool) (w : World) (hw : WT w) (hn : n ≤ 9223372036854775807) (hc : n ≤ c) (h : Code w A n F) (hj : Bols w AJ m J) :
    Calls Tryd.prog 15 #[.slice A n c, .slice AJ m cj, .bool fw] w (NumRes (nP n F m) (pk F J fw) w) := by
  have HP := shade (pipeOf_any A n c F AJ m cj J fw w hw hn hc h hj)
  clear hw hc h hj
  go_enter Tryd.func15, Tryd.ntmps15
  go_wp2_with fail
  refine HP.out.mono ?_
  rintro e w1 ⟨rv, wv, rfl, hr, hwk, hg⟩
  have HR := shade (ownsRow_on hwk (World.grownBy_alloc w1 (.cells #[rv, wv] 56) none))
  have HG := shade (grown_same hg (World.grownBy_alloc w1 (.cells #[rv, wv] 56) none))
  obtain ⟨A1, c1, rfl, -⟩ := ownsRow_slice hr
  obtain ⟨A2, c2, rfl, -⟩ := ownsRow_slice hwk
  clear hr hwk hg HP
  go_wp2_with fail
  go_ret
  exact ⟨_, rfl, HR.out, HG.out⟩
theorem ticks_both (n : Nat) (F : Nat → Ins) (m : Nat) (J : Nat → Bool) (fw : Bool) (hn : n ≤ 9223372036854775807) :
    ∃ (K : Nat) (f : Nat → Int), K ≤ 300 ∧ (∀ (A : Option Addr) (c : Nat) (AJ : Option Addr) (cj : Nat) (W : World), Code W A n F → Bols W AJ m J → Calls Tryd.prog 12 #[.slice A n c, .slice AJ m cj, .bool fw] W (NumRes K f W)) ∧
      (∀ (A : Option Addr) (AJ : Option Addr) (cj : Nat) (W : World), WT W → Code W A n F → Bols W AJ m J → Calls Tryd.prog 15 #[.slice A n n, .slice AJ m cj, .bool fw] W (NumRes K f W)) :=
  ⟨nP n F m, _, nP_le n m F, fun A c AJ cj W h hj => SPipeTicks_any A n c F AJ m cj J fw W hn h hj, fun A AJ cj W hW h hj => IPipeTicks_any A n n F AJ m cj J fw W hW hn (Nat.le_refl _) h hj⟩
end Go.Proofs.YtlmjbflnfpccdaaDoor

namespace Go.Proofs.YtlmjbflnfpccdaaDoor
open Go.RowKit
set_option linter.unusedSimpArgs false
set_option maxRecDepth 100000 in
set_option maxHeartbeats 4000000 in
theorem time_any (Ar : Option Addr) (cr : Nat) (A2 : Option Addr) (n kr c2 : Nat) (f : Nat → Int) (w : World) (hf : ∀ j, 2 ≤ f j ∧ f j ≤ 3 * (j : Int) + 2) (hn : n ≤ 300) (h : Nums w A2 n f) :
    Calls Tryd.prog 46 #[.agg #[.slice Ar kr cr, .slice A2 n c2]] w fun e w' => e = .returned (.int .i64 (ptm n f)) ∧ w.grownBy w' none := by
  unfold ptm
  have hg := World.grownBy_alloc w (.cells #[.slice Ar kr cr, .slice A2 n c2] 56) none
  rcases n with _ | q
  · rw [if_pos rfl]
    go_enter Tryd.func46, Tryd.ntmps46
    go_wp2_with fail
    go_ret
    exact ⟨rfl, hg⟩
  · rw [if_neg (by omega), show q + 1 - 1 = q from rfl]
    have hr := hf q
    obtain ⟨b, o, rfl, hb, -⟩ := h.resolve_left (by omega)
    have c0 := h.cell (show q < q + 1 by omega)
    have c1 := hg.cell c0 (by intro e; cases e)
    obtain ⟨z, hz⟩ : ∃ z, f q = z := ⟨_, rfl⟩
    rw [hz] at hr c0 c1 ⊢
    clear hz
    have i1 : (q : Int) < (q : Int) + 1 := by omega
    have i2 : (0 : Int) ≤ (q : Int) := by omega
    go_enter Tryd.func46, Tryd.ntmps46
    go_wp2_with fail
    go_ret
    exact ⟨(by show Ending.returned (Value.int .i64 (z + 5 - 2)) = Ending.returned (Value.int .i64 (z + 3)); congr 2; omega), hg⟩
set_option maxRecDepth 100000 in
set_option maxHeartbeats 4000000 in
theorem IPipeTime_any (A : Option Addr) (n c : Nat) (F : Nat → Ins) (AJ : Option Addr) (m cj : Nat) (J : Nat → Bool) (fw : Bool) (w : World) (hw : WT w) (hn : n ≤ 9223372036854775807) (hc : n ≤ c) (h : Code w A n F) (hj : Bols w AJ m J) :
    Calls Tryd.prog 24 #[.slice A n c, .slice AJ m cj, .bool fw] w fun e w' => e = .returned (.int .i64 (tmP n F m J fw)) ∧ w.grownBy w' none := by
  have HP := shade (pipeOf_any A n c F AJ m cj J fw w hw hn hc h hj)
  rcases hv : vpB n F m with _ | _
  · rw [tmP_no hv]
    rw [hv] at HP
    clear hw hc h hj hv
    go_enter Tryd.func24, Tryd.ntmps24
    go_wp2_with fail
    refine HP.out.mono ?_
    rintro e w1 ⟨rv, wv, rfl, hr, hwk, hg⟩
    have HG := shade (grown_same hg (World.grownBy_alloc w1 (.cells #[rv, wv] 56) none))
    obtain ⟨A1, c1, rfl, -⟩ := ownsRow_slice hr
    obtain ⟨A2, c2, rfl, -⟩ := ownsRow_slice hwk
    clear hr hwk hg HP
    go_wp2_with fail
    go_ret
    exact ⟨rfl, HG.out⟩
  · rw [tmP_yes hv]
    have hP := nP_yes hv
    rw [hv, hP] at HP
    have h3 := (vpB_yes hv).1
    clear hw hc h hj hv hP
    go_enter Tryd.func24, Tryd.ntmps24
    go_wp2_with fail
    refine HP.out.mono ?_
    rintro e w1 ⟨rv, wv, rfl, hr, hwk, hg⟩
    have hg1 := World.grownBy_alloc w1 (.cells #[rv, wv] 56) none
    have HG := shade (grown_same hg hg1)
    obtain ⟨A1, c1, rfl, -⟩ := ownsRow_slice hr
    obtain ⟨A2, c2, rfl, -⟩ := ownsRow_slice hwk
    obtain ⟨A2', c2', e2, hN⟩ := (show RowO w1 w.heap.size w1.heap.size 3 (.slice A2 n c2) n (numL n (pk F J fw)) from ⟨hwk, fun i hi => (World.ownsRow.lt hwk i hi).2⟩).nums
    injection e2 with e2 _ e3
    subst e2 e3
    have HT := shade (fun W (hW : w1.grownBy W none) => time_any A1 c1 A2 n n c2 (pk F J fw) W (pk_rng F J fw) h3 (hN.grown hW (by intro _ _ _ e; cases e)))
    clear hr hwk hg HP hN
    have hb := Holds5.fresh w1 56 #[.slice A1 n c1, .slice A2 n c2]
    have HG1 := shade hg1
    clear hg1
    go_wp2_with fail
    refine (HT.out _ HG1.out).mono ?_
    rintro e w2 ⟨rfl, hg2⟩
    have HG2 := shade (grown_same HG.out hg2)
    clear hg2
    go_wp2_with fail
    go_ret
    exact ⟨rfl, HG2.out⟩
theorem time8_both (n : Nat) (F : Nat → Ins) (m : Nat) (J : Nat → Bool) (fw : Bool) (hn : n ≤ 9223372036854775807) :
    ∃ (v : Int), (∀ (A : Option Addr) (c : Nat) (AJ : Option Addr) (cj : Nat) (W : World), Code W A n F → Bols W AJ m J → Calls Tryd.prog 23 #[.slice A n c, .slice AJ m cj, .bool fw] W (fun e w' => e = .returned (.int .i64 v) ∧ W.grownBy w' none)) ∧
      (∀ (A : Option Addr) (AJ : Option Addr) (cj : Nat) (W : World), WT W → Code W A n F → Bols W AJ m J → Calls Tryd.prog 24 #[.slice A n n, .slice AJ m cj, .bool fw] W (fun e w' => e = .returned (.int .i64 v) ∧ W.grownBy w' none)) :=
  ⟨_, fun A c AJ cj W h hj => SPipeTime_any A n c F AJ m cj J fw W hn h hj, fun A AJ cj W hW h hj => IPipeTime_any A n n F AJ m cj J fw W hW hn (Nat.le_refl _) h hj⟩
end Go.Proofs.YtlmjbflnfpccdaaDoor

namespace Go.Proofs.YtlmjbflnfpccdaaDoor
open Go.RowKit
set_option linter.unusedSimpArgs false
theorem Bols.sub0 {W : World} {b off n : Nat} {f : Nat → Bool} (h : Bols W (some ⟨b, off, none⟩) n f) (m : Nat) (hm : m ≤ n) : Bols W (some ⟨b, off, none⟩) m f := by
  by_cases h0 : m = 0
  · exact .inl h0
  · obtain ⟨b', off', e, hb, hc⟩ := h.resolve_left (by omega)
    exact .inr ⟨b', off', e, hb, fun j hj => hc j (by omega)⟩
set_option maxRecDepth 100000 in
set_option maxHeartbeats 8000000 in
theorem IStallsOf_any (A : Option Addr) (n c : Nat) (F : Nat → Ins) (AJ : Option Addr) (m cj : Nat) (J : Nat → Bool) (fw : Bool) (w : World) (hw : WT w) (hn : n ≤ 9223372036854775807) (hc : n ≤ c) (hcj : m ≤ cj) (h : Code w A n F) (hj : Bols w AJ m J) :
    Calls Tryd.prog 31 #[.slice A n c, .slice AJ m cj, .bool fw] w fun e w' => e = .returned (.tuple #[.int .i64 (saP n F m J), .int .i64 (sbP n F m J fw)]) ∧ w.grownBy w' none := by
  have HP := shade (pipeOf_any A n c F AJ m cj J fw w hw hn hc h hj)
  rcases hv : vpB n F m with _ | _
  · rw [saP_no hv, sbP_no hv]
    rw [hv] at HP
    clear hw hc h hj hv
    go_enter Tryd.func31, Tryd.ntmps31
    go_wp2_with fail
    refine HP.out.mono ?_
    rintro e w1 ⟨rv, wv, rfl, hr, hwk, hg⟩
    have HG := shade (grown_same hg (World.grownBy_alloc w1 (.cells #[rv, wv] 56) none))
    obtain ⟨A1, c1, rfl, -⟩ := ownsRow_slice hr
    obtain ⟨A2, c2, rfl, -⟩ := ownsRow_slice hwk
    clear hr hwk hg HP
    go_wp2_with fail
    go_ret2
    exact ⟨rfl, HG.out⟩
  · rw [saP_yes hv, sbP_yes hv]
    have hP := nP_yes hv
    rw [hv, hP] at HP
    obtain ⟨h3, rfl, -⟩ := vpB_yes hv
    have HBJ := shade hj
    clear hw hc h hj hv hP
    rcases m with _ | q
    · rw [if_pos rfl]
      go_enter Tryd.func31, Tryd.ntmps31
      go_wp2_with fail
      refine HP.out.mono ?_
      rintro e w1 ⟨rv, wv, rfl, hr, hwk, hg⟩
      have HG := shade (grown_same hg (World.grownBy_alloc w1 (.cells #[rv, wv] 56) none))
      obtain ⟨A1, c1, rfl, -⟩ := ownsRow_slice hr
      obtain ⟨A2, c2, rfl, -⟩ := ownsRow_slice hwk
      clear hr hwk hg HP
      go_wp2_with fail
      go_ret2
      exact ⟨rfl, HG.out⟩
    · rw [if_neg (by omega), show q + 1 - 1 = q from rfl]
      have hr := pk_rng F J fw q
      have hT : ptm (q + 1) (pk F J fw) = pk F J fw q + 3 := if_neg (by omega)
      rw [hT]
      obtain ⟨z, hz⟩ : ∃ z, pk F J fw q = z := ⟨_, rfl⟩
      rw [hz] at hr hT ⊢
      clear hz
      obtain ⟨jb, jo, rfl, hjb, -⟩ := HBJ.out.resolve_left (by omega)
      have s1 : (q : Int) ≤ (cj : Int) := by omega
      have s2 : (0 : Int) ≤ (q : Int) := by omega
      have s3 : (q : Int) + 1 ≤ (cj : Int) := by omega
      have s4 : (q : Int) ≤ (q : Int) + 1 := by omega
      go_enter Tryd.func31, Tryd.ntmps31
      go_wp2_with fail
      refine HP.out.mono ?_
      rintro e w1 ⟨rv, wv, rfl, hr, hwk, hg⟩
      have hg1 := World.grownBy_alloc w1 (.cells #[rv, wv] 56) none
      have HG := shade (grown_same hg hg1)
      obtain ⟨A1, c1, rfl, -⟩ := ownsRow_slice hr
      obtain ⟨A2, c2, rfl, -⟩ := ownsRow_slice hwk
      obtain ⟨A2', c2', e2, hN⟩ := (show RowO w1 w.heap.size w1.heap.size 3 (.slice A2 (q + 1) c2) (q + 1) (numL (q + 1) (pk F J fw)) from ⟨hwk, fun i hi => (World.ownsRow.lt hwk i hi).2⟩).nums
      injection e2 with e2 _ e3
      subst e2 e3
      have HT := shade (fun W (hW : w1.grownBy W none) => show Calls Tryd.prog 46 #[.agg #[.slice A1 (q + 1) c1, .slice A2 (q + 1) c2]] W (fun e w' => e = .returned (.int .i64 (z + 3)) ∧ W.grownBy w' none) from hT ▸ time_any A1 c1 A2 (q + 1) (q + 1) c2 (pk F J fw) W (pk_rng F J fw) h3 (hN.grown hW (by intro _ _ _ e; cases e)))
      have HB := shade (Holds5.fresh w1 56 #[.slice A1 (q + 1) c1, .slice A2 (q + 1) c2])
      have HG1 := shade hg1
      clear hr hwk hg HP hN hg1
      go_wp2_with fail
      go_loopw [10, 31] (fun v k wr => ∃ j : Nat, j ≤ q ∧ k = .int .i64 (j : Int) ∧ v = .int .i64 (bub J j) ∧ Holds5 wr w1.heap.size 56 #[.slice A1 (q + 1) c1, .slice A2 (q + 1) c2] ∧ w1.grownBy wr none ∧ w.grownBy wr none) (fun _ k _ => q - (intOf k).toNat)
      case atStart => exact ⟨0, Nat.zero_le _, rfl, rfl, HB.out, HG1.out, HG.out⟩
      case round =>
        clear HG HB HG1
        obtain ⟨j, hjq, rfl, rfl, hb, hg1, hg⟩ := hrel
        have HG := shade hg; have HG1 := shade hg1; have HB := shade hb
        clear hg hg1 hb
        have hb := bub_rng J j
        by_cases hlt : j < q
        · have hc := (bols_on HBJ.out HG.out).cell (show j < q + 1 by omega)
          have hs : bub J (j + 1) = bub J j + (if J j = true then 2 else 0) := rfl
          have i1 : (j : Int) < (q : Int) := by omega
          have i2 : (0 : Int) ≤ (j : Int) := by omega
          generalize bub J j = y at *
          have HS := shade hs
          rcases hjj : J j with _ | _
          all_goals
            rw [hjj] at hc HS
            clear hs hjj
            go_wp2_with fail
            go_roundw
            case rel => exact ⟨j + 1, by omega, by go_num, (by rw [HS.out]; simp), HB.out, HG1.out, HG.out⟩
            case measure => simp [intOf]; omega
        · obtain rfl : j = q := by omega
          have y0 := HB.out.look 0; have y1 := HB.out.look 1
          simp at y0 y1
          go_wp2_with fail
          refine (HT.out _ HG1.out).mono ?_
          rintro e w2 ⟨rfl, hg2⟩
          have HG2 := shade (grown_same HG.out hg2)
          clear hg2
          go_wp2_with fail
          have hfin : z + 3 - ((j : Int) + 1 + 5 - 1) - bub J j = z + 3 - ((j + 1 : Nat) : Int) - 4 - bub J j := by omega
          go_ret2
          refine ⟨?_, HG2.out⟩
          show Ending.returned (Value.tuple #[.int .i64 (bub J j), .int .i64 (z + 3 - ((j : Int) + 1 + 5 - 1) - bub J j)]) = _
          first
            | rw [hfin]
            | (congr 4; omega)
            | (congr 5; omega)
            | (congr 6; omega)
theorem stalls_both (n : Nat) (F : Nat → Ins) (m : Nat) (J : Nat → Bool) (fw : Bool) (hn : n ≤ 9223372036854775807) :
    ∃ (v0 v1 : Int), (∀ (A : Option Addr) (c : Nat) (AJ : Option Addr) (cj : Nat) (W : World), Code W A n F → Bols W AJ m J → Calls Tryd.prog 30 #[.slice A n c, .slice AJ m cj, .bool fw] W (fun e w' => e = .returned (.tuple #[.int .i64 v0, .int .i64 v1]) ∧ W.grownBy w' none)) ∧
      (∀ (A : Option Addr) (AJ : Option Addr) (W : World), WT W → Code W A n F → Bols W AJ m J → Calls Tryd.prog 31 #[.slice A n n, .slice AJ m m, .bool fw] W (fun e w' => e = .returned (.tuple #[.int .i64 v0, .int .i64 v1]) ∧ W.grownBy w' none)) :=
  ⟨_, _, fun A c AJ cj W h hj => SStallsOf_any A n c F AJ m cj J fw W hn h hj, fun A AJ W hW h hj => IStallsOf_any A n n F AJ m m J fw W hW hn (Nat.le_refl _) (Nat.le_refl _) h hj⟩
end Go.Proofs.YtlmjbflnfpccdaaDoor
