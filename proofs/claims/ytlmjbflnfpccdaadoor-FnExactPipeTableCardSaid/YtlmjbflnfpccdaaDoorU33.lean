/- When all that an instruction reads is there, by the program. -/
import Derived.Test.YtlmjbflnfpccdaaDoorG30
import Derived.Test.YtlmjbflnfpccdaaDoorW958
import Derived.Deep.RegionHeld
namespace Go.Proofs.YtlmjbflnfpccdaaDoor
open Go.RowKit Go.Shelf
set_option linter.unusedSimpArgs false
attribute [local go_sem] Oper.semAt_some
/-- A region that draws, in a round's frame, by the held walk of a plain frame. -/
theorem wpOpIn_round_held {l m : Nat} {P : Program} {ops : Array Oper} {Q : Exit → Act → World → Prop} {i : Nat} {K K' : Act → World → Prop} {a : Act} {w : World} (hd : ∀ (i : Nat) (o : Oper), ops[i]? = some o → ∀ c, o.op ≠ .defer c) (hL : ¬ LetsOut Q) (hk : ∀ a w, K a w → K' a w) (h : wpOp P ops Q i K a w) :
    wpOpIn (Fence.wide.inRound l) m P ops Q i K' a w := by
  unfold wpOp at h
  unfold wpOpIn
  cases ho : ops[i]? with
  | none =>
    rw [ho] at h
    exact hk _ _ h
  | some o =>
    rw [ho] at h
    dsimp only at h ⊢
    by_cases hw : Region.wanted o (yielded ops a.tmps) = true
    · rw [if_pos hw] at h ⊢
      rcases h with h | ⟨_, h⟩
      · refine ⟨fun f _ => trivial, ?_⟩
        rw [Fence.inRound_round, Oper.semAt_some l _ o (hd i o ho)]
        have h := Oper.wp_mono hk h
        unfold Oper.wp at h
        generalize (execOp a.eval o).run P w = r at *
        cases r with
        | ok nx w' =>
          cases nx <;> simp only [Oper.upon, Oper.uponIn] at h ⊢
          all_goals first
            | exact h
            | exact h.elim
            | exact ⟨(by intro e; cases e), CallsIn.inRound l (callsIn_wide.2 h)⟩
            | exact ⟨(by intro e; cases e), fun c cs _ => (h c cs).elim fun v h1 => h1.elim fun w2 h2 => ⟨v, w2, h2.1, stepsIn_wide.2 h2.2⟩⟩
        | halt x w' =>
          cases x <;> simp only [Oper.upon, Oper.uponIn] at h ⊢
          all_goals exact h
      · exact absurd h hL
    · rw [if_neg hw] at h ⊢
      exact ⟨fun _ _ => trivial, hk _ _ h⟩
theorem wpAnyIn_round_held {l m : Nat} {P : Program} {md : Region.Mode} {ops : Array Oper} {Q : Exit → Act → World → Prop} (hd : ∀ (i : Nat) (o : Oper), ops[i]? = some o → ∀ c, o.op ≠ .defer c) (hL : ¬ LetsOut Q) : ∀ (fuel : Nat) (listed : Array Bool) (a : Act) (w : World),
    wpAny P md ops Q fuel listed a w → wpAnyIn (Fence.wide.inRound l) m P md ops Q fuel listed a w
  | 0, _, _, _, h => h
  | fuel + 1, _, _, _, h => ⟨h.1, fun i hi => wpOpIn_round_held hd hL (fun a' w' h' => wpAnyIn_round_held hd hL fuel _ a' w' h') (h.2 i hi)⟩
def notDefer (o : Oper) : Bool := match o.op with | .defer _ => false | _ => true
theorem notDefer_all {ops : Array Oper} (h : ops.toList.all notDefer = true) (i : Nat) (o : Oper) (hi : ops[i]? = some o) (c) : o.op ≠ .defer c := fun e => by
  have h1 := List.all_eq_true.1 h o (by
    rw [← Array.getElem?_toList] at hi
    exact List.mem_of_getElem? hi)
  unfold notDefer at h1
  rw [e] at h1
  cases h1
theorem wpIn_region_round_held {l m id : Nat} {P : Program} {ops : Array Oper} {Q : Exit → Act → World → Prop} {a : Act} {w : World} {S : World → Prop} (hd : ops.toList.all notDefer = true) (hL : ¬ LetsOut Q) (hm : P.follows .mixedOrders = true) (hS : S w.drew)
    (h : S w.drew → wpAnyH P .any ops Q S ops.size (Array.replicate ops.size false) a w.drew) : (Code.region id ops true).wpIn (Fence.wide.inRound l) m P Q a w :=
  wpIn_region_any hm (wpAnyIn_round_held (notDefer_all hd) hL _ _ _ _ (wpAny_of_held _ _ _ _ (h hS)))
/-- How far an instruction is behind those ahead of it: by what is left of what it reads. -/
def wlI (c : Ins) (F : Nat → Ins) (fw : Bool) (n t : Nat) : Int := if (bits .and .i64 (lft (rdI c) (fun j => wrI (F j)) n t) (wrI (F (n - 1 - t))) != 0) = true then lg (F (n - 1 - t)) fw else 0
/-- One round: the tick, and what is left of what is read. -/
def wst (F : Nat → Ins) (fw : Bool) (f : Nat → Int) (s : Int × Int) (i : Nat) : Int × Int := (if (bits .and .i64 s.2 (wrI (F i)) != 0) = true then max s.1 (f i + lg (F i) fw) else s.1, bits .andNot .i64 s.2 (wrI (F i)))
theorem wst_all (c : Ins) (F : Nat → Ins) (fw : Bool) (f : Nat → Int) (t0 : Int) (n : Nat) : ∀ t, (backI n t).foldl (wst F fw f) (t0, rdI c) = (sx t0 (wlI c F fw n) (fun t => f (n - 1 - t)) t, lft (rdI c) (fun j => wrI (F j)) n t)
  | 0 => rfl
  | t + 1 => by
    rw [backI_succ, List.foldl_append, wst_all c F fw f t0 n t]
    show wst F fw f (sx t0 (wlI c F fw n) (fun t => f (n - 1 - t)) t, lft (rdI c) (fun j => wrI (F j)) n t) (n - 1 - t) = _
    unfold wst
    show (_, _) = (if 0 < wlI c F fw n t then max (sx t0 (wlI c F fw n) (fun t => f (n - 1 - t)) t) (f (n - 1 - t) + wlI c F fw n t) else sx t0 (wlI c F fw n) (fun t => f (n - 1 - t)) t, bits .andNot .i64 (lft (rdI c) (fun j => wrI (F j)) n t) (wrI (F (n - 1 - t))))
    have hl := lg_rng (F (n - 1 - t)) fw
    dsimp only
    congr 1
    unfold wlI
    by_cases e : (bits .and .i64 (lft (rdI c) (fun j => wrI (F j)) n t) (wrI (F (n - 1 - t))) != 0) = true
    · rw [if_pos e, if_pos e, if_pos (by omega)]
    · rw [if_neg e, if_neg e, if_neg (by omega)]
theorem wst_rng {F : Nat → Ins} {fw : Bool} {f : Nat → Int} (hf : ∀ j, 0 ≤ f j ∧ f j ≤ 1000) : ∀ (l : List Nat) (s : Int × Int), 0 ≤ s.1 → s.1 ≤ 1100 → 0 ≤ (l.foldl (wst F fw f) s).1 ∧ (l.foldl (wst F fw f) s).1 ≤ 1100
  | [], _, h0, h1 => ⟨h0, h1⟩
  | i :: l, s, h0, h1 => by
    have h2 := hf i
    have h3 := lg_rng (F i) fw
    refine wst_rng hf l (wst F fw f s i) ?_ ?_
    · unfold wst
      dsimp only
      split <;> omega
    · unfold wst
      dsimp only
      split <;> omega
/-- The boxes: the tick, the ticks of those ahead, what is told of forward, what is left of what is read. -/
structure Wth (w W : World) (B Br n : Nat) (AW : Option Addr) (cw : Nat) (fw : Bool) (s : Int × Int) : Prop where
  tk : Holds5 W (B + 1) 3 #[.int .i64 s.1]
  wk : Holds5 W (B + 1 + 1) 25 #[.slice AW n cw]
  fwd : Holds5 W (B + 1 + 1 + 1) 4 #[.bool fw]
  rd : Holds5 W Br 3 #[.int .i64 s.2]
  low : w.grownBy W none
  lt : B + 3 < Br
  ge : w.heap.size ≤ B
section
variable {w W W' : World} {B Br n : Nat} {AW : Option Addr} {cw : Nat} {fw : Bool} {s : Int × Int}
theorem Wth.grown {row : Option Nat} (h : Wth w W B Br n AW cw fw s) (hg : W.grownBy W' row) (hr : ∀ r, row = some r → Br < r) : Wth w W' B Br n AW cw fw s := by
  have hl := h.lt
  have hw := h.ge
  refine ⟨h.tk.grown hg (fun e => ?_), h.wk.grown hg (fun e => ?_), h.fwd.grown hg (fun e => ?_), h.rd.grown hg (fun e => ?_), grown_row' h.low hg (fun r e => ?_), hl, hw⟩
  all_goals first
    | (have := hr _ e.symm; omega)
    | (have := hr _ e; omega)
theorem Wth.tick (h : Wth w W B Br n AW cw fw s) (x : Int) : Wth w (W.setCell ⟨B + 1, 0, none⟩ (.int .i64 x)) B Br n AW cw fw (x, s.2) := by
  have hl := h.lt
  have hw := h.ge
  refine ⟨by simpa using h.tk.put 0 (.int .i64 x), h.wk.other (p := ⟨B + 1, 0, none⟩) (by show B + 1 + 1 ≠ B + 1; omega) _, h.fwd.other (p := ⟨B + 1, 0, none⟩) (by show B + 1 + 1 + 1 ≠ B + 1; omega) _, h.rd.other (p := ⟨B + 1, 0, none⟩) (by show Br ≠ B + 1; omega) _, grown_then h.low (grown_set (B + 1) 0 _) (by omega), hl, hw⟩
theorem Wth.left (h : Wth w W B Br n AW cw fw s) (x : Int) : Wth w (W.setCell ⟨Br, 0, none⟩ (.int .i64 x)) B Br n AW cw fw (s.1, x) := by
  have hl := h.lt
  have hw := h.ge
  refine ⟨h.tk.other (p := ⟨Br, 0, none⟩) (by show B + 1 ≠ Br; omega) _, h.wk.other (p := ⟨Br, 0, none⟩) (by show B + 1 + 1 ≠ Br; omega) _, h.fwd.other (p := ⟨Br, 0, none⟩) (by show B + 1 + 1 + 1 ≠ Br; omega) _, by simpa using h.rd.put 0 (.int .i64 x), grown_then h.low (grown_set Br 0 _) (by omega), hl, hw⟩
end
/-- What the last region reads. -/
def SS33 (B Bx bb bo i n cw : Nat) (AW : Option Addr) (fw : Bool) (op : ByteArray) (d a b k z : Int) (w' : World) : Prop := w'.cell? ⟨B + 1 + 1, 0, none⟩ = some (.slice AW n cw) ∧ w'.cell? ⟨bb, bo + i, none⟩ = some (.int .i64 z) ∧ w'.cell? ⟨B + 1 + 1 + 1, 0, none⟩ = some (.bool fw) ∧ w'.cell? ⟨Bx, 0, none⟩ = some (.string op) ∧ w'.cell? ⟨Bx, 1, none⟩ = some (.int .i64 d) ∧ w'.cell? ⟨Bx, 2, none⟩ = some (.int .i64 a) ∧ w'.cell? ⟨Bx, 3, none⟩ = some (.int .i64 b) ∧ w'.cell? ⟨Bx, 4, none⟩ = some (.int .i64 k)
theorem SS33.grown {B Bx bb bo i n cw : Nat} {AW : Option Addr} {fw : Bool} {op : ByteArray} {d a b k z : Int} {w w' : World} (h : SS33 B Bx bb bo i n cw AW fw op d a b k z w) (hg : w.grownBy w' none) : SS33 B Bx bb bo i n cw AW fw op d a b k z w' := by
  obtain ⟨h0, h1, h2, h3, h4, h5, h6, h7⟩ := h
  exact ⟨hg.cell h0 (by intro e; cases e), hg.cell h1 (by intro e; cases e), hg.cell h2 (by intro e; cases e), hg.cell h3 (by intro e; cases e), hg.cell h4 (by intro e; cases e), hg.cell h5 (by intro e; cases e), hg.cell h6 (by intro e; cases e), hg.cell h7 (by intro e; cases e)⟩
theorem SS33.put {B Bx bb bo i n cw : Nat} {AW : Option Addr} {fw : Bool} {op : ByteArray} {d a b k z : Int} {w : World} (h : SS33 B Bx bb bo i n cw AW fw op d a b k z w) (v : Value) (h1 : bb ≠ B + 1) (h2 : Bx ≠ B + 1) : SS33 B Bx bb bo i n cw AW fw op d a b k z (w.setCell ⟨B + 1, 0, none⟩ v) := by
  obtain ⟨g0, g1, g2, g3, g4, g5, g6, g7⟩ := h
  refine ⟨(World.cell?_setCell_other w ⟨B + 1, 0, none⟩ _ v ?_).trans g0, (World.cell?_setCell_other w ⟨B + 1, 0, none⟩ _ v ?_).trans g1, (World.cell?_setCell_other w ⟨B + 1, 0, none⟩ _ v ?_).trans g2, (World.cell?_setCell_other w ⟨B + 1, 0, none⟩ _ v ?_).trans g3, (World.cell?_setCell_other w ⟨B + 1, 0, none⟩ _ v ?_).trans g4, (World.cell?_setCell_other w ⟨B + 1, 0, none⟩ _ v ?_).trans g5, (World.cell?_setCell_other w ⟨B + 1, 0, none⟩ _ v ?_).trans g6, (World.cell?_setCell_other w ⟨B + 1, 0, none⟩ _ v ?_).trans g7⟩
  all_goals
    intro e
    injection e with e
    omega
set_option maxRecDepth 100000 in
set_option maxHeartbeats 8000000 in
theorem whenThere_any (c : Ins) (t0 : Int) (A : Option Addr) (n ca : Nat) (F : Nat → Ins) (AW : Option Addr) (cw : Nat) (f : Nat → Int) (fw : Bool) (w : World) (hw : WT w) (hn : n ≤ 3) (hc : vI c = true) (hv : ∀ j, j < n → vI (F j) = true) (ht : 0 ≤ t0 ∧ t0 ≤ 1000) (hfr : ∀ j, 0 ≤ f j ∧ f j ≤ 1000) (h : Code w A n F) (hf : Nums w AW n f) :
    Calls Tryd.prog 56 #[IV c.op c.d c.a c.b c.k, .int .i64 t0, .slice A n ca, .slice AW n cw, .bool fw] w fun e w' => e = .returned (.int .i64 (sx t0 (wlI c F fw n) (fun t => f (n - 1 - t)) n)) ∧ w.grownBy w' none := by
  have HU := shade (fun W (hW : WT W) => uses_impl c hc W hW)
  refine (callsIn_wide (n := 8)).1 ?_
  refine callsIn_of_wp_marks Tryd.func56 rfl trivial ?_ rfl
  simp only [Tryd.ntmps56, List.size_toArray, List.length_cons, List.length_nil, Nat.reduceAdd, Nat.reduceSub, Array.replicate_succ, Array.replicate_zero, List.push_toArray, List.append_toArray, List.nil_append, List.cons_append]
  have hwt4 : WT ((((w.alloc (.cells #[.string c.op, .int .i64 c.d, .int .i64 c.a, .int .i64 c.b, .int .i64 c.k] 53)).alloc (.cells #[.int .i64 t0] 3)).alloc (.cells #[.slice AW n cw] 25)).alloc (.cells #[.bool fw] 4)) := (((hw.alloc _).alloc _).alloc _).alloc _
  have H1 := (((Holds5.fresh (w.alloc (.cells #[.string c.op, .int .i64 c.d, .int .i64 c.a, .int .i64 c.b, .int .i64 c.k] 53)) 3 #[.int .i64 t0]).alloc (.cells #[.slice AW n cw] 25)).alloc (.cells #[.bool fw] 4))
  have H2 := ((Holds5.fresh ((w.alloc (.cells #[.string c.op, .int .i64 c.d, .int .i64 c.a, .int .i64 c.b, .int .i64 c.k] 53)).alloc (.cells #[.int .i64 t0] 3)) 25 #[.slice AW n cw]).alloc (.cells #[.bool fw] 4))
  have H3 := Holds5.fresh (((w.alloc (.cells #[.string c.op, .int .i64 c.d, .int .i64 c.a, .int .i64 c.b, .int .i64 c.k] 53)).alloc (.cells #[.int .i64 t0] 3)).alloc (.cells #[.slice AW n cw] 25)) 4 #[.bool fw]
  have hg4 : w.grownBy ((((w.alloc (.cells #[.string c.op, .int .i64 c.d, .int .i64 c.a, .int .i64 c.b, .int .i64 c.k] 53)).alloc (.cells #[.int .i64 t0] 3)).alloc (.cells #[.slice AW n cw] 25)).alloc (.cells #[.bool fw] 4)) none := grown_same (grown_same (grown_same (World.grownBy_alloc _ _ none) (World.grownBy_alloc _ _ none)) (World.grownBy_alloc _ _ none)) (World.grownBy_alloc _ _ none)
  have hz4 : ((((w.alloc (.cells #[.string c.op, .int .i64 c.d, .int .i64 c.a, .int .i64 c.b, .int .i64 c.k] 53)).alloc (.cells #[.int .i64 t0] 3)).alloc (.cells #[.slice AW n cw] 25)).alloc (.cells #[.bool fw] 4)).heap.size = w.heap.size + 4 := by simp
  rw [World.size_alloc] at H1
  rw [World.size_alloc, World.size_alloc] at H2
  rw [World.size_alloc, World.size_alloc, World.size_alloc] at H3
  gi_wp2_with (fail)
  obtain ⟨W4, hW4⟩ : ∃ W4, (((w.alloc (.cells #[.string c.op, .int .i64 c.d, .int .i64 c.a, .int .i64 c.b, .int .i64 c.k] 53)).alloc (.cells #[.int .i64 t0] 3)).alloc (.cells #[.slice AW n cw] 25)).alloc (.cells #[.bool fw] 4) = W4 := ⟨_, rfl⟩
  rw [hW4] at hwt4 H1 H2 H3 hg4 hz4
  simp only [hW4]
  clear hW4
  refine ⟨trivial, (callsIn_wide.2 (HU.out _ hwt4)).mono ?_⟩
  rintro e w2 ⟨rfl, hb2⟩
  have hg2 := grown_of_below hb2
  have K1 := H1.grown hg2 (by intro e; cases e)
  have K2 := H2.grown hg2 (by intro e; cases e)
  have K3 := H3.grown hg2 (by intro e; cases e)
  have hgw2 := grown_same hg4 hg2
  have hs2 := hg2.size
  clear hb2 H1 H2 H3 hg4 hwt4 HU hg2
  obtain ⟨R0, hR0⟩ : ∃ R0, rdI c = R0 := ⟨_, rfl⟩
  rw [hR0]
  gi_wp2_with (fail)
  refine ⟨trivial, (callsIn_wide.2 ((callsIn_wide (n := 7)).1 (backward_in Fence.wide 7 trivial rfl A n ca _))).mono ?_⟩
  rintro e W3 ⟨rfl, rfl⟩
  gi_wp2_with (fail)
  have e3 := Holds5.fresh (w2.alloc (.cells #[.int .i64 R0] 3)) 27 #[.slice A n ca]
  have e1 := (Holds5.fresh w2 3 #[.int .i64 R0]).alloc (.cells #[.slice A n ca] 27)
  rw [World.size_alloc] at e3
  have hg3 : w2.grownBy ((w2.alloc (.cells #[.int .i64 R0] 3)).alloc (.cells #[.slice A n ca] 27)) none := grown_same (World.grownBy_alloc _ _ none) (World.grownBy_alloc _ _ none)
  have hz3 : ((w2.alloc (.cells #[.int .i64 R0] 3)).alloc (.cells #[.slice A n ca] 27)).heap.size = w2.heap.size + 2 := by simp
  obtain ⟨W3, hW3⟩ : ∃ W3, (w2.alloc (.cells #[.int .i64 R0] 3)).alloc (.cells #[.slice A n ca] 27) = W3 := ⟨_, rfl⟩
  rw [hW3] at e1 e3 hg3 hz3 ⊢
  clear hW3
  have hN3 : Wth w W3 w.heap.size w2.heap.size n AW cw fw (t0, R0) := ⟨K1.grown hg3 (by intro e; cases e), K2.grown hg3 (by intro e; cases e), K3.grown hg3 (by intro e; cases e), e1, grown_same hgw2 hg3, by omega, Nat.le_refl _⟩
  have hst := backward_stops Fence.wide 7 trivial rfl (by omega) (w2.heap.size + 1) (fun r => r = w.heap.size + 1 ∨ r = w2.heap.size) A n ca F (by omega) W3 (by omega) (by omega) (e3.look 0) (h.on hN3.low) (fun b off e h0 => by
    obtain ⟨b', off', e', hb, _⟩ := h.resolve_left (by omega)
    rw [e] at e'
    injection e' with e'
    injection e' with e1 e2
    omega)
  have HST := shade hst
  have HN3 := shade hN3
  have HZ3 := shade hz3
  have HZ2 := shade (show w.heap.size + 4 ≤ w2.heap.size by omega)
  have HV := shade hv; have HF := shade hf; have HFR := shade hfr; have HW := shade hw
  have HALL := shade (fun t => wst_all c F fw f t0 n t)
  rw [hR0] at HALL
  clear e1 e3 hg3 hz3 hN3 hst K1 K2 K3 hgw2 hv hf hfr hw hz4 hs2 hR0 h
  refine wpIn_rangeFunc_ownH (F := Fence.wide) (n := 8) rfl (by omega) (gf := 78) (lb := #[.pointer (some ⟨w2.heap.size + 1, 0, none⟩)]) rfl trivial (enters_of Tryd.func78 (by kernel_rfl) rfl)
    HST.out (fun h k => h.trans k) (fun W l o o' _ ho hc _ => KeepP.put ho hc) (Below.refl _ _) (fun _ => rfl)
    (fun pre W => Wth w W w.heap.size w2.heap.size n AW cw fw ((pre.map Subtype.val).foldl (wst F fw f) (t0, R0)) ∧ w2.heap.size + 2 ≤ W.heap.size)
    (fun _ _ _ => False)
    (fun s X X' row hs hg hr => ⟨hs.1.grown hg (fun r e => by have := (hr r e).1; have := HZ3.out; omega), Nat.le_trans hs.2 hg.size⟩)
    (fun _ _ _ _ _ hs _ _ => hs)
    ⟨HN3.out, by have := HZ3.out; omega⟩
    (fun q a' W => ∃ Bx, w2.heap.size + 1 < Bx ∧ Holds5 W Bx 53 #[.string (F q.1).op, .int .i64 (F q.1).d, .int .i64 (F q.1).a, .int .i64 (F q.1).b, .int .i64 (F q.1).k] ∧ a' = { tmps := #[IV c.op c.d c.a c.b c.k, .int .i64 t0, .slice A n ca, .slice AW n cw, .bool fw, .pointer (some ⟨w.heap.size, 0, none⟩), .pointer (some ⟨w.heap.size + 1, 0, none⟩), undef, .pointer (some ⟨w.heap.size + 1 + 1, 0, none⟩), .pointer (some ⟨w.heap.size + 1 + 1 + 1, 0, none⟩), .int .i64 0, .pointer (some ⟨w2.heap.size, 0, none⟩), .int .i64 (wrI c), .int .i64 (q.1 : Int), .pointer (some ⟨Bx, 0, none⟩), undef, undef, .tuple #[.int .i64 R0, .int .i64 (wrI c)], .agg #[.string c.op, .int .i64 c.d, .int .i64 c.a, .int .i64 c.b, .int .i64 c.k], .tuple #[.int .i64 R0, .int .i64 (wrI c)], .int .i64 R0, .int .i64 (wrI c), .slice A n ca, .func (.func 78) #[] #[.pointer (some ⟨w2.heap.size + 1, 0, none⟩)], .int .i64 (q.1 : Int), IV (F q.1).op (F q.1).d (F q.1).a (F q.1).b (F q.1).k, undef, undef, undef, undef, undef, undef, undef, undef, undef, undef, undef, undef, undef, undef, undef, undef, undef, undef, undef, undef, undef, undef, undef], defers := [] })
    (fun q a' => ?own) ?assign ?body ?done ?stop
  case own =>
    rintro _ X X' row ⟨Bx, h1, h2, h3⟩ hg hr
    refine ⟨Bx, h1, h2.grown hg (fun e => ?_), h3⟩
    obtain ⟨_, o, ho, hc⟩ := hr Bx e.symm
    have h2' : X.heap[Bx]? = some (.cells _ _ (0, 0)) := h2
    rw [h2'] at ho
    injection ho with ho
    subst ho
    cases hc
  case assign =>
    intro l pre q W K hi hK
    dsimp only [encI]
    gi_wp2_with (fail)
    have hg := World.grownBy_alloc W (.cells #[.string (F q.1).op, .int .i64 (F q.1).d, .int .i64 (F q.1).a, .int .i64 (F q.1).b, .int .i64 (F q.1).k] 53) none
    refine hK _ _ ((KeepsOthers.alloc _ _).from _) (KeepP.grown hg (fun r e => by cases e)) ⟨hi.1.grown hg (fun r e => by cases e), Nat.le_trans hi.2 hg.size⟩ ⟨W.heap.size, by omega, Holds5.fresh _ _ _, rfl⟩
  case body =>
    rintro l pre q a' W hl hlp ⟨hN, hz⟩ ⟨Bx, hBx, hbx, rfl⟩ hlen
    obtain ⟨i, hin⟩ := q
    dsimp only at hbx ⊢
    have hrg := wst_rng (F := F) (fw := fw) (f := f) HFR.out (pre.map Subtype.val) (t0, R0) ht.1 (by have := ht.2; omega)
    have hfold : ((pre ++ [(⟨i, hin⟩ : { i : Nat // i < n })]).map Subtype.val).foldl (wst F fw f) (t0, R0) = wst F fw f ((pre.map Subtype.val).foldl (wst F fw f) (t0, R0)) i := by
      rw [List.map_append, List.foldl_append]
      rfl
    have HFD := shade hfold
    clear hfold
    generalize (pre.map Subtype.val).foldl (wst F fw f) (t0, R0) = st at *
    obtain ⟨TT, R⟩ := st
    dsimp only at hrg
    have HSTP := shade (show wst F fw f (TT, R) i = (if (bits .and .i64 R (wrI (F i)) != 0) = true then max TT (f i + lg (F i) fw) else TT, bits .andNot .i64 R (wrI (F i))) from rfl)
    have HWT := shade (HW.out.below (below_of_grown hN.low) (wt_lt HW.out))
    have HUI := shade (fun W (hW : WT W) => uses_impl (F i) (HV.out i hin) W hW)
    have HLG := shade (fun W (hW : WT W) => lag_any (F i) fw W hW)
    have hlg := lg_rng (F i) fw
    have hfi := HFR.out i
    obtain ⟨bb, bo, rfl, hbb⟩ := HF.out.resolve_left (by omega)
    have HNUM := shade (fun (W' : World) (hg : w.grownBy W' none) => (HF.out.grown hg (by intro _ _ _ e; cases e)).cell hin)
    have hbb1 := hbb.1
    generalize wrI (F i) = wr at *
    generalize lg (F i) fw = lgv at *
    generalize f i = z at *
    generalize F i = cc at *
    obtain ⟨op, d, a, b', kk⟩ := cc
    dsimp only at hbx HUI HLG ⊢
    have HBX := shade hbx
    have b0 := hbx.look 0; have b1 := hbx.look 1; have b2 := hbx.look 2; have b3 := hbx.look 3; have b4 := hbx.look 4
    simp at b0 b1 b2 b3 b4
    have HN := shade hN
    have hgt := hN.lt
    clear hN hbx
    gi_wp2_with (fail)
    refine ⟨trivial, (CallsIn.inRound l (callsIn_wide.2 (HUI.out _ HWT.out))).mono ?_⟩
    rintro e w5 ⟨rfl, hb5⟩
    have hg5 := grown_of_below hb5
    have HN5 := shade (HN.out.grown hg5 (fun r e => by cases e))
    have HBX5 := shade (HBX.out.grown hg5 (by intro e; cases e))
    have HG5 := shade hg5
    have z5 := hg5.size
    clear hb5 hg5 b0 b1 b2 b3 b4 HBX HN HUI
    have c11 := HN5.out.rd.look 0
    have f11 := HN5.out.rd.free 0
    simp at c11
    rcases hcnd : (bits .and .i64 R wr != 0) with _ | _
    · rw [hcnd] at HSTP
      have HSTP2 := shade (show wst F fw f (TT, R) i = (TT, bits .andNot .i64 R wr) from HSTP.out)
      gi_wp2_with (fail)
      refine ⟨?_, ?_, ?_, ?_⟩
      · exact (KeepsFrom.of_grownBy HG5.out (fun j e => by cases e)).trans ((KeepsOthers.setCell w5 ⟨w2.heap.size, 0, none⟩ (.int .i64 (bits .andNot .i64 R wr))).from _)
      · exact (KeepP.grown HG5.out (fun r e => by cases e)).trans (KeepP.grown (grown_set w2.heap.size 0 _) (fun r e => by injection e with e; exact .inr e.symm))
      · rw [HFD.out, HSTP2.out]
        exact HN5.out.left _
      · exact Nat.le_trans hz (Nat.le_trans z5 (grown_set (w := w5) w2.heap.size 0 (.int .i64 (bits .andNot .i64 R wr))).size)
    · rw [hcnd] at HSTP
      have HSTP2 := shade (show wst F fw f (TT, R) i = (max TT (z + lgv), bits .andNot .i64 R wr) from HSTP.out)
      clear HSTP
      have c0 := HN5.out.tk.look 0
      have f0 := HN5.out.tk.free 0
      simp at c0
      have x0 := HBX5.out.look 0; have x1 := HBX5.out.look 1; have x2 := HBX5.out.look 2; have x3 := HBX5.out.look 3; have x4 := HBX5.out.look 4
      simp at x0 x1 x2 x3 x4
      have y0 := HN5.out.wk.look 0; have y1 := HN5.out.fwd.look 0
      simp at y0 y1
      have y2 := HNUM.out w5 HN5.out.low
      have HS5 := shade (show SS33 w.heap.size Bx bb bo i n cw (some ⟨bb, bo, none⟩) fw op d a b' kk z w5.drew from ⟨y0, y2, y1, x0, x1, x2, x3, x4⟩)
      have HSK := shade (fun w9 (hg : w5.drew.grownBy w9 none) => HS5.out.grown hg)
      have HSP := shade (fun w9 (hg : w5.drew.grownBy w9 none) (v : Value) => (HS5.out.grown hg).put v (by omega) (by omega))
      have c0d : w5.drew.cell? ⟨w.heap.size + 1, 0, none⟩ = some (.int .i64 TT) := c0
      have f0d : w5.drew.frozen? ⟨w.heap.size + 1, 0, none⟩ = false := f0
      have HFZ := shade (fun w9 (hg : w5.drew.grownBy w9 none) => show w9.frozen? ⟨w.heap.size + 1, 0, none⟩ = false ∧ w9.frozen? ⟨w2.heap.size, 0, none⟩ = false ∧ w9.cell? ⟨w2.heap.size, 0, none⟩ = some (.int .i64 R) from by
        have h9 := HN5.out.grown (grown_same (grown_drew1 w5) hg) (fun r e => by cases e)
        have h10 := h9.rd.look 0
        simp at h10
        exact ⟨h9.tk.free 0, h9.rd.free 0, h10⟩)
      have HWT5 := shade (show WT w5.drew from HWT.out.below (below_of_grown (grown_same HG5.out (grown_drew1 w5))) (wt_lt HWT.out))
      have in0 : (i : Int) < (n : Int) := by omega
      have i0 : (0 : Int) ≤ (i : Int) := by omega
      have hz2 := HZ2.out
      have d1 : ¬ w2.heap.size = w.heap.size + 1 := by omega
      have d2 : ¬ w.heap.size + 1 = w2.heap.size := by omega
      have HZW := shade hz
      have HZZ := shade (show w2.heap.size + 2 ≤ w5.heap.size by omega)
      have hwz : IntKind.i64.wrap (z + lgv) = z + lgv := by rw [IntKind.wrap_i64]; omega
      clear c0 f0 x0 x1 x2 x3 x4 y0 y1 y2 hgt hbb1
      gi_wp2_with (fail)
      rename_i KK hKK
      refine wpIn_region_round_held (S := SS33 w.heap.size Bx bb bo i n cw (some ⟨bb, bo, none⟩) fw op d a b' kk z) (by kernel_rfl) (by rintro ⟨a', w', h'⟩; exact h') (by kernel_rfl) HS5.out (fun hHeld => ?_)
      refine wpAnyH_take (i := 1) (oi := { dst := some 36, op := Op.load 25 (Operand.tmp 8), type := 25, pos := "c8_pipe.go:77", after := #[], guard := none }) (v := ?_) rfl (by kernel_rfl) (by kernel_rfl) (by kernel_rfl) (fun _ _ _ h => h) (Or.inl ⟨by rfl, ?_⟩) (by assumption) ?_
      rotate_left
      · intro w' hSw
        (try dsimp only at hSw); obtain ⟨v0', v1', v2', v3', v4', v5', v6', v7'⟩ := hSw
        go_simp
        try with_reducible rfl
      try simp only [Act.put, List.setIfInBounds_toArray, List.set_cons_zero, List.set_cons_succ]
      refine wpAnyH_take (i := 2) (oi := { dst := some 37, op := Op.move (Operand.tmp 13), type := 3, pos := "c8_pipe.go:77", after := #[], guard := none }) (v := ?_) rfl (by kernel_rfl) (by kernel_rfl) (by kernel_rfl) (fun _ _ _ h => h) (Or.inl ⟨by rfl, ?_⟩) (by assumption) ?_
      rotate_left
      · intro w' hSw
        (try dsimp only at hSw); obtain ⟨v0', v1', v2', v3', v4', v5', v6', v7'⟩ := hSw
        go_simp
        try with_reducible rfl
      try simp only [Act.put, List.setIfInBounds_toArray, List.set_cons_zero, List.set_cons_succ]
      refine wpAnyH_take (i := 3) (oi := { dst := some 38, op := Op.indexAddr 25 (Operand.tmp 36) (Operand.tmp 37), type := 0, pos := "c8_pipe.go:77", after := #[{ on := 1, ground := Ground.data }, { on := 2, ground := Ground.data }], guard := none }) (v := ?_) rfl (by kernel_rfl) (by kernel_rfl) (by kernel_rfl) (fun _ _ _ h => h) (Or.inl ⟨by rfl, ?_⟩) (by assumption) ?_
      rotate_left
      · intro w' hSw
        (try dsimp only at hSw); obtain ⟨v0', v1', v2', v3', v4', v5', v6', v7'⟩ := hSw
        go_simp
        try with_reducible rfl
      try simp only [Act.put, List.setIfInBounds_toArray, List.set_cons_zero, List.set_cons_succ]
      refine wpAnyH_take (i := 4) (oi := { dst := some 39, op := Op.load 3 (Operand.tmp 38), type := 3, pos := "c8_pipe.go:77", after := #[{ on := 3, ground := Ground.data }], guard := none }) (v := ?_) rfl (by kernel_rfl) (by kernel_rfl) (by kernel_rfl) (fun _ _ _ h => h) (Or.inl ⟨by rfl, ?_⟩) (by assumption) ?_
      rotate_left
      · intro w' hSw
        (try dsimp only at hSw); obtain ⟨v0', v1', v2', v3', v4', v5', v6', v7'⟩ := hSw
        go_simp
        try with_reducible rfl
      try simp only [Act.put, List.setIfInBounds_toArray, List.set_cons_zero, List.set_cons_succ]
      refine wpAnyH_take (i := 5) (oi := { dst := some 40, op := Op.load 53 (Operand.tmp 14), type := 53, pos := "c8_pipe.go:77", after := #[], guard := none }) (v := ?_) rfl (by kernel_rfl) (by kernel_rfl) (by kernel_rfl) (fun _ _ _ h => h) (Or.inl ⟨by rfl, ?_⟩) (by assumption) ?_
      rotate_left
      · intro w' hSw
        (try dsimp only at hSw); obtain ⟨v0', v1', v2', v3', v4', v5', v6', v7'⟩ := hSw
        go_simp
        try with_reducible rfl
      try simp only [Act.put, List.setIfInBounds_toArray, List.set_cons_zero, List.set_cons_succ]
      refine wpAnyH_take (i := 6) (oi := { dst := some 41, op := Op.load 4 (Operand.tmp 9), type := 4, pos := "c8_pipe.go:77", after := #[], guard := none }) (v := ?_) rfl (by kernel_rfl) (by kernel_rfl) (by kernel_rfl) (fun _ _ _ h => h) (Or.inl ⟨by rfl, ?_⟩) (by assumption) ?_
      rotate_left
      · intro w' hSw
        (try dsimp only at hSw); obtain ⟨v0', v1', v2', v3', v4', v5', v6', v7'⟩ := hSw
        go_simp
        try with_reducible rfl
      try simp only [Act.put, List.setIfInBounds_toArray, List.set_cons_zero, List.set_cons_succ]
      refine wpAnyH_ready (rs := [0, 7]) (by kernel_rfl) (by simp) ?_
      refine AllReadyH.cons (o := { dst := some 35, op := Op.load 3 (Operand.tmp 6), type := 3, pos := "c8_pipe.go:77", after := #[], guard := none }) rfl (fun K hK => ?_) ?_
      · go_simp
        refine hK.out _ _ ?_ (fun hHeld => ?_)
        · (try dsimp only)
          first | exact HSP.out _ HG9.out _ | exact HS9.out | exact HS5.out
        clear hK K
        try simp only [Act.put, List.setIfInBounds_toArray, List.set_cons_zero, List.set_cons_succ]
        refine wpAnyH_ready (rs := [7]) (by kernel_rfl) (by simp) ?_
        refine AllReadyH.cons (o := { dst := some 42, op := Op.call { callee := Callee.value (Operand.func 68), args := #[Operand.tmp 40, Operand.tmp 41], argTypes := #[53, 4] }, type := 3, pos := "c8_pipe.go:77", after := #[{ on := 5, ground := Ground.data }, { on := 6, ground := Ground.data }], guard := none }) rfl (fun K hK => ?_) ?_
        · go_simp
          go_at_call 68
          refine (HLG.out _ HWT5.out).mono ?_
          rintro e w9 ⟨rfl, hg9⟩
          have HS9 := shade (HSK.out w9 hg9)
          have c9 := hg9.cell c0d (by intro e; cases e)
          obtain ⟨f9, f9r, c9r⟩ := HFZ.out w9 hg9
          have HG9 := shade hg9
          clear hg9
          refine hK.out _ _ ?_ (fun hHeld => ?_)
          · (try dsimp only)
            first | exact HSP.out _ HG9.out _ | exact HS9.out | exact HS5.out
          clear hK K
          try simp only [Act.put, List.setIfInBounds_toArray, List.set_cons_zero, List.set_cons_succ]
          refine wpAnyH_take (i := 8) (oi := { dst := some 43, op := Op.binOp BinOp.add 3 (Operand.tmp 39) (Operand.tmp 42) 3, type := 3, pos := "c8_pipe.go:77", after := #[{ on := 4, ground := Ground.data }, { on := 7, ground := Ground.data }], guard := none }) (v := ?_) rfl (by kernel_rfl) (by kernel_rfl) (by kernel_rfl) (fun _ _ _ h => h) (Or.inl ⟨by rfl, ?_⟩) (by assumption) ?_
          rotate_left
          · intro w' hSw
            (try dsimp only at hSw); obtain ⟨v0', v1', v2', v3', v4', v5', v6', v7'⟩ := hSw
            go_simp
            try with_reducible rfl
          try simp only [Act.put, List.setIfInBounds_toArray, List.set_cons_zero, List.set_cons_succ]
          refine wpAnyH_ready (rs := [9]) (by kernel_rfl) (by simp) ?_
          refine AllReadyH.cons (o := { dst := some 44, op := Op.call { callee := Callee.builtin Builtin.max, args := #[Operand.tmp 35, Operand.tmp 43], argTypes := #[3, 3] }, type := 3, pos := "c8_pipe.go:77", after := #[{ on := 0, ground := Ground.data }, { on := 8, ground := Ground.data }], guard := none }) rfl (fun K hK => ?_) ?_
          · go_simp
            refine hK.out _ _ ?_ (fun hHeld => ?_)
            · (try dsimp only)
              first | exact HSP.out _ HG9.out _ | exact HS9.out | exact HS5.out
            clear hK K
            try simp only [Act.put, List.setIfInBounds_toArray, List.set_cons_zero, List.set_cons_succ]
            refine wpAnyH_ready (rs := [10]) (by kernel_rfl) (by simp) ?_
            refine AllReadyH.cons (o := { dst := none, op := Op.store 3 (Operand.tmp 6) (Operand.tmp 44), type := 0, pos := "c8_pipe.go:77", after := #[{ on := 9, ground := Ground.data }, { on := 7, ground := Ground.chain }, { on := 0, ground := Ground.phase }, { on := 1, ground := Ground.phase }, { on := 2, ground := Ground.phase }, { on := 3, ground := Ground.phase }, { on := 4, ground := Ground.phase }, { on := 5, ground := Ground.phase }, { on := 6, ground := Ground.phase }, { on := 7, ground := Ground.phase }, { on := 8, ground := Ground.phase }, { on := 9, ground := Ground.phase }], guard := none }) rfl (fun K hK => ?_) ?_
            · go_simp
              refine hK.out _ _ ?_ (fun hHeld => ?_)
              · (try dsimp only)
                first | exact HSP.out _ HG9.out _ | exact HS9.out | exact HS5.out
              clear hK K
              try simp only [Act.put, List.setIfInBounds_toArray, List.set_cons_zero, List.set_cons_succ]
              refine wpAnyH_done (by kernel_rfl) ?_ _
              clear hHeld
              refine hKK _ _ ?_
              clear hKK KK
              gi_wp2_with (fail)
              (try simp only [hwz])
              all_goals
                have hS1 := (HN5.out.grown (grown_same (grown_drew1 _) HG9.out) (fun r e => by cases e))
                refine ⟨?_, ?_, ?_, ?_⟩
                · exact (KeepsFrom.of_grownBy (grown_same (grown_same HG5.out (grown_drew1 _)) HG9.out) (fun j e => by cases e)).trans (((KeepsOthers.setCell w9 ⟨w.heap.size + 1, 0, none⟩ _).from _).trans ((KeepsOthers.setCell _ ⟨w2.heap.size, 0, none⟩ _).from _))
                · exact ((KeepP.grown (grown_same (grown_same HG5.out (grown_drew1 _)) HG9.out) (fun r e => by cases e)).trans (KeepP.grown (grown_set (w.heap.size + 1) 0 _) (fun r e => by injection e with e; exact .inl e.symm))).trans (KeepP.grown (grown_set w2.heap.size 0 _) (fun r e => by injection e with e; exact .inr e.symm))
                · refine (show Wth w _ _ _ n _ cw fw (List.foldl (wst F fw f) (t0, R0) ((pre ++ [(⟨i, hin⟩ : { i : Nat // i < n })]).map Subtype.val)) from ?_)
                  rw [HFD.out, HSTP2.out]
                  first
                    | (rw [show max TT (z + lgv) = z + lgv by omega]; exact (hS1.tick _).left _)
                    | (rw [show max TT (z + lgv) = TT by omega]; exact (hS1.tick _).left _)
                · exact Nat.le_trans (Nat.le_trans HZZ.out HG9.out.size) (Nat.le_trans (grown_set (w := w9) (w.heap.size + 1) 0 _).size (grown_set w2.heap.size 0 _).size)
            exact AllReadyH.nil
          exact AllReadyH.nil
        exact AllReadyH.nil
      refine AllReadyH.cons (o := { dst := some 42, op := Op.call { callee := Callee.value (Operand.func 68), args := #[Operand.tmp 40, Operand.tmp 41], argTypes := #[53, 4] }, type := 3, pos := "c8_pipe.go:77", after := #[{ on := 5, ground := Ground.data }, { on := 6, ground := Ground.data }], guard := none }) rfl (fun K hK => ?_) ?_
      · go_simp
        go_at_call 68
        refine (HLG.out _ HWT5.out).mono ?_
        rintro e w9 ⟨rfl, hg9⟩
        have HS9 := shade (HSK.out w9 hg9)
        have c9 := hg9.cell c0d (by intro e; cases e)
        obtain ⟨f9, f9r, c9r⟩ := HFZ.out w9 hg9
        have HG9 := shade hg9
        clear hg9
        refine hK.out _ _ ?_ (fun hHeld => ?_)
        · (try dsimp only)
          first | exact HSP.out _ HG9.out _ | exact HS9.out | exact HS5.out
        clear hK K
        try simp only [Act.put, List.setIfInBounds_toArray, List.set_cons_zero, List.set_cons_succ]
        refine wpAnyH_take (i := 8) (oi := { dst := some 43, op := Op.binOp BinOp.add 3 (Operand.tmp 39) (Operand.tmp 42) 3, type := 3, pos := "c8_pipe.go:77", after := #[{ on := 4, ground := Ground.data }, { on := 7, ground := Ground.data }], guard := none }) (v := ?_) rfl (by kernel_rfl) (by kernel_rfl) (by kernel_rfl) (fun _ _ _ h => h) (Or.inl ⟨by rfl, ?_⟩) (by assumption) ?_
        rotate_left
        · intro w' hSw
          (try dsimp only at hSw); obtain ⟨v0', v1', v2', v3', v4', v5', v6', v7'⟩ := hSw
          go_simp
          try with_reducible rfl
        try simp only [Act.put, List.setIfInBounds_toArray, List.set_cons_zero, List.set_cons_succ]
        refine wpAnyH_ready (rs := [0]) (by kernel_rfl) (by simp) ?_
        refine AllReadyH.cons (o := { dst := some 35, op := Op.load 3 (Operand.tmp 6), type := 3, pos := "c8_pipe.go:77", after := #[], guard := none }) rfl (fun K hK => ?_) ?_
        · go_simp
          refine hK.out _ _ ?_ (fun hHeld => ?_)
          · (try dsimp only)
            first | exact HSP.out _ HG9.out _ | exact HS9.out | exact HS5.out
          clear hK K
          try simp only [Act.put, List.setIfInBounds_toArray, List.set_cons_zero, List.set_cons_succ]
          refine wpAnyH_ready (rs := [9]) (by kernel_rfl) (by simp) ?_
          refine AllReadyH.cons (o := { dst := some 44, op := Op.call { callee := Callee.builtin Builtin.max, args := #[Operand.tmp 35, Operand.tmp 43], argTypes := #[3, 3] }, type := 3, pos := "c8_pipe.go:77", after := #[{ on := 0, ground := Ground.data }, { on := 8, ground := Ground.data }], guard := none }) rfl (fun K hK => ?_) ?_
          · go_simp
            refine hK.out _ _ ?_ (fun hHeld => ?_)
            · (try dsimp only)
              first | exact HSP.out _ HG9.out _ | exact HS9.out | exact HS5.out
            clear hK K
            try simp only [Act.put, List.setIfInBounds_toArray, List.set_cons_zero, List.set_cons_succ]
            refine wpAnyH_ready (rs := [10]) (by kernel_rfl) (by simp) ?_
            refine AllReadyH.cons (o := { dst := none, op := Op.store 3 (Operand.tmp 6) (Operand.tmp 44), type := 0, pos := "c8_pipe.go:77", after := #[{ on := 9, ground := Ground.data }, { on := 7, ground := Ground.chain }, { on := 0, ground := Ground.phase }, { on := 1, ground := Ground.phase }, { on := 2, ground := Ground.phase }, { on := 3, ground := Ground.phase }, { on := 4, ground := Ground.phase }, { on := 5, ground := Ground.phase }, { on := 6, ground := Ground.phase }, { on := 7, ground := Ground.phase }, { on := 8, ground := Ground.phase }, { on := 9, ground := Ground.phase }], guard := none }) rfl (fun K hK => ?_) ?_
            · go_simp
              refine hK.out _ _ ?_ (fun hHeld => ?_)
              · (try dsimp only)
                first | exact HSP.out _ HG9.out _ | exact HS9.out | exact HS5.out
              clear hK K
              try simp only [Act.put, List.setIfInBounds_toArray, List.set_cons_zero, List.set_cons_succ]
              refine wpAnyH_done (by kernel_rfl) ?_ _
              clear hHeld
              refine hKK _ _ ?_
              clear hKK KK
              gi_wp2_with (fail)
              (try simp only [hwz])
              all_goals
                have hS1 := (HN5.out.grown (grown_same (grown_drew1 _) HG9.out) (fun r e => by cases e))
                refine ⟨?_, ?_, ?_, ?_⟩
                · exact (KeepsFrom.of_grownBy (grown_same (grown_same HG5.out (grown_drew1 _)) HG9.out) (fun j e => by cases e)).trans (((KeepsOthers.setCell w9 ⟨w.heap.size + 1, 0, none⟩ _).from _).trans ((KeepsOthers.setCell _ ⟨w2.heap.size, 0, none⟩ _).from _))
                · exact ((KeepP.grown (grown_same (grown_same HG5.out (grown_drew1 _)) HG9.out) (fun r e => by cases e)).trans (KeepP.grown (grown_set (w.heap.size + 1) 0 _) (fun r e => by injection e with e; exact .inl e.symm))).trans (KeepP.grown (grown_set w2.heap.size 0 _) (fun r e => by injection e with e; exact .inr e.symm))
                · refine (show Wth w _ _ _ n _ cw fw (List.foldl (wst F fw f) (t0, R0) ((pre ++ [(⟨i, hin⟩ : { i : Nat // i < n })]).map Subtype.val)) from ?_)
                  rw [HFD.out, HSTP2.out]
                  first
                    | (rw [show max TT (z + lgv) = z + lgv by omega]; exact (hS1.tick _).left _)
                    | (rw [show max TT (z + lgv) = TT by omega]; exact (hS1.tick _).left _)
                · exact Nat.le_trans (Nat.le_trans HZZ.out HG9.out.size) (Nat.le_trans (grown_set (w := w9) (w.heap.size + 1) 0 _).size (grown_set w2.heap.size 0 _).size)
            exact AllReadyH.nil
          exact AllReadyH.nil
        exact AllReadyH.nil
      exact AllReadyH.nil
  case done =>
    rintro D ys W hD hys ⟨hN, hz⟩ hK
    have hal := HALL.out n
    rw [hys, hal] at hN
    have c0 := hN.tk.look 0
    simp at c0
    have HN := shade hN
    clear hN hal hys
    gi_wp2_with (fail)
    refine ⟨by simp, .inl ⟨_, _, rfl, run_takeDeferred hK, ?_⟩⟩
    have hR5 := HN.out.grown (grownBy_putObj' W D (.deferred none)) (fun j e => by injection e with e; have := HZ3.out; omega)
    exact ⟨_, results_tmp rfl _ _ _, rfl, hR5.low⟩
  case stop =>
    rintro D cc pre W hD _ h _
    exact h.elim
end Go.Proofs.YtlmjbflnfpccdaaDoor
