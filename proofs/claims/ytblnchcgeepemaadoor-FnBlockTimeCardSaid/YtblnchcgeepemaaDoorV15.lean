/- The longest ways to the end, by the program. -/
import Derived.Test.YtblnchcgeepemaaDoorW964
import Derived.Test.YtblnchcgeepemaaDoorW969
import Derived.Test.YtblnchcgeepemaaDoorV13
import Derived.Test.YtblnchcgeepemaaDoorV14
import Derived.Deep.RegionHeld
namespace Go.Proofs.YtblnchcgeepemaaDoor
open Go.RowKit Go.Shelf
set_option linter.unusedSimpArgs false
attribute [local go_sem] Oper.semAt_some
/-- A region that draws, in a round's frame, by the held walk of a plain frame. -/
theorem wpOpIn_round_held {l m : Nat} {P : Program} {ops : Array Oper} {Q : Exit → Act → World → Prop} {i : Nat} {K K' : Act → World → Prop} {a : Act} {w : World} (hd : ∀ (i : Nat) (o : Oper), ops[i]? = some o → ∀ c, o.op ≠ .defer c) (hL : ¬ LetsOut Q) (hk : ∀ a w, K a w → K' a w) (h : wpOp P ops Q i K a w) :
    wpOpIn (Fence.wide.inRound l) m P ops Q i K' a w := by
  unfold wpOp at h
  unfold wpOpIn
  cases ho : ops[i]? with
  | none =>
    rw [ho] at h
    exact hk _ _ h
  | some o =>
    rw [ho] at h
    dsimp only at h ⊢
    by_cases hw : Region.wanted o (yielded ops a.tmps) = true
    · rw [if_pos hw] at h ⊢
      rcases h with h | ⟨_, h⟩
      · refine ⟨fun f _ => trivial, ?_⟩
        rw [Fence.inRound_round, Oper.semAt_some l _ o (hd i o ho)]
        have h := Oper.wp_mono hk h
        unfold Oper.wp at h
        generalize (execOp a.eval o).run P w = r at *
        cases r with
        | ok nx w' =>
          cases nx <;> simp only [Oper.upon, Oper.uponIn] at h ⊢
          all_goals first
            | exact h
            | exact h.elim
            | exact ⟨(by intro e; cases e), CallsIn.inRound l (callsIn_wide.2 h)⟩
            | exact ⟨(by intro e; cases e), fun c cs _ => (h c cs).elim fun v h1 => h1.elim fun w2 h2 => ⟨v, w2, h2.1, stepsIn_wide.2 h2.2⟩⟩
        | halt x w' =>
          cases x <;> simp only [Oper.upon, Oper.uponIn] at h ⊢
          all_goals exact h
      · exact absurd h hL
    · rw [if_neg hw] at h ⊢
      exact ⟨fun _ _ => trivial, hk _ _ h⟩
theorem wpAnyIn_round_held {l m : Nat} {P : Program} {md : Region.Mode} {ops : Array Oper} {Q : Exit → Act → World → Prop} (hd : ∀ (i : Nat) (o : Oper), ops[i]? = some o → ∀ c, o.op ≠ .defer c) (hL : ¬ LetsOut Q) : ∀ (fuel : Nat) (listed : Array Bool) (a : Act) (w : World),
    wpAny P md ops Q fuel listed a w → wpAnyIn (Fence.wide.inRound l) m P md ops Q fuel listed a w
  | 0, _, _, _, h => h
  | fuel + 1, _, _, _, h => ⟨h.1, fun i hi => wpOpIn_round_held hd hL (fun a' w' h' => wpAnyIn_round_held hd hL fuel _ a' w' h') (h.2 i hi)⟩
def notDefer (o : Oper) : Bool := match o.op with | .defer _ => false | _ => true
theorem notDefer_all {ops : Array Oper} (h : ops.toList.all notDefer = true) (i : Nat) (o : Oper) (hi : ops[i]? = some o) (c) : o.op ≠ .defer c := fun e => by
  have h1 := List.all_eq_true.1 h o (by
    rw [← Array.getElem?_toList] at hi
    exact List.mem_of_getElem? hi)
  unfold notDefer at h1
  rw [e] at h1
  cases h1
theorem wpIn_region_round_held {l m id : Nat} {P : Program} {ops : Array Oper} {Q : Exit → Act → World → Prop} {a : Act} {w : World} {S : World → Prop} (hd : ops.toList.all notDefer = true) (hL : ¬ LetsOut Q) (hm : P.follows .mixedOrders = true) (hS : S w.drew)
    (h : S w.drew → wpAnyH P .any ops Q S ops.size (Array.replicate ops.size false) a w.drew) : (Code.region id ops true).wpIn (Fence.wide.inRound l) m P Q a w :=
  wpIn_region_any hm (wpAnyIn_round_held (notDefer_all hd) hL _ _ _ _ (wpAny_of_held _ _ _ _ (h hS)))
/-- One row's waits taken into the heights. -/
def hs1 (F : Nat → Ins) (f : Nat → Int) (k : Nat) : Nat → Int := fun i => if i < k ∧ 0 < wtR F k i then max (f i) (wtR F k i + f k) else f i
theorem hs_all (F : Nat → Ins) (n : Nat) : ∀ t, (backI n t).foldl (hs1 F) (latF F) = ht F n t
  | 0 => rfl
  | t + 1 => by
    rw [backI_succ, List.foldl_append, hs_all F n t]
    rfl
theorem hs_rng (F : Nat → Ins) : ∀ (l : List Nat) (f : Nat → Int) (b : Int), (∀ i, 1 ≤ f i ∧ f i ≤ 3 * b) → ∀ i, 1 ≤ l.foldl (hs1 F) f i ∧ l.foldl (hs1 F) f i ≤ 3 * (b + l.length)
  | [], f, b, h, i => by
    have := h i
    show 1 ≤ f i ∧ f i ≤ 3 * (b + ((0 : Nat) : Int))
    omega
  | k :: l, f, b, h, i => by
    have h1 := hs_rng F l (hs1 F f k) (b + 1) (fun j => by
      have h2 := h j
      have h3 := h k
      have h4 := wtI_rng (F j) (F k)
      have h5 : wtR F k j = wtI (F j) (F k) := rfl
      unfold hs1
      split <;> omega) i
    show 1 ≤ l.foldl (hs1 F) (hs1 F f k) i ∧ l.foldl (hs1 F) (hs1 F f k) i ≤ 3 * (b + (k :: l).length)
    rw [List.length_cons]
    omega
/-- The heights, the box of their slice, and the rows of waits. -/
def SS15 (g Bh k n c3 : Nat) (z : Int) (w' : World) : Prop := w'.cell? ⟨Bh, 0, none⟩ = some (.slice (some ⟨g, 0, none⟩) n c3) ∧ w'.cell? ⟨g, k, none⟩ = some (.int .i64 z)
structure Ihs (w W : World) (g Bh hi n c3 : Nat) (A2 : Option Addr) (c2 : Nat) (AS : Nat → Value) (F : Nat → Ins) (f : Nat → Int) : Prop where
  own : Own W w.heap.size (some ⟨g, 0, none⟩) n c3 f
  box : Holds5 W Bh 25 #[.slice (some ⟨g, 0, none⟩) n c3]
  rows : Rws W w.heap.size hi (.slice A2 n c2) n AS lnW (wtR F)
  low : w.grownBy W none
  hig : hi ≤ g
  gB : g < Bh
section
variable {w W W' : World} {g Bh hi n c3 : Nat} {A2 : Option Addr} {c2 : Nat} {AS : Nat → Value} {F : Nat → Ins} {f : Nat → Int}
theorem Ihs.rowne (h : Ihs w W g Bh hi n c3 A2 c2 AS F f) {r : Nat} (hr : g ≤ r) : ((Value.slice A2 n c2).ownBlock = none ∨ (Value.slice A2 n c2).ownBlock ≠ some r) ∧ ∀ j, j < n → ((AS j).ownBlock = none ∨ (AS j).ownBlock ≠ some r) := by
  have h1 := h.hig
  refine ⟨.inr (fun e => ?_), fun j hj => .inr (fun e => ?_)⟩
  · have := h.rows.out.hib r e
    omega
  · have := (h.rows.row j hj).hib r e
    omega
theorem Ihs.grown {row : Option Nat} (h : Ihs w W g Bh hi n c3 A2 c2 AS F f) (hg : W.grownBy W' row) (hr : ∀ r, row = some r → Bh < r) : Ihs w W' g Bh hi n c3 A2 c2 AS F f := by
  have hl := h.gB
  have hw : w.heap.size ≤ g := h.own.lt.1
  refine ⟨World.ownsRow.kept h.own hg (.inr (fun e => ?_)), h.box.grown hg (fun e => ?_), ?_, grown_row' h.low hg (fun r e => ?_), h.hig, hl⟩
  · have := hr g e.symm
    omega
  · have := hr Bh e.symm
    omega
  · rcases row with _ | r
    · exact h.rows.grown hg
    · have := hr r rfl
      exact h.rows.but hg (h.rowne (r := r) (by omega)).1 (h.rowne (r := r) (by omega)).2
  · have := hr r e
    omega
theorem Ihs.put (h : Ihs w W g Bh hi n c3 A2 c2 AS F f) (i : Nat) (x : Int) : Ihs w (W.setCell ⟨g, i, none⟩ (.int .i64 x)) g Bh hi n c3 A2 c2 AS F (fun j => if j = i then x else f j) := by
  have hl := h.gB
  refine ⟨own_put h.own i x, h.box.other (p := ⟨g, i, none⟩) (by show Bh ≠ g; omega) _, h.rows.but (grown_set g i _) (h.rowne (Nat.le_refl _)).1 (h.rowne (Nat.le_refl _)).2, grown_then h.low (grown_set g i _) h.own.lt.1, h.hig, hl⟩
theorem Ihs.congr {f' : Nat → Int} (h : Ihs w W g Bh hi n c3 A2 c2 AS F f) (hf : ∀ j, j < n → f j = f' j) : Ihs w W g Bh hi n c3 A2 c2 AS F f' := ⟨h.own.congr hf, h.box, h.rows, h.low, h.hig, h.gB⟩
end

set_option maxRecDepth 100000 in
set_option maxHeartbeats 8000000 in
theorem IHeightsOf_pos (A : Option Addr) (n c : Nat) (F : Nat → Ins) (w : World) (hw : WT w) (hcap : n ≤ c) (hn0 : 0 < n) (hv : blB n F = true) (h : Code w A n F) :
    Calls Tryd.prog 6 #[.slice A n c] w (NumRes n (hgt F n) w) := by
  have h6 := blB_6 hv
  have HB := shade (IBlockOf_any A n c F w hw hcap hv h)
  clear h hv hw
  refine (callsIn_wide (n := 8)).1 ?_
  refine callsIn_of_wp_marks Tryd.func6 rfl trivial ?_ rfl
  simp only [Tryd.ntmps6, List.size_toArray, List.length_cons, List.length_nil, Nat.reduceAdd, Nat.reduceSub, Array.replicate_succ, Array.replicate_zero, List.push_toArray, List.append_toArray, List.nil_append, List.cons_append]
  gi_wp2_with (fail)
  refine ⟨trivial, (callsIn_wide.2 HB.out).mono ?_⟩
  rintro e w1 ⟨tv, wv, AS, rfl, ht, hr, -, hg⟩
  have hbk : Blk w1 w.heap.size w1.heap.size tv wv AS n F := ⟨⟨ht, fun b hb => (World.ownsRow.lt ht b hb).2⟩, hr⟩
  have HCN := shade (fun W (hg : w1.grownBy W none) => cloneNums_any w.heap.size w1.heap.size tv n (latF F) W (by omega) (hbk.tk.grown hg))
  obtain ⟨A1, c1, rfl, -⟩ := ownsRow_slice ht
  obtain ⟨A2, c2, rfl, -⟩ := hr.shape
  have HG := shade (grown_same hg (World.grownBy_alloc w1 (.cells #[.slice A1 n c1, .slice A2 n c2] 41) none))
  have HX := shade (Holds5.fresh w1 41 #[.slice A1 n c1, .slice A2 n c2])
  have HK := shade (hbk.grown (World.grownBy_alloc w1 (.cells #[.slice A1 n c1, .slice A2 n c2] 41) none))
  have s1 := hg.size
  have s2 : (w1.alloc (.cells #[.slice A1 n c1, .slice A2 n c2] 41)).heap.size = w1.heap.size + 1 := by simp
  clear hg ht hr hbk HB
  gi_wp2_with (fail)
  refine ⟨trivial, (callsIn_wide.2 (HCN.out _ (World.grownBy_alloc w1 _ none))).mono ?_⟩
  rintro e w2 ⟨v, rfl, ho, hg⟩
  obtain ⟨g, c3, rfl, hlg, hlg2⟩ : ∃ g c3, v = .slice (some ⟨g, 0, none⟩) n c3 ∧ w1.heap.size + 1 ≤ g ∧ g < w2.heap.size := by
    rcases ho.2 with ⟨e, h0⟩ | ⟨g', c', cur, e, h1, _⟩
    · omega
    · have := World.ownsRow.lt ho g' (by rw [e]; rfl)
      exact ⟨g', c', e, by omega, this.2⟩
  have hx2 := HX.out.grown hg (by intro e; cases e)
  have y1 := hx2.look 1
  simp at y1
  have hIh : Ihs w w2 g (w2.heap.size + 0) w1.heap.size n c3 A2 c2 AS F (latF F) → True := fun _ => trivial
  have HO2 := shade (show Own w2 w.heap.size (some ⟨g, 0, none⟩) n c3 (latF F) from World.ownsRow.mono ho (by omega))
  have HR2 := shade (HK.out.ws.grown hg)
  have HG2 := shade (grown_same HG.out hg)
  have s3 := hg.size
  clear ho hg hx2 hIh HX HK HCN HG
  have y2 : (w2.alloc (.cells #[.slice (some ⟨g, 0, none⟩) n c3] 25)).cell? ⟨w1.heap.size, 1, none⟩ = some (.slice A2 n c2) := (World.cell?_alloc_some w2 _ _ (by rw [y1]; rfl)).trans y1
  gi_wp2_with (fail)
  refine ⟨trivial, (callsIn_wide.2 ((callsIn_wide (n := 7)).1 (backward_in Fence.wide 7 trivial rfl A2 n c2 _))).mono ?_⟩
  rintro e W3 ⟨rfl, rfl⟩
  gi_wp2_with (fail)
  have e1 := (Holds5.fresh w2 25 #[.slice (some ⟨g, 0, none⟩) n c3]).alloc (.cells #[.slice A2 n c2] 28)
  have e3 := Holds5.fresh (w2.alloc (.cells #[.slice (some ⟨g, 0, none⟩) n c3] 25)) 28 #[.slice A2 n c2]
  rw [World.size_alloc] at e3
  have hg3 : w2.grownBy ((w2.alloc (.cells #[.slice (some ⟨g, 0, none⟩) n c3] 25)).alloc (.cells #[.slice A2 n c2] 28)) none := grown_same (World.grownBy_alloc _ _ none) (World.grownBy_alloc _ _ none)
  have hz3 : ((w2.alloc (.cells #[.slice (some ⟨g, 0, none⟩) n c3] 25)).alloc (.cells #[.slice A2 n c2] 28)).heap.size = w2.heap.size + 2 := by simp
  obtain ⟨W3, hW3⟩ : ∃ W3, (w2.alloc (.cells #[.slice (some ⟨g, 0, none⟩) n c3] 25)).alloc (.cells #[.slice A2 n c2] 28) = W3 := ⟨_, rfl⟩
  rw [hW3] at e1 e3 hg3 hz3 ⊢
  clear hW3
  have hN3 : Ihs w W3 g w2.heap.size w1.heap.size n c3 A2 c2 AS F (latF F) := ⟨ownsRow_on HO2.out hg3, e1, HR2.out.grown hg3, grown_same HG2.out hg3, by omega, hlg2⟩
  have hsl : Slis W3 A2 n AS := by
    obtain ⟨A2', c2', e4, s4⟩ := hN3.rows.shape
    injection e4 with e4
    subst e4
    rcases s4 with h0 | ⟨g2, rfl, q2⟩
    · exact .inl h0
    · refine .inr ⟨g2, 0, rfl, ?_, fun j hj => by rw [Nat.zero_add]; exact q2 j hj⟩
      have := (World.ownsRow.lt hN3.rows.out.own g2 rfl).2
      omega
  have hFA : ∀ j, j < n → ∃ A l c, AS j = .slice A l c := fun j hj => by
    obtain ⟨B, d, e, -⟩ := hN3.rows.nums hj
    exact ⟨B, _, d, e⟩
  have hst := backward_stops Fence.wide 7 trivial rfl (by omega) (w2.heap.size + 1) (fun r => r = g) A2 n c2 AS (by omega) hFA W3 (by omega) (by omega) (e3.look 0) hsl (fun b off e h0 => by
    have h9 := hN3.rows.out.hib b (by rw [e]; rfl)
    omega)
  have HST := shade hst
  have HN3 := shade hN3
  have HZ3 := shade hz3
  clear e1 e3 hg3 hz3 hN3 hst HO2 HR2 HG2 hsl hFA y1 y2
  refine wpIn_rangeFunc_ownH (F := Fence.wide) (n := 8) rfl (by omega) (gf := 37) (lb := #[.pointer (some ⟨w2.heap.size + 1, 0, none⟩)]) rfl trivial (enters_of Tryd.func37 (by kernel_rfl) rfl)
    HST.out (fun h k => h.trans k) (fun W l o o' _ ho hc _ => KeepP.put ho hc) (Below.refl _ _) (fun _ => rfl)
    (fun pre W => Ihs w W g w2.heap.size w1.heap.size n c3 A2 c2 AS F ((pre.map Subtype.val).foldl (hs1 F) (latF F)) ∧ w2.heap.size + 2 ≤ W.heap.size)
    (fun _ _ _ => False)
    (fun s X X' row hs hg hr => ⟨hs.1.grown hg (fun r e => by have := (hr r e).1; have := HZ3.out; omega), Nat.le_trans hs.2 hg.size⟩)
    (fun _ _ _ _ _ hs _ _ => hs)
    ⟨HN3.out, by have := HZ3.out; omega⟩
    (fun q a' _ => a' = { tmps := #[.slice A n c, undef, .slice none 0 0, .pointer (some ⟨w1.heap.size, 0, none⟩), .bool true, .pointer (some ⟨w2.heap.size, 0, none⟩), .int .i64 (q.1 : Int), AS q.1, undef, undef, .tuple #[.agg #[.slice A1 n c1, .slice A2 n c2], .bool true], .slice A n c, .tuple #[.agg #[.slice A1 n c1, .slice A2 n c2], .bool true], .agg #[.slice A1 n c1, .slice A2 n c2], .bool true, .pointer (some ⟨w1.heap.size, 0, none⟩), .slice A1 n c1, .slice (some ⟨g, 0, none⟩) n c3, .pointer (some ⟨w1.heap.size, 1, none⟩), .slice A2 n c2, .func (.func 37) #[] #[.pointer (some ⟨w2.heap.size + 1, 0, none⟩)], .int .i64 (q.1 : Int), AS q.1, undef, undef, undef, undef, undef, undef, undef, undef, undef, undef, undef, undef, undef, undef, undef, undef, undef, undef, undef, undef, undef, undef, undef, undef, undef], defers := [] })
    (fun q a' => ?own) ?assign ?body ?done ?stop
  case own =>
    rintro _ X X' row h hg hr
    exact h
  case assign =>
    intro l pre q W K hi hK
    dsimp only [encS]
    gi_wp2_with (fail)
    exact hK _ _ (KeepsFrom.of_grownBy (grown_refl W none) (fun j e => by cases e)) (KeepP.refl _ _) hi rfl
  case body =>
    rintro l pre q a' W hl hlp ⟨hN, hz⟩ rfl hlen
    obtain ⟨k, hkn⟩ := q
    dsimp only
    have hfold : ((pre ++ [(⟨k, hkn⟩ : { i : Nat // i < n })]).map Subtype.val).foldl (hs1 F) (latF F) = hs1 F ((pre.map Subtype.val).foldl (hs1 F) (latF F)) k := by
      rw [List.map_append, List.foldl_append]
      rfl
    have HF := shade hfold
    have hrg := hs_rng F (pre.map Subtype.val) (latF F) 1 (fun i => by
      have := lat_rng (F i).op.toList
      show 1 ≤ lat (F i).op.toList ∧ lat (F i).op.toList ≤ 3 * 1
      omega)
    rw [List.length_map] at hrg
    clear hfold
    generalize (pre.map Subtype.val).foldl (hs1 F) (latF F) = f at *
    have HRG := shade (show ∀ i, 1 ≤ f i ∧ f i ≤ 21 from fun i => by have := hrg i; omega)
    obtain ⟨B1, d1, f1, nb⟩ := hN.rows.nums hkn
    rw [f1]
    have HN := shade hN
    have HF1 := shade f1
    have hge := hN.own.lt
    have hgB := hN.gB
    have k0 : (0 : Int) ≤ (k : Int) := by omega
    have kn : (k : Int) < (n : Int) := by omega
    clear hN nb hrg f1
    gi_wp2_with (fail)
    gi_loopw [25] (fun u wq => ∃ i : Nat, i ≤ k ∧ u = .int .i64 (i : Int) ∧ Ihs w wq g w2.heap.size w1.heap.size n c3 A2 c2 AS F (fun x => if x < i then hs1 F f k x else f x) ∧ W.grownBy wq (some g))
      (fun u _ => k - (intOf u).toNat)
    case atStart => exact ⟨0, Nat.zero_le _, rfl, HN.out.congr (fun j _ => by simp), grown_refl _ _⟩
    case round =>
      obtain ⟨i, hi, rfl, hh, hgw⟩ := hrel
      have HH := shade hh; have HGW := shade hgw
      clear hh hgw HN
      by_cases hik : i < k
      · obtain ⟨B1', d1', f1', nb⟩ := HH.out.rows.nums hkn
        rw [HF1.out] at f1'
        injection f1' with f1a f1b f1c
        subst f1a f1c
        obtain ⟨bb, bo, rfl, -⟩ := nb.resolve_left (show ¬ lnW k = 0 by unfold lnW; omega)
        have b0 := nb.cell (show i < lnW k from hik)
        have z0 := HH.out.box.look 0
        simp at z0
        have o1 := HH.out.own.nums.cell (show i < n by omega)
        have o2 := HH.out.own.nums.cell hkn
        rw [Nat.zero_add, if_neg (by omega)] at o1
        rw [Nat.zero_add, if_neg (by omega)] at o2
        have fz := World.ownsRow.frozenAt HH.out.own i
        have hri := HRG.out i
        have hrk := HRG.out k
        have hwr := wtI_rng (F i) (F k)
        have hww : wtR F k i = wtI (F i) (F k) := rfl
        rw [← hww] at hwr
        have HS1 := shade (show hs1 F f k i = if i < k ∧ 0 < wtR F k i then max (f i) (wtR F k i + f k) else f i from rfl)
        obtain ⟨x, hx⟩ : ∃ x, wtR F k i = x := ⟨_, rfl⟩
        obtain ⟨y, hy⟩ : ∃ y, f i = y := ⟨_, rfl⟩
        obtain ⟨z, hz2⟩ : ∃ z, f k = z := ⟨_, rfl⟩
        rw [hx, hy, hz2] at HS1
        rw [hx] at b0 hwr
        rw [hy] at o1 hri
        rw [hz2] at o2 hrk
        have HYY := shade hy
        have ik : (i : Int) < (k : Int) := by omega
        have ik0 : (0 : Int) ≤ (i : Int) := by omega
        have iln : (i : Int) < (lnW k : Int) := by unfold lnW; omega
        have inn : (i : Int) < (n : Int) := by omega
        have hwz : IntKind.i64.wrap (x + z) = x + z := by rw [IntKind.wrap_i64]; omega
        have HPU := shade (fun v : Int => HH.out.put i v)
        clear hx hy hz2 hww nb f1b
        by_cases hx0 : 0 < x
        · gi_wp2_with (fail)
          rename_i KK hKK
          have HSP := shade (show ∀ v : Value, SS15 g w2.heap.size k n c3 z (wr.drew.setCell ⟨g, i, none⟩ v) from fun v => ⟨(World.cell?_setCell_other wr.drew ⟨g, i, none⟩ _ v (by intro e; injection e with e; omega)).trans z0, (World.cell?_setCell_other wr.drew ⟨g, i, none⟩ _ v (by intro e; injection e with _ e; omega)).trans o2⟩)
          have HS0 := shade (show SS15 g w2.heap.size k n c3 z wr.drew from ⟨z0, o2⟩)
          have o1d : wr.drew.cell? ⟨g, i, none⟩ = some (.int .i64 y) := o1
          have fzd : wr.drew.frozen? ⟨g, i, none⟩ = false := fz
          refine wpIn_region_round_held (S := SS15 g w2.heap.size k n c3 z) (by kernel_rfl) (by rintro ⟨a', w', h'⟩; exact h') (by kernel_rfl) HS0.out (fun hHeld => ?_)
          refine wpAnyH_take (i := 0) (oi := { dst := some 32, op := Op.load 25 (Operand.tmp 5), type := 25, pos := "c7_plan.go:142", after := #[], guard := none }) (v := ?_) rfl (by kernel_rfl) (by kernel_rfl) (by kernel_rfl) (fun _ _ _ h => h) (Or.inl ⟨by rfl, ?_⟩) (by assumption) ?_
          rotate_left
          · intro w' hSw
            (try dsimp only at hSw); obtain ⟨z0', o2'⟩ := hSw
            go_simp
            try with_reducible rfl
          try simp only [Act.put, List.setIfInBounds_toArray, List.set_cons_zero, List.set_cons_succ]
          refine wpAnyH_take (i := 1) (oi := { dst := some 33, op := Op.move (Operand.tmp 8), type := 3, pos := "c7_plan.go:142", after := #[], guard := none }) (v := ?_) rfl (by kernel_rfl) (by kernel_rfl) (by kernel_rfl) (fun _ _ _ h => h) (Or.inl ⟨by rfl, ?_⟩) (by assumption) ?_
          rotate_left
          · intro w' hSw
            (try dsimp only at hSw); obtain ⟨z0', o2'⟩ := hSw
            go_simp
            try with_reducible rfl
          try simp only [Act.put, List.setIfInBounds_toArray, List.set_cons_zero, List.set_cons_succ]
          refine wpAnyH_take (i := 2) (oi := { dst := some 34, op := Op.load 25 (Operand.tmp 5), type := 25, pos := "c7_plan.go:142", after := #[], guard := none }) (v := ?_) rfl (by kernel_rfl) (by kernel_rfl) (by kernel_rfl) (fun _ _ _ h => h) (Or.inl ⟨by rfl, ?_⟩) (by assumption) ?_
          rotate_left
          · intro w' hSw
            (try dsimp only at hSw); obtain ⟨z0', o2'⟩ := hSw
            go_simp
            try with_reducible rfl
          try simp only [Act.put, List.setIfInBounds_toArray, List.set_cons_zero, List.set_cons_succ]
          refine wpAnyH_take (i := 3) (oi := { dst := some 35, op := Op.move (Operand.tmp 8), type := 3, pos := "c7_plan.go:142", after := #[], guard := none }) (v := ?_) rfl (by kernel_rfl) (by kernel_rfl) (by kernel_rfl) (fun _ _ _ h => h) (Or.inl ⟨by rfl, ?_⟩) (by assumption) ?_
          rotate_left
          · intro w' hSw
            (try dsimp only at hSw); obtain ⟨z0', o2'⟩ := hSw
            go_simp
            try with_reducible rfl
          try simp only [Act.put, List.setIfInBounds_toArray, List.set_cons_zero, List.set_cons_succ]
          refine wpAnyH_take (i := 4) (oi := { dst := some 36, op := Op.indexAddr 25 (Operand.tmp 34) (Operand.tmp 35), type := 0, pos := "c7_plan.go:142", after := #[{ on := 2, ground := Ground.data }, { on := 3, ground := Ground.data }], guard := none }) (v := ?_) rfl (by kernel_rfl) (by kernel_rfl) (by kernel_rfl) (fun _ _ _ h => h) (Or.inl ⟨by rfl, ?_⟩) (by assumption) ?_
          rotate_left
          · intro w' hSw
            (try dsimp only at hSw); obtain ⟨z0', o2'⟩ := hSw
            go_simp
            try with_reducible rfl
          try simp only [Act.put, List.setIfInBounds_toArray, List.set_cons_zero, List.set_cons_succ]
          refine wpAnyH_take (i := 6) (oi := { dst := some 38, op := Op.move (Operand.tmp 9), type := 3, pos := "c7_plan.go:142", after := #[], guard := none }) (v := ?_) rfl (by kernel_rfl) (by kernel_rfl) (by kernel_rfl) (fun _ _ _ h => h) (Or.inl ⟨by rfl, ?_⟩) (by assumption) ?_
          rotate_left
          · intro w' hSw
            (try dsimp only at hSw); obtain ⟨z0', o2'⟩ := hSw
            go_simp
            try with_reducible rfl
          try simp only [Act.put, List.setIfInBounds_toArray, List.set_cons_zero, List.set_cons_succ]
          refine wpAnyH_take (i := 7) (oi := { dst := some 39, op := Op.load 25 (Operand.tmp 5), type := 25, pos := "c7_plan.go:142", after := #[], guard := none }) (v := ?_) rfl (by kernel_rfl) (by kernel_rfl) (by kernel_rfl) (fun _ _ _ h => h) (Or.inl ⟨by rfl, ?_⟩) (by assumption) ?_
          rotate_left
          · intro w' hSw
            (try dsimp only at hSw); obtain ⟨z0', o2'⟩ := hSw
            go_simp
            try with_reducible rfl
          try simp only [Act.put, List.setIfInBounds_toArray, List.set_cons_zero, List.set_cons_succ]
          refine wpAnyH_take (i := 8) (oi := { dst := some 40, op := Op.move (Operand.tmp 6), type := 3, pos := "c7_plan.go:142", after := #[], guard := none }) (v := ?_) rfl (by kernel_rfl) (by kernel_rfl) (by kernel_rfl) (fun _ _ _ h => h) (Or.inl ⟨by rfl, ?_⟩) (by assumption) ?_
          rotate_left
          · intro w' hSw
            (try dsimp only at hSw); obtain ⟨z0', o2'⟩ := hSw
            go_simp
            try with_reducible rfl
          try simp only [Act.put, List.setIfInBounds_toArray, List.set_cons_zero, List.set_cons_succ]
          refine wpAnyH_take (i := 9) (oi := { dst := some 41, op := Op.indexAddr 25 (Operand.tmp 39) (Operand.tmp 40), type := 0, pos := "c7_plan.go:142", after := #[{ on := 7, ground := Ground.data }, { on := 8, ground := Ground.data }], guard := none }) (v := ?_) rfl (by kernel_rfl) (by kernel_rfl) (by kernel_rfl) (fun _ _ _ h => h) (Or.inl ⟨by rfl, ?_⟩) (by assumption) ?_
          rotate_left
          · intro w' hSw
            (try dsimp only at hSw); obtain ⟨z0', o2'⟩ := hSw
            go_simp
            try with_reducible rfl
          try simp only [Act.put, List.setIfInBounds_toArray, List.set_cons_zero, List.set_cons_succ]
          refine wpAnyH_take (i := 10) (oi := { dst := some 42, op := Op.load 3 (Operand.tmp 41), type := 3, pos := "c7_plan.go:142", after := #[{ on := 9, ground := Ground.data }], guard := none }) (v := ?_) rfl (by kernel_rfl) (by kernel_rfl) (by kernel_rfl) (fun _ _ _ h => h) (Or.inl ⟨by rfl, ?_⟩) (by assumption) ?_
          rotate_left
          · intro w' hSw
            (try dsimp only at hSw); obtain ⟨z0', o2'⟩ := hSw
            go_simp
            try with_reducible rfl
          try simp only [Act.put, List.setIfInBounds_toArray, List.set_cons_zero, List.set_cons_succ]
          refine wpAnyH_take (i := 11) (oi := { dst := some 43, op := Op.binOp BinOp.add 3 (Operand.tmp 38) (Operand.tmp 42) 3, type := 3, pos := "c7_plan.go:142", after := #[{ on := 6, ground := Ground.data }, { on := 10, ground := Ground.data }], guard := none }) (v := ?_) rfl (by kernel_rfl) (by kernel_rfl) (by kernel_rfl) (fun _ _ _ h => h) (Or.inl ⟨by rfl, ?_⟩) (by assumption) ?_
          rotate_left
          · intro w' hSw
            (try dsimp only at hSw); obtain ⟨z0', o2'⟩ := hSw
            go_simp
            try with_reducible rfl
          try simp only [Act.put, List.setIfInBounds_toArray, List.set_cons_zero, List.set_cons_succ]
          refine wpAnyH_ready (rs := [5]) (by kernel_rfl) (by simp) ?_
          refine AllReadyH.cons (o := { dst := some 37, op := Op.load 3 (Operand.tmp 36), type := 3, pos := "c7_plan.go:142", after := #[{ on := 4, ground := Ground.data }], guard := none }) rfl (fun K hK => ?_) ?_
          · go_simp
            refine hK.out _ _ ?_ (fun hHeld => ?_)
            · (try dsimp only)
              first | exact HSP.out _ | exact HS0.out
            clear hK K
            try simp only [Act.put, List.setIfInBounds_toArray, List.set_cons_zero, List.set_cons_succ]
            refine wpAnyH_ready (rs := [12]) (by kernel_rfl) (by simp) ?_
            refine AllReadyH.cons (o := { dst := some 44, op := Op.call { callee := Callee.builtin Builtin.max, args := #[Operand.tmp 37, Operand.tmp 43], argTypes := #[3, 3] }, type := 3, pos := "c7_plan.go:142", after := #[{ on := 5, ground := Ground.data }, { on := 11, ground := Ground.data }], guard := none }) rfl (fun K hK => ?_) ?_
            · go_simp
              refine hK.out _ _ ?_ (fun hHeld => ?_)
              · (try dsimp only)
                first | exact HSP.out _ | exact HS0.out
              clear hK K
              try simp only [Act.put, List.setIfInBounds_toArray, List.set_cons_zero, List.set_cons_succ]
              refine wpAnyH_take (i := 13) (oi := { dst := some 45, op := Op.indexAddr 25 (Operand.tmp 32) (Operand.tmp 33), type := 0, pos := "c7_plan.go:142", after := #[{ on := 0, ground := Ground.data }, { on := 1, ground := Ground.data }, { on := 0, ground := Ground.phase }, { on := 1, ground := Ground.phase }, { on := 2, ground := Ground.phase }, { on := 3, ground := Ground.phase }, { on := 4, ground := Ground.phase }, { on := 5, ground := Ground.phase }, { on := 6, ground := Ground.phase }, { on := 7, ground := Ground.phase }, { on := 8, ground := Ground.phase }, { on := 9, ground := Ground.phase }, { on := 10, ground := Ground.phase }, { on := 11, ground := Ground.phase }, { on := 12, ground := Ground.phase }], guard := none }) (v := ?_) rfl (by kernel_rfl) (by kernel_rfl) (by kernel_rfl) (fun _ _ _ h => h) (Or.inl ⟨by rfl, ?_⟩) (by assumption) ?_
              rotate_left
              · intro w' hSw
                (try dsimp only at hSw); obtain ⟨z0', o2'⟩ := hSw
                go_simp
                try with_reducible rfl
              try simp only [Act.put, List.setIfInBounds_toArray, List.set_cons_zero, List.set_cons_succ]
              refine wpAnyH_ready (rs := [14]) (by kernel_rfl) (by simp) ?_
              refine AllReadyH.cons (o := { dst := none, op := Op.store 3 (Operand.tmp 45) (Operand.tmp 44), type := 0, pos := "c7_plan.go:142", after := #[{ on := 13, ground := Ground.data }, { on := 12, ground := Ground.data }, { on := 0, ground := Ground.phase }, { on := 1, ground := Ground.phase }, { on := 2, ground := Ground.phase }, { on := 3, ground := Ground.phase }, { on := 4, ground := Ground.phase }, { on := 5, ground := Ground.phase }, { on := 6, ground := Ground.phase }, { on := 7, ground := Ground.phase }, { on := 8, ground := Ground.phase }, { on := 9, ground := Ground.phase }, { on := 10, ground := Ground.phase }, { on := 11, ground := Ground.phase }, { on := 12, ground := Ground.phase }], guard := none }) rfl (fun K hK => ?_) ?_
              · go_simp
                refine hK.out _ _ ?_ (fun hHeld => ?_)
                · (try dsimp only)
                  first | exact HSP.out _ | exact HS0.out
                clear hK K
                try simp only [Act.put, List.setIfInBounds_toArray, List.set_cons_zero, List.set_cons_succ]
                refine wpAnyH_done (by kernel_rfl) ?_ _
                clear hHeld
                refine hKK _ _ ?_
                clear hKK KK
                gi_wp2_with (fail)
                (try simp only [hwz])
                go_roundw
                case rel => exact ⟨i + 1, by omega, by go_num, ((HPU.out _).grown (grown_drew1 _) (fun r e => by cases e)).congr (fun j hj => by
                  show (if j = i then _ else (if j < i then hs1 F f k j else f j)) = if j < i + 1 then hs1 F f k j else f j
                  by_cases e : j = i
                  · have h9 : hs1 F f k i = max y (x + z) := by rw [HS1.out, if_pos ⟨hik, hx0⟩]
                    rw [if_pos e, if_pos (show j < i + 1 by omega), e, h9]
                    (try rw [hwz])
                    split <;> omega
                  · rw [if_neg e]
                    by_cases e2 : j < i
                    · rw [if_pos e2, if_pos (show j < i + 1 by omega)]
                    · rw [if_neg e2, if_neg (show ¬ j < i + 1 by omega)]), grown_same (grown_same HGW.out (grown_set g i _)) (show World.grownBy _ _ _ from ⟨rfl, rfl, rfl, Nat.le_refl _, fun _ _ _ => rfl⟩)⟩
                case measure => simp [intOf]; omega
              exact AllReadyH.nil
            exact AllReadyH.nil
          exact AllReadyH.nil
        · gi_wp2_with (fail)
          go_roundw
          case rel => exact ⟨i + 1, by omega, by go_num, HH.out.congr (fun j hj => by
            by_cases e : j = i
            · rw [e, if_neg (by omega), if_pos (by omega), HS1.out, if_neg (fun h => hx0 h.2), HYY.out]
            · by_cases e2 : j < i
              · rw [if_pos e2, if_pos (by omega)]
              · rw [if_neg e2, if_neg (by omega)]), HGW.out⟩
          case measure => simp [intOf]; omega
      · obtain rfl : i = k := by omega
        have HH2 := shade (HH.out.congr (f' := hs1 F f i) (fun j _ => by
          by_cases e : j < i
          · rw [if_pos e]
          · rw [if_neg e]
            unfold hs1
            rw [if_neg (fun h => e h.1)]))
        gi_wp2_with (fail)
        refine ⟨?_, ?_, ?_, ?_⟩
        · exact KeepsFrom.of_grownBy HGW.out (fun j e => by injection e with e; have := HZ3.out; omega)
        · exact KeepP.grown HGW.out (fun r e => by injection e with e; exact e.symm)
        · rw [HF.out]
          exact HH2.out
        · exact Nat.le_trans hz HGW.out.size
  case done =>
    rintro D ys W hD hys ⟨hN, hz⟩ hK
    rw [hys, hs_all F n n] at hN
    have c0 := hN.box.look 0
    simp at c0
    have HN := shade hN
    clear hN hys
    gi_wp2_with (fail)
    refine ⟨by simp, .inl ⟨_, _, rfl, run_takeDeferred hK, ?_⟩⟩
    have hR5 := HN.out.grown (grownBy_putObj' W D (.deferred none)) (fun r e => by
      injection e with e
      have := HZ3.out
      omega)
    exact ⟨_, results_tmp rfl _ _ _, .slice (some ⟨g, 0, none⟩) n c3, rfl, hR5.own, hR5.low⟩
  case stop =>
    rintro D cc pre W hD _ h _
    exact h.elim

end Go.Proofs.YtblnchcgeepemaaDoor
