/- TraceOf, over whatever runOf leaves. The model's validRun and TraceOf. runOf, put together; TraceOf and its model answer alike. Rows that a call has made: what changes them, what does not; their marks. -/
import Derived.Test.YtjeflaodeafhbaaDoorG92
import Derived.Deep.Onto
import Derived.Test.YtjeflaodeafhbaaDoorG77
import Derived.Deep.CutRange
import Derived.Maps.AppendAt
namespace Go.Proofs.YtjeflaodeafhbaaDoor
open Go.RowKit
set_option linter.unusedSimpArgs false
/-- What runOf leaves: k states; the code is the one that was given, if there are any. -/
def RunRes (A : Option Addr) (len k : Nat) (g : Nat → Sta) (w : World) (e : Ending) (w' : World) : Prop :=
  ∃ (A0 : Option Addr) (l0 c0 : Nat) (A3 : Option Addr) (c3 : Nat) (t : Sta) (d b : Bool), e = .returned (.tuple #[.agg #[.slice A0 l0 c0, .slice A3 k c3, .int .i64 t.at', .int .i64 (t.r 0), .int .i64 (t.r 1), .int .i64 (t.r 2), .int .i64 (t.r 3), .int .i64 (t.m 0), .int .i64 (t.m 1), .int .i64 (t.m 2), .int .i64 (t.m 3), .int .i64 (t.m 4), .int .i64 (t.m 5), .int .i64 (t.m 6), .int .i64 (t.m 7), .bool d], .bool b]) ∧ (k = 0 ∨ (A0 = A ∧ l0 = len)) ∧ Stas w' A3 k g ∧ (∀ b off, A3 = some ⟨b, off, none⟩ → w.heap.size ≤ b ∧ b < w'.heap.size) ∧ w.grownBy w' none
/-- What a call leaves that makes a row of numbers. -/
def NumRes (k : Nat) (f : Nat → Int) (w : World) (e : Ending) (w' : World) : Prop :=
  ∃ v, e = .returned v ∧ w'.ownsRow w.heap.size 3 1 v k (numL k f) ∧ w.grownBy w' none
theorem Stas.row {w : World} {b off k : Nat} {g : Nat → Sta} (h : Stas w (some ⟨b, off, none⟩) k g) {i : Nat} (hi : i < k) : w.cell? ⟨b, off + i * 13, none⟩ = some (.int .i64 (g i).at') ∧ w.cell? ⟨b, off + i * 13 + 1, none⟩ = some (.int .i64 ((g i).r 0)) ∧ w.cell? ⟨b, off + i * 13 + 2, none⟩ = some (.int .i64 ((g i).r 1)) ∧ w.cell? ⟨b, off + i * 13 + 3, none⟩ = some (.int .i64 ((g i).r 2)) ∧ w.cell? ⟨b, off + i * 13 + 4, none⟩ = some (.int .i64 ((g i).r 3)) ∧ w.cell? ⟨b, off + i * 13 + 5, none⟩ = some (.int .i64 ((g i).m 0)) ∧ w.cell? ⟨b, off + i * 13 + 6, none⟩ = some (.int .i64 ((g i).m 1)) ∧ w.cell? ⟨b, off + i * 13 + 7, none⟩ = some (.int .i64 ((g i).m 2)) ∧ w.cell? ⟨b, off + i * 13 + 8, none⟩ = some (.int .i64 ((g i).m 3)) ∧ w.cell? ⟨b, off + i * 13 + 9, none⟩ = some (.int .i64 ((g i).m 4)) ∧ w.cell? ⟨b, off + i * 13 + 10, none⟩ = some (.int .i64 ((g i).m 5)) ∧ w.cell? ⟨b, off + i * 13 + 11, none⟩ = some (.int .i64 ((g i).m 6)) ∧ w.cell? ⟨b, off + i * 13 + 12, none⟩ = some (.int .i64 ((g i).m 7)) :=
  ⟨h.cell hi (i := 0) (by omega), h.cell hi (i := 1) (by omega), h.cell hi (i := 2) (by omega), h.cell hi (i := 3) (by omega), h.cell hi (i := 4) (by omega), h.cell hi (i := 5) (by omega), h.cell hi (i := 6) (by omega), h.cell hi (i := 7) (by omega), h.cell hi (i := 8) (by omega), h.cell hi (i := 9) (by omega), h.cell hi (i := 10) (by omega), h.cell hi (i := 11) (by omega), h.cell hi (i := 12) (by omega)⟩
theorem ownsRow_slice {w : World} {B : Nat} {e : TypeId} {z : Nat} {v : Value} {n : Nat} {xs : List Value} (h : w.ownsRow B e z v n xs) : ∃ A c, v = .slice A n c ∧ ∀ b off, A = some ⟨b, off, none⟩ → B ≤ b ∧ b < w.heap.size := by
  rcases h.2 with ⟨e, h0⟩ | ⟨g', c, cur, e, hb, hw, hrest⟩
  · exact ⟨none, 0, by rw [e, h0], by intro _ _ e; cases e⟩
  · have hh := h
    subst e
    have hlt := World.ownsRow.lt hh g' rfl
    exact ⟨some ⟨g', 0, none⟩, c, rfl, by intro b off e; injection e with e; injection e with e1 e2; subst e1; exact hlt⟩
theorem ownsRow_on {w w' : World} {B : Nat} {e : TypeId} {z : Nat} {v : Value} {n : Nat} {xs : List Value} (h : w.ownsRow B e z v n xs) (hg : w.grownBy w' none) : w'.ownsRow B e z v n xs :=
  World.ownsRow.kept h hg (Classical.em _)
theorem numL_snoc (k : Nat) (f : Nat → Int) : numL k f ++ [.int .i64 (f k)] = numL (k + 1) f := by
  unfold numL
  rw [List.range_succ, List.map_append]
  rfl
theorem int_new (w : World) (t : TypeId) (x : Int) : ∀ j u, ([.int .i64 x] : List Value)[j]? = some u → (w.alloc (.cells #[.int .i64 x] t)).cell? ((⟨w.heap.size, 0, none⟩ : Addr).add j) = some u := by
  intro j u h
  rw [Addr.add_lit, Nat.zero_add, World.cell?_alloc_new]
  simpa using h
theorem int_one (x : Int) : ∀ u ∈ ([.int .i64 x] : List Value), u.oneCell' = true := by
  intro u hu
  simp only [List.mem_cons, List.not_mem_nil, or_false] at hu
  rw [hu]
  rfl
/-- What stands while the numbers are put together: i of them so far. -/
structure TrO (w wr : World) (B : Nat) (A3 : Option Addr) (k : Nat) (g : Nat → Sta) (i : Nat) (v : Value) (f : Nat → Int) : Prop where
  own : wr.ownsRow B 3 1 v i (numL i f)
  sta : Stas wr A3 k g
  low : w.grownBy wr none
  big : B ≤ wr.heap.size
end Go.Proofs.YtjeflaodeafhbaaDoor

namespace Go.Proofs.YtjeflaodeafhbaaDoor
open Go.RowKit
set_option linter.unusedSimpArgs false
/-- What stands while the model's states go on: i of them so far. The machine is kept in the first block; its slices lie elsewhere. -/
structure MoO (w wr : World) (B : Nat) (F : Nat → Ins) (s : Sta) (i : Nat) (v : Value) (xs : List Value) (e z n : Nat) (b1 o1 c1 b2 o2 c2 : Nat) : Prop where
  own : wr.ownsRow B e z v n xs
  box : Holds5 wr w.heap.size 29 #[.int .i64 (sN F s i).at', .slice (some ⟨b1, o1, none⟩) 4 c1, .slice (some ⟨b2, o2, none⟩) 8 c2]
  n1 : Nums wr (some ⟨b1, o1, none⟩) 4 (sN F s i).r
  n2 : Nums wr (some ⟨b2, o2, none⟩) 8 (sN F s i).m
  ne : b1 ≠ w.heap.size ∧ b2 ≠ w.heap.size
  sepv : ∀ j, v.ownBlock = some j → j ≠ b1 ∧ j ≠ b2
  low : w.grownBy wr none
  big : B ≤ wr.heap.size
  sep : w.heap.size < B
section
variable {w wr w2 : World} {B : Nat} {F : Nat → Ins} {s : Sta} {i : Nat} {v : Value} {xs : List Value} {e z n : Nat} {b1 o1 c1 b2 o2 c2 : Nat}
theorem MoO.on (h : MoO w wr B F s i v xs e z n b1 o1 c1 b2 o2 c2) (hg : wr.grownBy w2 none) : MoO w w2 B F s i v xs e z n b1 o1 c1 b2 o2 c2 :=
  ⟨ownsRow_on h.own hg, h.box.grown hg (by intro e; cases e), h.n1.on hg, h.n2.on hg, h.ne, h.sepv, grown_same h.low hg, Nat.le_trans h.big hg.size, h.sep⟩
theorem MoO.inb (h : MoO w wr B F s i v xs e z n b1 o1 c1 b2 o2 c2) : b1 < wr.heap.size ∧ b2 < wr.heap.size := by
  rcases h.n1 with e1 | ⟨_, _, e1, l1, _⟩
  · omega
  rcases h.n2 with e2 | ⟨_, _, e2, l2, _⟩
  · omega
  injection e1 with e1; injection e1 with e1; injection e2 with e2; injection e2 with e2
  subst e1; subst e2
  exact ⟨l1, l2⟩
/-- Behind an append to the row. -/
theorem MoO.app (h : MoO w wr B F s i v xs e z n b1 o1 c1 b2 o2 c2) {v' : Value} {xs' : List Value} {n' : Nat} (ho : w2.ownsRow B e z v' n' xs') (hg : wr.grownBy w2 v.ownBlock) (hv : ∀ j, v'.ownBlock = some j → v.ownBlock = some j ∨ wr.heap.size ≤ j) : MoO w w2 B F s i v' xs' e z n' b1 o1 c1 b2 o2 c2 := by
  have hb := h.inb
  refine ⟨ho, h.box.grown hg (fun e => ?_), h.n1.grown hg (fun b off e e' => ?_), h.n2.grown hg (fun b off e e' => ?_), h.ne, fun j hj => ?_, grown_row h.low hg (fun j e => ?_), Nat.le_trans h.big hg.size, h.sep⟩
  · have := (World.ownsRow.lt h.own _ e.symm).1
    have := h.sep
    omega
  · injection e with e; injection e with e
    subst e
    exact (h.sepv _ e'.symm).1 rfl
  · injection e with e; injection e with e
    subst e
    exact (h.sepv _ e'.symm).2 rfl
  · rcases hv j hj with h1 | h1
    · exact h.sepv j h1
    · omega
  · have := (World.ownsRow.lt h.own j e).1
    have := h.sep
    omega
/-- Behind a step. -/
theorem MoO.step (h : MoO w wr B F s i v xs e z n b1 o1 c1 b2 o2 c2) (hg : wr.grownBy w2 none) {g1 d1 g2 d2 : Nat} (o1' : Own w2 wr.heap.size (some ⟨g1, 0, none⟩) 4 d1 (sNext F (sN F s i)).r) (o2' : Own w2 wr.heap.size (some ⟨g2, 0, none⟩) 8 d2 (sNext F (sN F s i)).m) :
    MoO w (((w2.setCell ⟨w.heap.size, 0, none⟩ (.int .i64 (sNext F (sN F s i)).at')).setCell ⟨w.heap.size, 1, none⟩ (.slice (some ⟨g1, 0, none⟩) 4 d1)).setCell ⟨w.heap.size, 2, none⟩ (.slice (some ⟨g2, 0, none⟩) 8 d2)) B F s (i + 1) v xs e z n g1 0 d1 g2 0 d2 := by
  have hw := h.box.inside
  have hgs := grown_set3 w2 w.heap.size (.int .i64 (sNext F (sN F s i)).at') (.slice (some ⟨g1, 0, none⟩) 4 d1) (.slice (some ⟨g2, 0, none⟩) 8 d2)
  have hl1 := o1'.lt
  have hl2 := o2'.lt
  have hb := (((h.box.grown hg (by intro e; cases e)).put 0 (.int .i64 (sNext F (sN F s i)).at')).put 1 (.slice (some ⟨g1, 0, none⟩) 4 d1)).put 2 (.slice (some ⟨g2, 0, none⟩) 8 d2)
  simp at hb
  refine ⟨World.ownsRow.kept (ownsRow_on h.own hg) hgs (.inr fun e => ?_), hb, o1'.nums.grown hgs ?_, o2'.nums.grown hgs ?_, ⟨by omega, by omega⟩, fun j hj => ?_, grown_then (grown_same h.low hg) hgs (Nat.le_refl _), Nat.le_trans h.big (Nat.le_trans hg.size hgs.size), h.sep⟩
  · have := (World.ownsRow.lt h.own _ e).1
    have := h.sep
    omega
  · intro b off e e'
    injection e with e; injection e with e; injection e' with e'
    omega
  · intro b off e e'
    injection e with e; injection e with e; injection e' with e'
    omega
  · have := (World.ownsRow.lt h.own _ hj).2
    omega
end
end Go.Proofs.YtjeflaodeafhbaaDoor

namespace Go.Proofs.YtjeflaodeafhbaaDoor
open Go.RowKit
theorem runEnd_ex (len : Nat) (F : Nat → Ins) (s : Sta) : ∀ fuel, ∃ k, RunEnd len F s fuel k := by
  intro fuel
  induction fuel with
  | zero => exact ⟨0, Nat.le_refl _, fun i hi => absurd hi (Nat.not_lt_zero i), .inl rfl⟩
  | succ fuel ih =>
    obtain ⟨k, h1, h2, h3⟩ := ih
    rcases hh : sHalt len F (sN F s k) with _ | _
    · rcases h3 with h3 | h3
      · refine ⟨k + 1, by omega, fun i hi => ?_, .inl (by omega)⟩
        by_cases e : i = k
        · rw [e]
          exact hh
        · exact h2 i (by omega)
      · rw [hh] at h3
        cases h3
    · exact ⟨k, by omega, h2, .inr hh⟩
theorem runB_parts {len : Nat} {F : Nat → Ins} {at' : Int} {n1 n2 : Nat} {f1 f2 : Nat → Int} {fuel : Int} (h : runB len F at' n1 n2 f1 f2 fuel = true) : vcB len F = true ∧ vmB at' n1 n2 f1 f2 = true ∧ 0 ≤ fuel ∧ fuel ≤ 300 := by
  simp only [runB, inRB, Bool.and_eq_true, decide_eq_true_eq] at h
  exact ⟨h.1.1, h.1.2, h.2.1, h.2.2⟩
theorem runOf_no (A : Option Addr) (len cap : Nat) (F : Nat → Ins) (at' : Int) (A1 : Option Addr) (n1 c1 : Nat) (A2 : Option Addr) (n2 c2 : Nat) (f1 f2 : Nat → Int) (fuel : Int) (w : World) (hg : WT w) (hl : len ≤ 9223372036854775807) (hC : Code w A len F) (h1 : Nums w A1 n1 f1) (h2 : Nums w A2 n2 f2) (hr : runB len F at' n1 n2 f1 f2 fuel = false) : Calls Tryd.prog 46 #[.slice A len cap, MV at' A1 n1 c1 A2 n2 c2, .int .i64 fuel] w (NoRun w) := by
  rcases hv : vcB len F with _ | _
  · exact runOf_code A len cap F at' A1 n1 c1 A2 n2 c2 f1 f2 fuel w hg hl hC h1 h2 hv
  rcases hm : vmB at' n1 n2 f1 f2 with _ | _
  · exact runOf_mach A len cap F at' A1 n1 c1 A2 n2 c2 f1 f2 fuel w hg hl hC h1 h2 hv hm
  · refine runOf_fuel A len cap F at' A1 n1 c1 A2 n2 c2 f1 f2 fuel w hg hl hC h1 h2 hv hm ?_
    simp only [runB, hv, hm, inRB, Bool.true_and, Bool.and_eq_false_iff, decide_eq_false_iff_not] at hr
    omega
theorem NoRun.res {w : World} {e : Ending} {w' : World} (A : Option Addr) (len : Nat) (g : Nat → Sta) (h : NoRun w e w') : RunRes A len 0 g w e w' :=
  ⟨none, 0, 0, none, 0, zSta, false, false, h.1, .inl rfl, .inl rfl, (by intro _ _ e; cases e), h.2⟩
theorem YesRun.res {A : Option Addr} {len cap : Nat} {F : Nat → Ins} {s : Sta} {fuel K : Nat} {w : World} {e : Ending} {w' : World} (hK : RunEnd len F s fuel K) (h : YesRun A len cap F s fuel w e w') : RunRes A len K (sN F s) w e w' := by
  obtain ⟨k, A3, c3, hre, he, hst, hsep, hgr⟩ := h
  obtain rfl := hre.uniq hK
  exact ⟨A, len, cap, A3, c3, sN F s k, sHalt len F (sN F s k), true, he, .inr ⟨rfl, rfl⟩, hst, hsep, hgr⟩
/-- What runOf leaves, told ahead: how many states, and which. -/
theorem run_told (n : Nat) (F : Nat → Ins) (at' : Int) (n1 n2 : Nat) (f1 f2 : Nat → Int) (fuel : Int) (hn : n ≤ 9223372036854775807) :
    ∃ (K : Nat) (g : Nat → Sta), K ≤ 300 ∧ (∀ (A : Option Addr) (cap : Nat) (A1 : Option Addr) (c1 : Nat) (A2 : Option Addr) (c2 : Nat) (W : World), WT W → Code W A n F → Nums W A1 n1 f1 → Nums W A2 n2 f2 → Calls Tryd.prog 46 #[.slice A n cap, MV at' A1 n1 c1 A2 n2 c2, .int .i64 fuel] W (RunRes A n K g W)) ∧
      ((runB n F at' n1 n2 f1 f2 fuel = false ∧ K = 0) ∨ (runB n F at' n1 n2 f1 f2 fuel = true ∧ n1 = 4 ∧ n2 = 8 ∧ g = sN F ⟨at', f1, f2⟩ ∧ RunEnd n F ⟨at', f1, f2⟩ fuel.toNat K)) := by
  rcases hr : runB n F at' n1 n2 f1 f2 fuel with _ | _
  · exact ⟨0, fun _ => zSta, by omega, fun A cap A1 c1 A2 c2 W hg hC h1 h2 => (runOf_no A n cap F at' A1 n1 c1 A2 n2 c2 f1 f2 fuel W hg hn hC h1 h2 hr).mono fun e w' h => h.res A n _, .inl ⟨rfl, rfl⟩⟩
  · obtain ⟨hv, hm, hf0, hf1⟩ := runB_parts hr
    obtain ⟨fu, rfl⟩ := Int.eq_ofNat_of_zero_le hf0
    obtain ⟨_, rfl, rfl, _, _⟩ := vmB_parts hm
    obtain ⟨K, hK⟩ := runEnd_ex n F ⟨at', f1, f2⟩ fu
    have hle := hK.le
    refine ⟨K, _, by omega, fun A cap A1 c1 A2 c2 W hg hC h1 h2 => ?_, .inr ⟨rfl, rfl, rfl, rfl, by rw [Int.toNat_natCast]; exact hK⟩⟩
    obtain ⟨b1, o1, rfl, _⟩ := h1.resolve_left (by omega)
    obtain ⟨b2, o2, rfl, _⟩ := h2.resolve_left (by omega)
    exact (runOf_yes A n cap F ⟨at', f1, f2⟩ b1 o1 c1 b2 o2 c2 fu W hg hn hC h1 h2 hv hm (by omega)).mono fun e w' h => h.res hK
end Go.Proofs.YtjeflaodeafhbaaDoor

namespace Go.Proofs.YtjeflaodeafhbaaDoor
open Go.RowKit
/-- A row that a call has made, in a stretch of memory. -/
structure RowO (wr : World) (lo hi : Nat) (e : TypeId) (v : Value) (K : Nat) (xs : List Value) : Prop where
  own : wr.ownsRow lo e 1 v K xs
  hib : ∀ i, v.ownBlock = some i → i < hi
section
variable {w w' wr w2 : World} {lo hi : Nat} {e : TypeId} {v : Value} {K : Nat} {xs : List Value} {Q1 Q2 : Option Addr}
theorem RowO.rng (h : RowO wr lo hi e v K xs) {i : Nat} (hi' : v.ownBlock = some i) : lo ≤ i ∧ i < hi := ⟨(World.ownsRow.lt h.own i hi').1, h.hib i hi'⟩
theorem RowO.grown (h : RowO wr lo hi e v K xs) (hg : wr.grownBy w2 none) : RowO w2 lo hi e v K xs := ⟨ownsRow_on h.own hg, h.hib⟩
theorem RowO.row {row : Option Nat} (h : RowO wr lo hi e v K xs) (hg : wr.grownBy w2 row) (hb : ∀ b, row = some b → b < lo ∨ hi ≤ b) : RowO w2 lo hi e v K xs := by
  refine ⟨?_, h.hib⟩
  rcases hv : v.ownBlock with _ | i
  · exact World.ownsRow.kept h.own hg (.inl hv)
  · refine World.ownsRow.kept h.own hg (.inr fun e' => ?_)
    rw [hv] at e'
    have h1 := h.rng hv
    have h2 := hb i e'.symm
    omega
theorem RowO.butO {lo' hi' : Nat} (h : RowO wr lo hi e v K xs) (hg : ButO wr w2 Q1 Q2) (hq : Within lo' hi' Q1 Q2) (hl : hi ≤ lo' ∨ hi' ≤ lo) : RowO w2 lo hi e v K xs := by
  refine ⟨⟨h.own.1, ?_⟩, h.hib⟩
  rcases h.own.2 with h' | ⟨g', cap', cur, e', hB, hg', rest⟩
  · exact .inl h'
  · have hr := h.rng (i := g') (by rw [e']; rfl)
    have hlt := (World.ownsRow.lt h.own g' (by rw [e']; rfl)).2
    refine .inr ⟨g', cap', cur, e', hB, ?_, rest⟩
    rw [hg.block g' hlt (hq.ne (by omega)).1 (hq.ne (by omega)).2]
    exact hg'
theorem RowO.nums {f : Nat → Int} (h : RowO wr lo hi 3 v K (numL K f)) : ∃ A c, v = .slice A K c ∧ Nums wr A K f := by
  rcases h.own.2 with ⟨e', h0⟩ | ⟨g', cap', cur, e', _⟩
  · exact ⟨none, 0, by rw [e', h0], .inl h0⟩
  · have ho := h.own
    rw [e'] at ho
    exact ⟨some ⟨g', 0, none⟩, cap', e', Own.nums ho⟩
/-- Where the row lies, a block may be changed: what lies elsewhere stays. -/
theorem RowO.other (h : RowO wr lo hi e v K xs) {b : Nat} (hb : b < lo ∨ hi ≤ b) : v.ownBlock ≠ some b := fun e' => by
  have := h.rng e'
  omega
end
theorem NumRes.row {k : Nat} {f : Nat → Int} {w w' : World} {e : Ending} (h : NumRes k f w e w') : ∃ v, e = .returned v ∧ RowO w' w.heap.size w'.heap.size 3 v k (numL k f) ∧ w.grownBy w' none := by
  obtain ⟨v, he, ho, hg⟩ := h
  exact ⟨v, he, ⟨ho, fun i hi => (World.ownsRow.lt ho i hi).2⟩, hg⟩
end Go.Proofs.YtjeflaodeafhbaaDoor
