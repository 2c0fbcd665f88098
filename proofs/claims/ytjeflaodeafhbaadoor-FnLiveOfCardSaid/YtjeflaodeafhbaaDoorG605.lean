/- The laws' marks over a slice of instructions that the call owns, written and read back. Rows of instructions that a call has made; their marks. A program without those that are dropped, by the program. A program without those that are dropped, by the program: walked. A program without those that are not kept, by the model: walked. -/
import Derived.Test.YtjeflaodeafhbaaDoorG94
import Derived.Deep.RegionHeld3
import Derived.Laws.IdiomStrings
import Derived.Laws.Concat
import Derived.Laws.DeepStrings4
import Derived.Test.YtjeflaodeafhbaaDoorH400
import Derived.Test.YtjeflaodeafhbaaDoorG600
import Derived.Test.YtjeflaodeafhbaaDoorG580
import Derived.Test.YtjeflaodeafhbaaDoorH443
namespace Go.Proofs.YtjeflaodeafhbaaDoor
open Go.RowKit
set_option linter.unusedSimpArgs false
/-- A text of bytes. -/
def tx (x : List UInt8) : ByteArray := ⟨x.toArray⟩
theorem tx_size (x : List UInt8) : (tx x).size = x.length := by simp [tx, ByteArray.size]
theorem tx_append (x y : List UInt8) : tx x ++ tx y = tx (x ++ y) := ByteArray.mk_append_mk x y
def mkD (k : Nat) (acc : List UInt8) : List UInt8 := if h : k = 0 then acc else mkD (k / 10) (UInt8.ofNat (48 + k % 10) :: acc)
termination_by k
decreasing_by omega
/-- The mark of a number. -/
def mt (k : Nat) : ByteArray := tx (109 :: mkD k [])
theorem mkD_zero (acc : List UInt8) : mkD 0 acc = acc := by rw [mkD, dif_pos rfl]
theorem mkD_pos (k : Nat) (acc : List UInt8) (h : 0 < k) : mkD k acc = mkD (k / 10) (UInt8.ofNat (48 + k % 10) :: acc) := by
  rw [mkD, dif_neg (by omega)]
theorem tx_one (d : UInt8) (x : List UInt8) : ByteArray.append ⟨#[d]⟩ (tx x) = tx (d :: x) := tx_append [d] x
theorem tx_one' (d : UInt8) (x : List UInt8) : (⟨#[d]⟩ : ByteArray) ++ tx x = tx (d :: x) := tx_append [d] x
theorem grown_alloc' {a b : World} {row : Option Nat} (h : a.grownBy b row) (o : Obj) : a.grownBy (b.alloc o) row := grown_same h (World.grownBy_alloc b o row)
/-- The marks from m on. -/
def mkI (m j : Nat) : Ins := ⟨mt (m + 5 * j), ((m + 5 * j + 1 : Nat) : Int), ((m + 5 * j + 2 : Nat) : Int), ((m + 5 * j + 3 : Nat) : Int), ((m + 5 * j + 4 : Nat) : Int)⟩
end Go.Proofs.YtjeflaodeafhbaaDoor

namespace Go.Proofs.YtjeflaodeafhbaaDoor
open Go.RowKit
/-- What a call leaves that makes a program. -/
def CodeRes (k : Nat) (f : Nat → Ins) (w : World) (e : Ending) (w' : World) : Prop :=
  ∃ v, e = .returned v ∧ w'.ownsRow w.heap.size 61 5 v k (codeL k f) ∧ w.grownBy w' none
theorem CodeRes.congr {k : Nat} {f g : Nat → Ins} {w w' : World} {e : Ending} (h : CodeRes k f w e w') (hf : ∀ y, y < k → f y = g y) : CodeRes k g w e w' := by
  obtain ⟨v, he, ho, hg⟩ := h
  exact ⟨v, he, by rw [← codeL_congr k f g hf]; exact ho, hg⟩
theorem CodeRes.after {k : Nat} {f : Nat → Ins} {w w1 w2 : World} {e : Ending} (hg : w.grownBy w1 none) (h : CodeRes k f w1 e w2) : CodeRes k f w e w2 := by
  obtain ⟨v, he, ho, h2⟩ := h
  exact ⟨v, he, World.ownsRow.mono ho hg.size, grown_same hg h2⟩
theorem CodeRes.nil (f : Nat → Ins) (w w' : World) (hg : w.grownBy w' none) : CodeRes 0 f w (.returned (.slice none 0 0)) w' := ⟨_, rfl, World.ownsRow_nil _ _ _ _, hg⟩
/-- A row of instructions that a call has made, in a stretch of memory. -/
structure RowC (wr : World) (lo hi : Nat) (v : Value) (K : Nat) (f : Nat → Ins) : Prop where
  own : wr.ownsRow lo 61 5 v K (codeL K f)
  hib : ∀ i, v.ownBlock = some i → i < hi
section
variable {w w' wr w2 : World} {lo hi : Nat} {v : Value} {K : Nat} {f : Nat → Ins}
theorem RowC.rng (h : RowC wr lo hi v K f) {i : Nat} (hi' : v.ownBlock = some i) : lo ≤ i ∧ i < hi := ⟨(World.ownsRow.lt h.own i hi').1, h.hib i hi'⟩
theorem RowC.grown (h : RowC wr lo hi v K f) (hg : wr.grownBy w2 none) : RowC w2 lo hi v K f := ⟨World.ownsRow.kept h.own hg (Classical.em _), h.hib⟩
theorem RowC.row {row : Option Nat} (h : RowC wr lo hi v K f) (hg : wr.grownBy w2 row) (hb : ∀ b, row = some b → b < lo ∨ hi ≤ b) : RowC w2 lo hi v K f := by
  refine ⟨?_, h.hib⟩
  rcases hv : v.ownBlock with _ | i
  · exact World.ownsRow.kept h.own hg (.inl hv)
  · refine World.ownsRow.kept h.own hg (.inr fun e' => ?_)
    rw [hv] at e'
    have h1 := h.rng hv
    have h2 := hb i e'.symm
    omega
theorem RowC.code (h : RowC wr lo hi v K f) : ∃ A c, v = .slice A K c ∧ Code wr A K f ∧ wr.ownsRow lo 61 5 (.slice A K c) K (codeL K f) := by
  have ho := h.own
  rcases h.own.2 with ⟨e', h0⟩ | ⟨g', cap', cur, e', _⟩
  · subst h0
    rw [e'] at ho
    exact ⟨none, 0, e', .inl rfl, ho⟩
  · rw [e'] at ho
    exact ⟨some ⟨g', 0, none⟩, cap', e', OwnC.code ho, ho⟩
end
theorem CodeRes.row {k : Nat} {f : Nat → Ins} {w w' : World} {e : Ending} (h : CodeRes k f w e w') : ∃ v, e = .returned v ∧ RowC w' w.heap.size w'.heap.size v k f ∧ w.grownBy w' none := by
  obtain ⟨v, he, ho, hg⟩ := h
  exact ⟨v, he, ⟨ho, fun i hi => (World.ownsRow.lt ho i hi).2⟩, hg⟩
end Go.Proofs.YtjeflaodeafhbaaDoor

namespace Go.Proofs.YtjeflaodeafhbaaDoor
open Go.RowKit
set_option linter.unusedSimpArgs false
theorem Sts.row {w wr w2 : World} {n : Nat} {f : Nat → Int} {row : Option Nat} (h : Sts w wr n f) (g : wr.grownBy w2 row) (hr : ∀ j, row = some j → w.heap.size < j) : Sts w w2 n f := by
  refine ⟨World.ownsRow.kept h.own g (.inr (fun e => ?_)), ⟨g.os.trans h.low.os, g.tape.trans h.low.tape, g.output.trans h.low.output, Nat.le_trans h.low.size g.size, fun i hi hn => (g.block i (Nat.lt_of_lt_of_le hi h.low.size) (fun e => ?_)).trans (h.low.block i hi hn)⟩⟩
  · have e' : some w.heap.size = row := e
    have := hr _ e'.symm
    omega
  · have := hr i e.symm
    omega
theorem codeL_setK (n : Nat) (f : Nat → Ins) (k : Nat) (x : Int) :
    (codeL n f).set (k * 5 + 4) (.int .i64 x) = codeL n (fun j => if j = k then ⟨(f j).op, (f j).d, (f j).a, (f j).b, x⟩ else f j) := by
  unfold codeL
  rw [rowL_set]
  apply rowL_congr
  intro i _
  show _ = (if i / 5 = k then (⟨(f (i / 5)).op, (f (i / 5)).d, (f (i / 5)).a, (f (i / 5)).b, x⟩ : Ins) else f (i / 5)).part (i % 5)
  by_cases h : i / 5 = k
  · rw [if_pos h]
    rcases (show i % 5 = 0 ∨ i % 5 = 1 ∨ i % 5 = 2 ∨ i % 5 = 3 ∨ i % 5 = 4 by omega) with e | e | e | e | e
    · rw [e, if_neg (by omega)]
      rfl
    · rw [e, if_neg (by omega)]
      rfl
    · rw [e, if_neg (by omega)]
      rfl
    · rw [e, if_neg (by omega)]
      rfl
    · rw [e, if_pos (by omega)]
      rfl
  · rw [if_neg h, if_neg (by omega)]
/-- What is left so far: a row of the call's own, and the row of places. -/
structure Lft (w wr : World) (n : Nat) (f : Nat → Int) (v : Value) (k : Nat) (F : Nat → Ins) : Prop where
  sts : Sts w wr n f
  own : wr.ownsRow (w.heap.size + 1) 61 5 v k (codeL k F)
section
variable {w wr w2 w3 : World} {n k k' : Nat} {f : Nat → Int} {v v' : Value} {F F' : Nat → Ins}
theorem Lft.on (h : Lft w wr n f v k F) (hg : wr.grownBy w2 none) : Lft w w2 n f v k F := ⟨h.sts.on hg, World.ownsRow.kept h.own hg (Classical.em _)⟩
theorem Lft.off (h : Lft w wr n f v k F) (j : Nat) (e : v.ownBlock = some j) : w.heap.size < j := (World.ownsRow.lt h.own j e).1
theorem Lft.val (h : Lft w wr n f v k F) : ∃ A c, v = .slice A k c ∧ Code wr A k F ∧ wr.ownsRow (w.heap.size + 1) 61 5 (.slice A k c) k (codeL k F) ∧ ∀ b o, A = some ⟨b, o, none⟩ → w.heap.size < b ∧ o = 0 := by
  have ho := h.own
  rcases h.own.2 with ⟨e, h0⟩ | ⟨g', c, cur, e, hb, _⟩
  · subst h0
    rw [e] at ho
    exact ⟨none, 0, e, .inl rfl, ho, by intro _ _ e; cases e⟩
  · rw [e] at ho
    exact ⟨some ⟨g', 0, none⟩, c, e, OwnC.code ho, ho, by intro b o e; injection e with e; injection e with e1 e2; omega⟩
theorem Lft.put (h : Lft w wr n f v k F) (i : Nat) (x : Int) : Lft w (wr.setCell ⟨w.heap.size, i, none⟩ (.int .i64 x)) n (fun j => if j = i then x else f j) v k F :=
  ⟨h.sts.set i x, World.ownsRow.kept h.own (grown_set w.heap.size i _) (.inr (fun e => by have := h.off _ e; omega))⟩
theorem Lft.snoc (h : Lft w wr n f v k F) (hG : wr.grownBy w2 none) (ho : w3.ownsRow (w.heap.size + 1) 61 5 v' k' (codeL k' F')) (hG' : w2.grownBy w3 v.ownBlock) : Lft w w3 n f v' k' F' :=
  ⟨(h.sts.on hG).row hG' (fun j e => h.off j e), ho⟩
end
/-- The jumps of the first q are moved. -/
structure MvS (w wr : World) (n : Nat) (f : Nat → Int) (A : Option Addr) (k c : Nat) (g : Nat → Bool) (S : Nat → Ins) (q : Nat) : Prop where
  sts : Sts w wr n f
  own : wr.ownsRow (w.heap.size + 1) 61 5 (.slice A k c) k (codeL k (fun j => if j < q then mvK g (S j) else S j))
section
variable {w wr w2 : World} {n k c q b : Nat} {f : Nat → Int} {A : Option Addr} {g : Nat → Bool} {S : Nat → Ins}
theorem MvS.on (h : MvS w wr n f A k c g S q) (hg : wr.grownBy w2 none) : MvS w w2 n f A k c g S q := ⟨h.sts.on hg, World.ownsRow.kept h.own hg (Classical.em _)⟩
theorem MvS.code (h : MvS w wr n f A k c g S q) : Code wr A k (fun j => if j < q then mvK g (S j) else S j) := by
  rcases h.own.2 with ⟨e, h0⟩ | ⟨g', c', cur, e, hb, _⟩
  · exact .inl h0
  · have ho := h.own
    injection e with e1 e2 e3
    subst e1
    exact OwnC.code ho
theorem MvS.stay (h : MvS w wr n f A k c g S q) (hs : mvK g (S q) = S q) : MvS w wr n f A k c g S (q + 1) := by
  refine ⟨h.sts, ?_⟩
  rw [codeL_congr k _ (fun j => if j < q then mvK g (S j) else S j) (fun j _ => ?_)]
  · exact h.own
  · by_cases e : j < q
    · rw [if_pos e, if_pos (by omega)]
    · by_cases e2 : j = q
      · rw [if_pos (by omega), if_neg e, e2, hs]
      · rw [if_neg (by omega), if_neg e]
theorem MvS.move (h : MvS w wr n f (some ⟨b, 0, none⟩) k c g S q) (hs : jmpB (S q).op.toList = true) (hb : w.heap.size < b) :
    MvS w (wr.setCell ⟨b, q * 5 + 4, none⟩ (.int .i64 ((ctK g (S q).k.toNat : Nat) : Int))) n f (some ⟨b, 0, none⟩) k c g S (q + 1) := by
  have h1 := (World.ownsRow.stored h.own (q * 5 + 4) (.int .i64 ((ctK g (S q).k.toNat : Nat) : Int))).1
  rw [codeL_setK] at h1
  refine ⟨h.sts.row (grown_set b _ _) (fun j e => by injection e with e; omega), ?_⟩
  rw [codeL_congr k _ _ (fun j _ => ?_)]
  · exact h1
  · by_cases e2 : j = q
    · subst e2
      rw [if_pos (Nat.lt_succ_self j), if_pos rfl, mvK_yes hs, if_neg (Nat.lt_irrefl j)]
    · rw [if_neg e2]
      by_cases e : j < q
      · rw [if_pos e, if_pos (by omega)]
      · rw [if_neg e, if_neg (by omega)]
theorem MvS.res {F : Nat → Ins} (h : MvS w wr n f A (ctK g n) c g (slK F g n) (ctK g n)) : CodeRes (ctK g n) (koP F g n) w (.returned (.slice A (ctK g n) c)) wr := by
  refine ⟨_, rfl, ?_, h.sts.low⟩
  rw [codeL_congr (ctK g n) (koP F g n) _ (fun j hj => (if_pos hj).symm)]
  exact World.ownsRow.mono h.own (by omega)
end
end Go.Proofs.YtjeflaodeafhbaaDoor

namespace Go.Proofs.YtjeflaodeafhbaaDoor
open Go.RowKit
set_option linter.unusedSimpArgs false
set_option maxRecDepth 100000 in
set_option maxHeartbeats 16000000 in
theorem without_any (A : Option Addr) (n c kc : Nat) (lc : Array Value) (F : Nat → Ins) (g : Nat → Bool) (Uc : World → Prop) (w : World)
    (hv : vcB n F = true) (hwt : WT w) (hcode : Code w A n F) (hUc : Uc w) (hLow : Low w.heap.size Uc)
    (eg : ∀ args W, (callFunc kc args).run Tryd.prog W = .ok (.enter kc args) W)
    (hcut : ∀ (x : Nat) W, Uc W → WT W → Code W A n F → x < n → Calls Tryd.prog kc (#[.int .i64 (x : Int)] ++ lc) W fun e w' => e = .returned (.bool (!g x)) ∧ W.grownBy w' none) :
    Calls Tryd.prog 77 #[.slice A n c, .func (.func kc) #[] lc] w (CodeRes (ctK g n) (koP F g n) w) := by
  have hn := vcB_40 hv
  have HV := shade hv; have HWT := shade hwt; have HCO := shade hcode; have HUC := shade hUc; have HLW := shade hLow; have HEG := shade eg; have HCUT := shade hcut
  clear hv hwt hcode hUc hLow eg hcut
  obtain ⟨i0, hi, hz0, hz1, hz2⟩ := info_parts info3n
  go_enter Tryd.func77, Tryd.ntmps77
  go_wp2_with (first
    | (at_make; refine wpList_make_full _ rfl _ _ 25 rfl w.heap.size 3 i0 (.int .i64 0) 1 Tryd.underlying25 hi hz0 hz1 .i64 .i64 (n + 1) (n + 1) (n + 1) rfl rfl rfl rfl (by rw [hz2]; omega) (by unfold maxLen; omega) (Nat.le_refl _) ?_)
    | go_in)
  intro w1 hown1 hgr1
  simp only [made_nums] at hown1
  have L0 := shade (show Lft w w1 n (fun _ => 0) (.slice none 0 0) 0 (slK F g 0) from ⟨⟨hown1, hgr1⟩, World.ownsRow_nil _ _ _ _⟩)
  clear hown1 hgr1 hi hz0 hz1 hz2
  go_wp2_with fail
  go_loopw [5, 17] (fun v q wr => ∃ (i : Nat) (f : Nat → Int), i ≤ n ∧ q = .int .i64 (i : Int) ∧ (∀ j, j < i → f j = ((ctK g j : Nat) : Int)) ∧ Lft w wr n f v (ctK g i) (slK F g i)) (fun _ q _ => n - (intOf q).toNat)
  case atStart => exact ⟨0, _, Nat.zero_le _, rfl, fun j hj => absurd hj (Nat.not_lt_zero j), L0.out⟩
  case round =>
    clear L0
    obtain ⟨i, f, hin, rfl, hf, hp⟩ := hrel
    have HP := shade hp; have HF := shade hf
    have hck := ctK_le g i
    clear hp hf
    obtain ⟨A0, c0, rfl, hco, -, hab⟩ := HP.out.val
    have HNF := shade (show ∀ j, j < i + 1 → (if j = i then ((ctK g i : Nat) : Int) else f j) = ((ctK g j : Nat) : Int) from fun j hj => by
      by_cases e : j = i
      · rw [if_pos e, e]
      · rw [if_neg e]
        exact HF.out j (by omega))
    clear hco hab
    by_cases hlt : i < n
    · obtain ⟨b, off, rfl, -⟩ := HCO.out.resolve_left (by omega)
      obtain ⟨q0, q1, q2, q3, q4⟩ := (HCO.out.on HP.out.sts.low).five hlt
      have HY := shade (fun h => slK_yes (F := F) (g := g) (i := i) h)
      have HM := shade (fun h => slK_no (F := F) (g := g) (i := i) h)
      generalize hcc : F i = cc at *
      obtain ⟨op, d, a, b', kk⟩ := cc
      simp only [] at q0 q1 q2 q3 q4
      have hg1 := World.grownBy_alloc wr (.cells #[.string op, .int .i64 d, .int .i64 a, .int .i64 b', .int .i64 kk] 61) none
      have L1 := HP.out.on hg1
      have s0 := L1.sts.free i
      have s9 := L1.sts.cell i (by omega)
      have L2 := L1.put i ((ctK g i : Nat) : Int)
      have hx := (Holds5.fresh wr 61 #[.string op, .int .i64 d, .int .i64 a, .int .i64 b', .int .i64 kk]).other (p := ⟨w.heap.size, i, none⟩) (by have := HP.out.sts.lt; show wr.heap.size ≠ w.heap.size; omega) (.int .i64 ((ctK g i : Nat) : Int))
      have HX := shade hx
      have HL2 := shade L2
      clear hg1 L1 L2 hx hcc
      go_upto_region 8 with (fail)
      obtain ⟨W2, hW2⟩ : ∃ W2, (wr.alloc (.cells #[.string op, .int .i64 d, .int .i64 a, .int .i64 b', .int .i64 kk] 61)).setCell ⟨w.heap.size, i, none⟩ (.int .i64 ((ctK g i : Nat) : Int)) = W2 := ⟨_, rfl⟩
      rw [hW2] at HX HL2 ⊢
      clear hW2 q0 q1 q2 q3 q4 s0 s9
      have eg := HEG.out (#[.int .i64 (i : Int)] ++ lc) W2
      have HC := shade (HCUT.out i W2 (HLW.out.on HUC.out HL2.out.sts.low) (HWT.out.below (below_of_grown HL2.out.sts.low) (wt_lt HWT.out)) (HCO.out.on HL2.out.sts.low) hlt)
      go_wp2_with fail
      rw [eg, Oper.upon_enter]
      refine HC.out.mono ?_
      rintro e w3 ⟨rfl, hg3⟩
      have HL3 := shade (HL2.out.on hg3)
      have hx := HX.out.grown hg3 (by intro e; cases e)
      have x0 := hx.look 0; have x1 := hx.look 1; have x2 := hx.look 2; have x3 := hx.look 3; have x4 := hx.look 4
      simp at x0 x1 x2 x3 x4
      have hxz := hx.inside
      clear hg3 HX HL2 HC eg hx
      rcases hgi : g i with _ | _
      · have HK := shade (ctK_no hgi)
        have HS := shade (HM.out hgi)
        clear hgi HM HY
        go_wp2_with fail
        go_roundw
        case rel => exact ⟨i + 1, _, by omega, by go_num, HNF.out, by rw [HK.out, HS.out]; exact HL3.out⟩
        case measure => simp [intOf]; omega
      · have HK := shade (ctK_yes hgi)
        have HS := shade (HY.out hgi)
        clear hgi HM HY
        obtain ⟨i0, hi0, hz0, hz1, hz2⟩ := info_parts info24
        have hwz := HL3.out.sts.low.size
        have hlt3 := HL3.out.sts.lt
        go_wp2_with (first
              | (at_builtin; refine wpList_append_own _ rfl _ _ 46 rfl (w.heap.size + 1) 61 i0 (.agg #[.string ⟨#[]⟩, .int .i64 0, .int .i64 0, .int .i64 0, .int .i64 0]) 5 48 Tryd.underlying46 hi0 hz0 hz1 hz2 rfl (by decide) _ _ _ rfl (World.ownsRow.alloc HL3.out.own _) ⟨w3.heap.size, 0, none⟩ 1 1 [.string op, .int .i64 d, .int .i64 a, .int .i64 b', .int .i64 kk] rfl rfl (cells_new _ _ _ _ _ _ _) (one_cells _ _ _ _ _) (by unfold maxLen; omega) (by omega) (by simp at hwz ⊢; omega) ?_)
              | go_in)
        intro v' w8 hown8 hgr8 hnil8
        rw [codeL_snoc (ctK g i) (slK F g i) ⟨op, d, a, b', kk⟩] at hown8
        have H8 := shade (HL3.out.snoc (World.grownBy_alloc _ _ _) hown8 hgr8)
        clear hown8 hgr8 hnil8 hi0 hz0 hz1 hz2 x0 x1 x2 x3 x4
        go_wp2_with fail
        go_roundw
        case rel => exact ⟨i + 1, _, by omega, by go_num, HNF.out, by rw [HK.out, HS.out]; exact H8.out⟩
        case measure => simp [intOf]; omega
    · obtain rfl : i = n := by omega
      have s0 := HP.out.sts.free i
      have s9 := HP.out.sts.cell i (Nat.le_refl i)
      have L1 := shade (HP.out.put i ((ctK g i : Nat) : Int))
      have HB := shade (fun j (hj : j ≤ i) => HNF.out j (by omega))
      clear HP HF
      go_upto_region 11 with (fail)
      obtain ⟨W1, hW1⟩ : ∃ W1, wr.setCell ⟨w.heap.size, i, none⟩ (.int .i64 ((ctK g i : Nat) : Int)) = W1 := ⟨_, rfl⟩
      rw [hW1] at L1 ⊢
      clear hW1 s0 s9
      obtain ⟨A1, c1, hv1, hco, hown, hab⟩ := L1.out.val
      injection hv1 with e1 e2 e3
      subst e1 e3
      have HAB := shade hab
      have hm := ctK_le g i
      have HI := shade (show MvS w W1 i (fun j => if j = i then ((ctK g i : Nat) : Int) else f j) A0 (ctK g i) c0 g (slK F g i) 0 from ⟨L1.out.sts, by rw [codeL_congr _ _ (slK F g i) (fun j _ => if_neg (Nat.not_lt_zero j))]; exact hown⟩)
      clear hco hown hab
      go_wp2_with fail
      go_loopw [44] (fun qq wr => ∃ q : Nat, q ≤ ctK g i ∧ qq = .int .i64 (q : Int) ∧ MvS w wr i (fun j => if j = i then ((ctK g i : Nat) : Int) else f j) A0 (ctK g i) c0 g (slK F g i) q) (fun qq _ => ctK g i - (intOf qq).toNat)
      case atStart => exact ⟨0, Nat.zero_le _, rfl, HI.out⟩
      case round =>
        clear HI L1
        obtain ⟨q, hq, rfl, hp⟩ := hrel
        have HP := shade hp
        clear hp
        by_cases hqm : q < ctK g i
        · obtain ⟨i2, hi2, hgi2, hci2⟩ := ctK_of i q hqm
          have hsl : slK F g i q = F i2 := by rw [← hci2]; exact slK_at i i2 hi2 hgi2
          have hjk := okI_k (i := i2) HV.out hi2
          obtain ⟨b1, o1, rfl, -⟩ := HP.out.code.resolve_left (by omega)
          obtain ⟨hb1, rfl⟩ := HAB.out b1 o1 rfl
          have hcq : (if q < q then mvK g (slK F g i q) else slK F g i q) = F i2 := by rw [if_neg (Nat.lt_irrefl q), hsl]
          obtain ⟨q0, q1, q2, q3, q4⟩ := HP.out.code.five hqm
          simp only [hcq, Nat.zero_add] at q0 q1 q2 q3 q4
          have HSL := shade hsl
          clear hsl hcq hgi2 hci2
          generalize F i2 = cc at *
          obtain ⟨op, d, a, b', kk⟩ := cc
          simp only [] at q0 q1 q2 q3 q4 hjk
          have HJK := shade hjk
          have hx := Holds5.fresh wr 61 #[.string op, .int .i64 d, .int .i64 a, .int .i64 b', .int .i64 kk]
          have HX := shade hx
          have HP1 := shade (HP.out.on (World.grownBy_alloc wr (.cells #[.string op, .int .i64 d, .int .i64 a, .int .i64 b', .int .i64 kk] 61) none))
          have HJ := shade (fun W hW => isJump_any op d a b' kk W hW)
          clear hx hjk HP
          rcases hj : jmpB op.toList with _ | _
          · rw [hj] at HJ
            have HN := shade (show mvK g (slK F g i q) = slK F g i q from mvK_no (by rw [HSL.out]; exact hj))
            clear hj
            go_wp2_with fail
            refine (HJ.out _ ((HWT.out.below (below_of_grown HP1.out.sts.low) (wt_lt HWT.out)))).mono ?_
            rintro e w3 ⟨rfl, hg3⟩
            have HP3 := shade ((HP1.out.on hg3).stay HN.out)
            clear hg3
            go_wp2_with fail
            go_roundw
            case rel => exact ⟨q + 1, by omega, by go_num, HP3.out⟩
            case measure => simp [intOf]; omega
          · rw [hj] at HJ
            obtain ⟨k0, k1⟩ := HJK.out hj
            obtain ⟨kn, rfl⟩ := Int.eq_ofNat_of_zero_le k0
            have HH := shade (show jmpB (slK F g i q).op.toList = true from by rw [HSL.out]; exact hj)
            have HE := shade (show (slK F g i q).k.toNat = kn from by rw [HSL.out]; exact Int.toNat_natCast kn)
            clear hj
            go_wp2_with fail
            refine (HJ.out _ ((HWT.out.below (below_of_grown HP1.out.sts.low) (wt_lt HWT.out)))).mono ?_
            rintro e w3 ⟨rfl, hg3⟩
            have HP3 := shade (HP1.out.on hg3)
            have hx := HX.out.grown hg3 (by intro e; cases e)
            have x0 := hx.look 0; have x1 := hx.look 1; have x2 := hx.look 2; have x3 := hx.look 3; have x4 := hx.look 4
            simp at x0 x1 x2 x3 x4
            have y0 := HP3.out.sts.cell kn (by omega)
            rw [HB.out kn (by omega)] at y0
            have y1 := (HP3.out.code.five hqm).2.2.2.2
            rw [Nat.zero_add] at y1
            have y2 := World.ownsRow.frozenAt HP3.out.own (q * 5 + 4)
            have HM := shade (HP3.out.move HH.out hb1)
            rw [HE.out] at HM
            clear hg3 q0 q1 q2 q3 q4 HP1 HX hx
            go_wp2_with fail
            go_roundw
            case rel => exact ⟨q + 1, by omega, by go_num, HM.out⟩
            case measure => simp [intOf]; omega
        · obtain rfl : q = ctK g i := by omega
          go_wp2_with fail
          go_ret
          exact HP.out.res
end Go.Proofs.YtjeflaodeafhbaaDoor

namespace Go.Proofs.YtjeflaodeafhbaaDoor
open Go.RowKit
set_option linter.unusedSimpArgs false
set_option maxRecDepth 100000 in
set_option maxHeartbeats 16000000 in
theorem keepOnly_any (A Ak : Option Addr) (n c ck : Nat) (F : Nat → Ins) (g : Nat → Bool) (w : World) (hv : vcB n F = true) (h : Code w A n F) (hk : Bols w Ak n g) :
    Calls Tryd.prog 81 #[.slice A n c, .slice Ak n ck] w (CodeRes (ctK g n) (koP F g n) w) := by
  have hn := vcB_40 hv
  have HV := shade hv; have HC := shade h; have HK := shade hk
  clear hv h hk
  obtain ⟨j0, hi, hz0, hz1, hz2⟩ := info_parts info3n
  go_enter Tryd.func81, Tryd.ntmps81
  go_wp2_with (first
    | (at_make; refine wpList_make_full _ rfl _ _ 25 rfl w.heap.size 3 j0 (.int .i64 0) 1 Tryd.underlying25 hi hz0 hz1 .i64 .i64 (n + 1) (n + 1) (n + 1) rfl rfl rfl rfl (by rw [hz2]; omega) (by unfold maxLen; omega) (Nat.le_refl _) ?_)
    | go_in)
  intro w1 hown1 hgr1
  simp only [made_nums] at hown1
  have L0 := shade (show Sts w w1 n (fun _ => 0) from ⟨hown1, hgr1⟩)
  clear hown1 hgr1 hi hz0 hz1 hz2
  go_wp2_with fail
  go_loopw [6, 7] (fun m q wr => ∃ (i : Nat) (f : Nat → Int), i ≤ n ∧ q = .int .i64 (i : Int) ∧ m = .int .i64 ((ctK g i : Nat) : Int) ∧ (∀ j, j < i → f j = ((ctK g j : Nat) : Int)) ∧ Sts w wr n f) (fun _ q _ => n - (intOf q).toNat)
  case atStart => exact ⟨0, _, Nat.zero_le _, rfl, rfl, fun j hj => absurd hj (Nat.not_lt_zero j), L0.out⟩
  case round =>
    clear L0
    obtain ⟨i, f, hi, rfl, rfl, hf, hp⟩ := hrel
    have HP := shade hp; have HF := shade hf
    clear hp hf
    by_cases hin : i < n
    · obtain ⟨kb, ko, rfl, -⟩ := HK.out.resolve_left (by omega)
      have k0 := (HK.out.grown HP.out.low (by intro _ _ _ e; cases e)).cell hin
      have s0 := HP.out.free i
      have s9 := HP.out.cell i (by omega)
      have hcb := ctK_le g i
      have s1 := (HP.out.set i ((ctK g i : Nat) : Int))
      have HS := shade s1
      have k1 := (HK.out.grown s1.low (by intro _ _ _ e; cases e)).cell hin
      clear s1
      have HNF := shade (show ∀ j, j < i + 1 → (if j = i then ((ctK g i : Nat) : Int) else f j) = ((ctK g j : Nat) : Int) from fun j hj => by
        by_cases e : j = i
        · rw [if_pos e, e]
        · rw [if_neg e]
          exact HF.out j (by omega))
      rcases hg : g i with _ | _
      · have HN := shade (ctK_no hg)
        rw [hg] at k0 k1
        clear hg
        go_wp2_with fail
        go_roundw
        case rel => exact ⟨i + 1, _, by omega, by go_num, by rw [HN.out], HNF.out, HS.out⟩
        case measure => simp [intOf]; omega
      · have HN := shade (ctK_yes hg)
        rw [hg] at k0 k1
        clear hg
        go_wp2_with fail
        go_roundw
        case rel => exact ⟨i + 1, _, by omega, by go_num, by rw [HN.out]; go_num, HNF.out, HS.out⟩
        case measure => simp [intOf]; omega
    · obtain rfl : i = n := by omega
      have s0 := HP.out.free i
      have s9 := HP.out.cell i (by omega)
      have L1 := shade (HP.out.set i ((ctK g i : Nat) : Int))
      have HNF := shade (show ∀ j, j < i + 1 → (if j = i then ((ctK g i : Nat) : Int) else f j) = ((ctK g j : Nat) : Int) from fun j hj => by
        by_cases e : j = i
        · rw [if_pos e, e]
        · rw [if_neg e]
          exact HF.out j (by omega))
      clear HP HF
      go_upto_region 10 with (fail)
      obtain ⟨W1, hW1⟩ : ∃ W1, wr.setCell ⟨w.heap.size, i, none⟩ (.int .i64 ((ctK g i : Nat) : Int)) = W1 := ⟨_, rfl⟩
      rw [hW1] at L1 ⊢
      clear hW1 s0 s9
      have hz := L1.out.lt
      have L2 := shade (show Lft w (W1.alloc (.cells #[] 61)) i (fun j => if j = i then ((ctK g i : Nat) : Int) else f j) (.slice (some ⟨W1.heap.size, 0, none⟩) 0 0) (ctK g 0) (slK (fun j => mvK g (F j)) g 0) from
        ⟨L1.out.on (World.grownBy_alloc _ _ none), World.ownsRow_lit (base := w.heap.size + 1) (e := 61) (size := 5) W1 #[] 0 (by omega) (by decide) rfl⟩)
      clear L1 hz
      go_wp2_with fail
      go_loopw [8, 9] (fun v q wr => ∃ (q' : Nat), q' ≤ i ∧ q = .int .i64 (q' : Int) ∧ Lft w wr i (fun j => if j = i then ((ctK g i : Nat) : Int) else f j) v (ctK g q') (slK (fun j => mvK g (F j)) g q')) (fun _ q _ => i - (intOf q).toNat)
      case atStart => exact ⟨0, Nat.zero_le _, rfl, L2.out⟩
      case round =>
        clear L2
        obtain ⟨q, hq, rfl, hp⟩ := hrel
        have HP := shade hp
        have hck := ctK_le g q
        clear hp
        obtain ⟨A0, c0, rfl, -, -, -⟩ := HP.out.val
        by_cases hlt : q < i
        · obtain ⟨kb, ko, rfl, -⟩ := HK.out.resolve_left (by omega)
          have k0 := (HK.out.grown HP.out.sts.low (by intro _ _ _ e; cases e)).cell hlt
          rcases hgi : g q with _ | _
          · have HKK := shade (ctK_no hgi)
            have HS := shade (slK_no (F := fun j => mvK g (F j)) hgi)
            rw [hgi] at k0
            clear hgi
            go_wp2_with fail
            go_roundw
            case rel => exact ⟨q + 1, by omega, by go_num, by rw [HKK.out, HS.out]; exact HP.out⟩
            case measure => simp [intOf]; omega
          · have HKK := shade (ctK_yes hgi)
            have HS := shade (show slK (fun j => mvK g (F j)) g (q + 1) = fun j => if j = ctK g q then mvK g (F q) else slK (fun j => mvK g (F j)) g q j from slK_yes hgi)
            rw [hgi] at k0
            clear hgi
            obtain ⟨b, off, rfl, -⟩ := HC.out.resolve_left (by omega)
            obtain ⟨q0, q1, q2, q3, q4⟩ := (HC.out.on HP.out.sts.low).five hlt
            have hjk := okI_k HV.out hlt
            generalize hcc : F q = cc at *
            obtain ⟨op, d, a, b', kk⟩ := cc
            simp only [] at q0 q1 q2 q3 q4 hjk
            have HJK := shade hjk
            have HX := shade (Holds5.fresh wr 61 #[.string op, .int .i64 d, .int .i64 a, .int .i64 b', .int .i64 kk])
            have HP1 := shade (HP.out.on (World.grownBy_alloc wr (.cells #[.string op, .int .i64 d, .int .i64 a, .int .i64 b', .int .i64 kk] 61) none))
            clear hjk hcc
            go_upto_region 16 with (fail)
            have HOFF := shade (fun j (e : (Value.slice A0 (ctK g q) c0).ownBlock = some j) => (World.ownsRow.lt HP.out.own j e).2)
            have hxz := HX.out.inside
            obtain ⟨wc, hwc⟩ : ∃ wc, wr.alloc (.cells #[.string op, .int .i64 d, .int .i64 a, .int .i64 b', .int .i64 kk] 61) = wc := ⟨_, rfl⟩
            rw [hwc] at HP1 HX hxz ⊢
            have HP2 := HP1; have HX2 := HX
            clear hwc q0 q1 q2 q3 q4 HP1 HX
            have x0 := HX2.out.look 0; have x1 := HX2.out.look 1; have x2 := HX2.out.look 2; have x3 := HX2.out.look 3; have x4 := HX2.out.look 4; have xf := HX2.out.free 4
            simp at x0 x1 x2 x3 x4
            rcases e8 : (op.toList == [106, 109, 112]) with _ | _
            · rcases e7 : (op.toList == [98, 122]) with _ | _
              · have HMV := shade (show mvK g (⟨op, d, a, b', kk⟩ : Ins) = ⟨op, d, a, b', kk⟩ from mvK_no (show jmpB op.toList = false from by unfold jmpB; rw [e7, e8]; rfl))
                obtain ⟨i0, hi0, hz0, hz1, hz2⟩ := info_parts info24
                have hwz := HP2.out.sts.low.size
                have hlt3 := HP2.out.sts.lt
                go_wp2_with (first
              | (at_builtin; refine wpList_append_own _ rfl _ _ 23 rfl (w.heap.size + 1) 61 i0 (.agg #[.string ⟨#[]⟩, .int .i64 0, .int .i64 0, .int .i64 0, .int .i64 0]) 5 48 Tryd.underlying23 hi0 hz0 hz1 hz2 rfl (by decide) _ _ _ rfl (World.ownsRow.alloc HP2.out.own _) ⟨wc.heap.size, 0, none⟩ 1 1 [.string op, .int .i64 d, .int .i64 a, .int .i64 b', .int .i64 kk] rfl rfl (cells_new _ _ _ _ _ _ _) (one_cells _ _ _ _ _) (by unfold maxLen; omega) (by omega) (by simp at hwz ⊢; omega) ?_)
              | go_in)
                intro v' w8 hown8 hgr8 hnil8
                rw [codeL_snoc (ctK g q) (slK (fun j => mvK g (F j)) g q) ⟨op, d, a, b', kk⟩] at hown8
                have H8 := shade (HP2.out.snoc (World.grownBy_alloc _ _ _) hown8 hgr8)
                clear hown8 hgr8 hnil8 hi0 hz0 hz1 hz2 x0 x1 x2 x3 x4
                go_wp2_with fail
                go_roundw
                case rel => exact ⟨q + 1, by omega, by go_num, by rw [HKK.out, HS.out, HMV.out]; exact H8.out⟩
                case measure => simp [intOf]; omega
              · have hjm : jmpB op.toList = true := by unfold jmpB; rw [e7]; rfl
                obtain ⟨k0, k1⟩ := HJK.out hjm
                obtain ⟨kn, rfl⟩ := Int.eq_ofNat_of_zero_le k0
                have HMV := shade (show mvK g (⟨op, d, a, b', (kn : Int)⟩ : Ins) = ⟨op, d, a, b', ((ctK g kn : Nat) : Int)⟩ from by rw [mvK_yes hjm, show (⟨op, d, a, b', (kn : Int)⟩ : Ins).k.toNat = kn from Int.toNat_natCast kn])
                have y0 := HP2.out.sts.cell kn (by omega)
                rw [HNF.out kn (by omega)] at y0
                have h6 := HX2.out.put 4 (.int .i64 ((ctK g kn : Nat) : Int))
                simp at h6
                have HP3 := shade (show Lft w (wc.setCell ⟨wr.heap.size, 4, none⟩ (.int .i64 ((ctK g kn : Nat) : Int))) i _ _ _ _ from ⟨HP2.out.sts.row (grown_set _ _ _) (fun j e => by injection e with e; have := HP.out.sts.lt; omega), World.ownsRow.kept HP2.out.own (grown_set _ _ _) (.inr (fun e => by have := HOFF.out _ e; omega))⟩)
                have HX6 := shade h6
                clear hjm h6
                go_upto_region 18 with (fail)
                obtain ⟨wd, hwd⟩ : ∃ wd, wc.setCell ⟨wr.heap.size, 4, none⟩ (.int .i64 ((ctK g kn : Nat) : Int)) = wd := ⟨_, rfl⟩
                rw [hwd] at HP3 HX6 ⊢
                clear hwd x0 x1 x2 x3 x4 xf y0 HP2 HX2
                have x0 := HX6.out.look 0; have x1 := HX6.out.look 1; have x2 := HX6.out.look 2; have x3 := HX6.out.look 3; have x4 := HX6.out.look 4
                simp at x0 x1 x2 x3 x4
                have hxz := HX6.out.inside
                obtain ⟨i0, hi0, hz0, hz1, hz2⟩ := info_parts info24
                have hwz := HP3.out.sts.low.size
                have hlt3 := HP3.out.sts.lt
                go_wp2_with (first
              | (at_builtin; refine wpList_append_own _ rfl _ _ 23 rfl (w.heap.size + 1) 61 i0 (.agg #[.string ⟨#[]⟩, .int .i64 0, .int .i64 0, .int .i64 0, .int .i64 0]) 5 48 Tryd.underlying23 hi0 hz0 hz1 hz2 rfl (by decide) _ _ _ rfl (World.ownsRow.alloc HP3.out.own _) ⟨wd.heap.size, 0, none⟩ 1 1 [.string op, .int .i64 d, .int .i64 a, .int .i64 b', .int .i64 ((ctK g kn : Nat) : Int)] rfl rfl (cells_new _ _ _ _ _ _ _) (one_cells _ _ _ _ _) (by unfold maxLen; omega) (by omega) (by simp at hwz ⊢; omega) ?_)
              | go_in)
                intro v' w8 hown8 hgr8 hnil8
                rw [codeL_snoc (ctK g q) (slK (fun j => mvK g (F j)) g q) ⟨op, d, a, b', ((ctK g kn : Nat) : Int)⟩] at hown8
                have H8 := shade (HP3.out.snoc (World.grownBy_alloc _ _ _) hown8 hgr8)
                clear hown8 hgr8 hnil8 hi0 hz0 hz1 hz2 x0 x1 x2 x3 x4
                go_wp2_with fail
                go_roundw
                case rel => exact ⟨q + 1, by omega, by go_num, by rw [HKK.out, HS.out, HMV.out]; exact H8.out⟩
                case measure => simp [intOf]; omega
            · have hjm : jmpB op.toList = true := by unfold jmpB; rw [e8, Bool.or_true]
              have e7 : (op.toList == [98, 122]) = false := by rw [beq_iff_eq.1 e8]; rfl
              obtain ⟨k0, k1⟩ := HJK.out hjm
              obtain ⟨kn, rfl⟩ := Int.eq_ofNat_of_zero_le k0
              have HMV := shade (show mvK g (⟨op, d, a, b', (kn : Int)⟩ : Ins) = ⟨op, d, a, b', ((ctK g kn : Nat) : Int)⟩ from by rw [mvK_yes hjm, show (⟨op, d, a, b', (kn : Int)⟩ : Ins).k.toNat = kn from Int.toNat_natCast kn])
              have y0 := HP2.out.sts.cell kn (by omega)
              rw [HNF.out kn (by omega)] at y0
              have h6 := HX2.out.put 4 (.int .i64 ((ctK g kn : Nat) : Int))
              simp at h6
              have HP3 := shade (show Lft w (wc.setCell ⟨wr.heap.size, 4, none⟩ (.int .i64 ((ctK g kn : Nat) : Int))) i _ _ _ _ from ⟨HP2.out.sts.row (grown_set _ _ _) (fun j e => by injection e with e; have := HP.out.sts.lt; omega), World.ownsRow.kept HP2.out.own (grown_set _ _ _) (.inr (fun e => by have := HOFF.out _ e; omega))⟩)
              have HX6 := shade h6
              clear hjm h6
              go_upto_region 18 with (fail)
              obtain ⟨wd, hwd⟩ : ∃ wd, wc.setCell ⟨wr.heap.size, 4, none⟩ (.int .i64 ((ctK g kn : Nat) : Int)) = wd := ⟨_, rfl⟩
              rw [hwd] at HP3 HX6 ⊢
              clear hwd x0 x1 x2 x3 x4 xf y0 HP2 HX2
              have x0 := HX6.out.look 0; have x1 := HX6.out.look 1; have x2 := HX6.out.look 2; have x3 := HX6.out.look 3; have x4 := HX6.out.look 4
              simp at x0 x1 x2 x3 x4
              have hxz := HX6.out.inside
              obtain ⟨i0, hi0, hz0, hz1, hz2⟩ := info_parts info24
              have hwz := HP3.out.sts.low.size
              have hlt3 := HP3.out.sts.lt
              go_wp2_with (first
              | (at_builtin; refine wpList_append_own _ rfl _ _ 23 rfl (w.heap.size + 1) 61 i0 (.agg #[.string ⟨#[]⟩, .int .i64 0, .int .i64 0, .int .i64 0, .int .i64 0]) 5 48 Tryd.underlying23 hi0 hz0 hz1 hz2 rfl (by decide) _ _ _ rfl (World.ownsRow.alloc HP3.out.own _) ⟨wd.heap.size, 0, none⟩ 1 1 [.string op, .int .i64 d, .int .i64 a, .int .i64 b', .int .i64 ((ctK g kn : Nat) : Int)] rfl rfl (cells_new _ _ _ _ _ _ _) (one_cells _ _ _ _ _) (by unfold maxLen; omega) (by omega) (by simp at hwz ⊢; omega) ?_)
              | go_in)
              intro v' w8 hown8 hgr8 hnil8
              rw [codeL_snoc (ctK g q) (slK (fun j => mvK g (F j)) g q) ⟨op, d, a, b', ((ctK g kn : Nat) : Int)⟩] at hown8
              have H8 := shade (HP3.out.snoc (World.grownBy_alloc _ _ _) hown8 hgr8)
              clear hown8 hgr8 hnil8 hi0 hz0 hz1 hz2 x0 x1 x2 x3 x4
              go_wp2_with fail
              go_roundw
              case rel => exact ⟨q + 1, by omega, by go_num, by rw [HKK.out, HS.out, HMV.out]; exact H8.out⟩
              case measure => simp [intOf]; omega
        · obtain rfl : q = i := by omega
          go_wp2_with fail
          go_ret
          have hE : codeL (ctK g q) (koP F g q) = codeL (ctK g q) (slK (fun j => mvK g (F j)) g q) := codeL_congr _ _ _ (fun j _ => (slK_mv F g g q j).symm)
          exact ⟨_, rfl, by rw [hE]; exact World.ownsRow.mono HP.out.own (by omega), HP.out.sts.low⟩
end Go.Proofs.YtjeflaodeafhbaaDoor
