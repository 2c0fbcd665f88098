/- Where blocks begin: plain facts. Where blocks begin, by the program. Ways through a program: plain facts. -/
import Derived.Test.YtbdlbooooiinkaaDoorG97
import Derived.Test.YtbdlbooooiinkaaDoorW110
namespace Go.Proofs.YtbdlbooooiinkaaDoor
open Go.RowKit
/-- Does a block end here? -/
def stopB (l : List UInt8) : Bool := jmpB l || (l == [104, 108, 116])
/-- What is marked behind the first i instructions. -/
def bgB (F : Nat → Ins) : Nat → Nat → Bool
  | 0, j => j == 0
  | i + 1, j => bgB F i j || ((jmpB (F i).op.toList && ((F i).k == (j : Int))) || (stopB (F i).op.toList && (j == i + 1)))
/-- Is it K of one of the first jumps? -/
def jkB (F : Nat → Ins) : Nat → Nat → Bool
  | 0, _ => false
  | k + 1, j => jkB F k j || (jmpB (F k).op.toList && ((F k).k == (j : Int)))
/-- Is it the first one, or behind an end? -/
def hdB (F : Nat → Ins) : Nat → Bool
  | 0 => true
  | i + 1 => stopB (F i).op.toList
theorem bgB_eq (F : Nat → Ins) (j : Nat) : ∀ m, bgB F m j = ((j == 0 || (decide (1 ≤ j ∧ j ≤ m) && hdB F j)) || jkB F m j) := by
  intro m
  induction m with
  | zero =>
    show (j == 0) = _
    have : decide (1 ≤ j ∧ j ≤ 0) = false := decide_eq_false (by omega)
    rw [this]
    simp [jkB]
  | succ m ih =>
    show (bgB F m j || ((jmpB (F m).op.toList && ((F m).k == (j : Int))) || (stopB (F m).op.toList && (j == m + 1)))) = ((j == 0 || (decide (1 ≤ j ∧ j ≤ m + 1) && hdB F j)) || (jkB F m j || (jmpB (F m).op.toList && ((F m).k == (j : Int)))))
    rw [ih]
    generalize (jmpB (F m).op.toList && ((F m).k == (j : Int))) = x
    generalize jkB F m j = y
    by_cases e : j = m + 1
    · subst e
      rw [decide_eq_false (show ¬ (1 ≤ m + 1 ∧ m + 1 ≤ m) by omega), decide_eq_true (show 1 ≤ m + 1 ∧ m + 1 ≤ m + 1 by omega)]
      rw [show (m + 1 == m + 1) = true from beq_self_eq_true _]
      rw [show (m + 1 == 0) = false from beq_eq_false_iff_ne.2 (by omega)]
      show _ = (((false || (true && stopB (F m).op.toList)) || (y || x)))
      generalize stopB (F m).op.toList = z
      cases x <;> cases y <;> cases z <;> rfl
    · rw [show (j == m + 1) = false from beq_eq_false_iff_ne.2 e]
      rw [show decide (1 ≤ j ∧ j ≤ m + 1) = decide (1 ≤ j ∧ j ≤ m) from by
        apply decide_eq_decide.2
        omega]
      generalize stopB (F m).op.toList = z
      generalize (j == 0 || (decide (1 ≤ j ∧ j ≤ m) && hdB F j)) = u
      cases x <;> cases y <;> cases z <;> cases u <;> rfl
/-- Does a block begin here? -/
def ldB (F : Nat → Ins) (n i : Nat) : Bool := hdB F i || jkB F n i
theorem lead_eq (F : Nat → Ins) (n j : Nat) (hj : j ≤ n) : bgB F n j = ldB F n j := by
  rw [bgB_eq]
  unfold ldB
  cases j with
  | zero => rfl
  | succ j =>
    rw [decide_eq_true (show 1 ≤ j + 1 ∧ j + 1 ≤ n by omega), show (j + 1 == 0) = false from beq_eq_false_iff_ne.2 (by omega)]
    generalize hdB F (j + 1) = u
    cases u <;> rfl
/-- The numbers below n that are marked. -/
def pickL (g : Nat → Bool) : Nat → List Int
  | 0 => []
  | i + 1 => pickL g i ++ (if g i = true then [(i : Int)] else [])
theorem pickL_le (g : Nat → Bool) : ∀ i, (pickL g i).length ≤ i := by
  intro i
  induction i with
  | zero => exact Nat.le_refl _
  | succ i ih =>
    show (pickL g i ++ _).length ≤ i + 1
    rw [List.length_append]
    split
    · simp
      omega
    · simp
      omega
theorem pickL_congr (f g : Nat → Bool) : ∀ i, (∀ j, j < i → f j = g j) → pickL f i = pickL g i := by
  intro i
  induction i with
  | zero =>
    intro _
    rfl
  | succ i ih =>
    intro h
    show pickL f i ++ _ = pickL g i ++ _
    rw [ih (fun j hj => h j (by omega)), h i (by omega)]
theorem pickL_yes (g : Nat → Bool) (i : Nat) (h : g i = true) : pickL g (i + 1) = pickL g i ++ [(i : Int)] := by
  show pickL g i ++ _ = _
  rw [if_pos h]
theorem pickL_no (g : Nat → Bool) (i : Nat) (h : g i = false) : pickL g (i + 1) = pickL g i := by
  show pickL g i ++ _ = _
  rw [h, if_neg (by simp), List.append_nil]
/-- Where blocks begin. -/
def ldL (F : Nat → Ins) (n : Nat) : List Int := pickL (ldB F n) n
end Go.Proofs.YtbdlbooooiinkaaDoor

namespace Go.Proofs.YtbdlbooooiinkaaDoor
open Go.RowKit
set_option linter.unusedSimpArgs false
theorem info4b : (Tryd.prog.info? 4).map (fun i => (i.zero, i.size, i.bytes)) = some (some (.bool false), 1, 1) := by kernel_rfl
theorem made_bools (n : Nat) : (madeCells #[Value.bool false] n).toList = bolL n (fun _ => false) := by
  rw [toList_madeCells_one]
  unfold bolL
  rw [List.map_const', List.length_range]
theorem OwnB.set {w : World} {B g n cap : Nat} {f : Nat → Bool} (h : OwnB w B (some ⟨g, 0, none⟩) n cap f) (k : Nat) (x : Bool) :
    OwnB (w.setCell ⟨g, k, none⟩ (.bool x)) B (some ⟨g, 0, none⟩) n cap (fun j => if j = k then x else f j) := by
  have h1 := (World.ownsRow.stored h k (.bool x)).1
  rw [bolL_set n _ (fun j => if j = k then x else f j) k x (by simp) (fun j _ hne => by
    show _ = (if j = k then _ else _)
    rw [if_neg hne])] at h1
  exact h1
theorem OwnB.on {w w' : World} {B g n cap : Nat} {f : Nat → Bool} (h : OwnB w B (some ⟨g, 0, none⟩) n cap f) (hg : w.grownBy w' none) : OwnB w' B (some ⟨g, 0, none⟩) n cap f := World.ownsRow.kept h hg (.inr (by
  show some g ≠ none
  simp))
theorem okI_k {n : Nat} {F : Nat → Ins} {i : Nat} (hv : vcB n F = true) (hi : i < n) (hj : jmpB (F i).op.toList = true) : 0 ≤ (F i).k ∧ (F i).k ≤ n := by
  have h1 := allI_iff.1 (by simp only [vcB, Bool.and_eq_true] at hv; exact hv.1) i hi
  unfold okI at h1
  rw [hj] at h1
  simp only [Bool.and_eq_true, Bool.not_eq_true', Bool.true_and, decide_eq_false_iff_not] at h1
  obtain ⟨h2, h3⟩ := h1
  have h4 := vB_true.1 h2
  have h78 : wordN (F i).op.toList = 7 ∨ wordN (F i).op.toList = 8 := by
    unfold jmpB at hj
    rw [← word7, ← word8] at hj
    simpa using hj
  unfold VI at h4
  omega
/-- What is marked so far. -/
structure Ldr (w wr : World) (n : Nat) (f : Nat → Bool) : Prop where
  own : OwnB wr w.heap.size (some ⟨w.heap.size, 0, none⟩) (n + 1) (n + 1) f
  low : w.grownBy wr none
theorem Ldr.on {w wr w2 : World} {n : Nat} {f : Nat → Bool} (h : Ldr w wr n f) (hg : wr.grownBy w2 none) : Ldr w w2 n f := ⟨h.own.on hg, grown_same h.low hg⟩
theorem Ldr.mark {w wr : World} {n : Nat} {f : Nat → Bool} (h : Ldr w wr n f) (k : Nat) : Ldr w (wr.setCell ⟨w.heap.size, k, none⟩ (.bool true)) n (fun j => if j = k then true else f j) :=
  ⟨h.own.set k true, grown_then h.low (grown_set w.heap.size k _) (Nat.le_refl _)⟩
theorem Ldr.congr {w wr : World} {n : Nat} {f g : Nat → Bool} (h : Ldr w wr n f) (hf : ∀ j, f j = g j) : Ldr w wr n g := ⟨h.own.congr (fun j _ => hf j), h.low⟩
theorem Ldr.cell {w wr : World} {n : Nat} {f : Nat → Bool} (h : Ldr w wr n f) (k : Nat) (hk : k ≤ n) : wr.cell? ⟨w.heap.size, k, none⟩ = some (.bool (f k)) := by
  have := h.own.bols.cell (j := k) (by omega)
  rwa [Nat.zero_add] at this
theorem Ldr.free {w wr : World} {n : Nat} {f : Nat → Bool} (h : Ldr w wr n f) (k : Nat) : wr.frozen? ⟨w.heap.size, k, none⟩ = false := by
  exact World.ownsRow.frozenAt h.own k
theorem Ldr.row {w wr w2 : World} {n : Nat} {f : Nat → Bool} {row : Option Nat} (h : Ldr w wr n f) (g : wr.grownBy w2 row) (hr : ∀ j, row = some j → w.heap.size < j) : Ldr w w2 n f := by
  refine ⟨World.ownsRow.kept h.own g (.inr (fun e => ?_)), ⟨g.os.trans h.low.os, g.tape.trans h.low.tape, g.output.trans h.low.output, Nat.le_trans h.low.size g.size, fun i hi hn => (g.block i (Nat.lt_of_lt_of_le hi h.low.size) (fun e => ?_)).trans (h.low.block i hi hn)⟩⟩
  · have e' : some w.heap.size = row := e
    have := hr _ e'.symm
    omega
  · have := hr i e.symm
    omega
theorem Ldr.lt {w wr : World} {n : Nat} {f : Nat → Bool} (h : Ldr w wr n f) : w.heap.size < wr.heap.size := h.own.lt.2
set_option maxRecDepth 100000 in
set_option maxHeartbeats 16000000 in
theorem pLeaders_at (b off n c : Nat) (F : Nat → Ins) (w : World) (hg : WT w) (hv : vcB n F = true) (hn0 : 0 < n) (h : Code w (some ⟨b, off, none⟩) n F) :
    Calls Tryd.prog 53 #[.slice (some ⟨b, off, none⟩) n c] w (IntRes (ldL F n) w) := by
  have hn := vcB_40 hv
  have HV := shade hv
  have H := shade h
  have HG := shade hg
  clear h hg hv
  obtain ⟨i0, hi, hz0, hz1, hz2⟩ := info_parts info4b
  go_enter Tryd.func53, Tryd.ntmps53
  go_wp2_with (first
    | (at_make; refine wpList_make_full _ rfl _ _ 101 rfl w.heap.size 4 i0 (.bool false) 1 Tryd.underlying101 hi hz0 hz1 .i64 .i64 (n + 1) (n + 1) (n + 1) rfl rfl rfl rfl (by rw [hz2]; omega) (by unfold maxLen; omega) (Nat.le_refl _) ?_)
    | go_in)
  intro w1 hown1 hgr1
  simp only [made_bools] at hown1
  have L0 := shade (show Ldr w w1 n (fun _ => false) from ⟨hown1, hgr1⟩)
  clear hown1 hgr1
  have s0 := L0.out.cell 0 (by omega)
  have s1 := L0.out.free 0
  go_upto_region 3 with (fail)
  have L1 := shade ((L0.out.mark 0).congr (g := bgB F 0) (fun j => by
    show (if j = 0 then true else false) = (j == 0)
    by_cases e : j = 0
    · rw [if_pos e, e]; rfl
    · rw [if_neg e]; exact (beq_eq_false_iff_ne.2 e).symm))
  obtain ⟨W1, hW1⟩ : ∃ W1, w1.setCell ⟨w.heap.size, 0, none⟩ (.bool true) = W1 := ⟨_, rfl⟩
  rw [hW1] at L1 ⊢
  clear hW1 s0 s1 L0
  go_wp2_with fail
  go_loopw [16] (fun q wr => ∃ i : Nat, i ≤ n ∧ q = .int .i64 i ∧ Ldr w wr n (bgB F i)) (fun q _ => n - (intOf q).toNat)
  case atStart => exact ⟨0, Nat.zero_le _, rfl, L1.out⟩
  case round =>
    obtain ⟨i, hi, rfl, hL⟩ := hrel
    have HL := shade hL
    clear hL L1
    by_cases hin : i < n
    · obtain ⟨q0, q1, q2, q3, q4⟩ := (H.out.on HL.out.low).five hin
      have hK := shade (okI_k HV.out hin)
      have hB := shade (fun j => show bgB F (i + 1) j = (bgB F i j || ((jmpB (F i).op.toList && ((F i).k == (j : Int))) || (stopB (F i).op.toList && (j == i + 1)))) from rfl)
      have H9 := shade (word9 (F i).op.toList)
      generalize F i = cc at *
      obtain ⟨op, d, a, b', kk⟩ := cc
      simp only [] at q0 q1 q2 q3 q4
      replace hK := hK.out
      replace hB := hB.out
      simp only [] at hK hB
      have H9 := shade (show (wordN op.toList == 9) = (op.toList == [104, 108, 116]) from H9.out)
      unfold stopB at hB
      rcases hj : jmpB op.toList with _ | _
      · rw [hj] at hB
        clear hK
        have HJ := shade hj
        clear hj
        rcases h9 : (op.toList == [104, 108, 116]) with _ | _
        · rw [h9] at H9 hB
          have HN := shade (fun j => show bgB F i j = bgB F (i + 1) j by rw [hB]; simp)
          clear hB h9
          have hga := World.grownBy_alloc wr (.cells #[.string op, .int .i64 d, .int .i64 a, .int .i64 b', .int .i64 kk] 86) none
          have hP0 := Holds5.fresh wr 86 #[.string op, .int .i64 d, .int .i64 a, .int .i64 b', .int .i64 kk]
          have L1 := shade (HL.out.on hga)
          have P1 := shade hP0
          have NE := shade (show wr.heap.size ≠ w.heap.size by have := HL.out.lt; omega)
          clear hga hP0 HL
          go_wp2_with fail
          refine (isJump_any _ _ _ _ _ _ (HG.out.below (below_of_grown L1.out.low) (wt_lt HG.out))).mono ?_
          rw [HJ.out]
          rintro e w2 ⟨rfl, hgr⟩
          have L2 := shade (L1.out.on hgr)
          have P2 := shade (P1.out.grown hgr (by intro e; cases e))
          clear hgr L1 P1
          have p0 := P2.out.look 0; have p1 := P2.out.look 1; have p2 := P2.out.look 2; have p3 := P2.out.look 3; have p4 := P2.out.look 4
          simp at p0 p1 p2 p3 p4
          go_wp2_with fail
          refine (isJump_any _ _ _ _ _ _ (HG.out.below (below_of_grown L2.out.low) (wt_lt HG.out))).mono ?_
          rw [HJ.out]
          rintro e w4 ⟨rfl, hgr⟩
          have L3 := shade (L2.out.on hgr)
          have P3 := shade (P2.out.grown hgr (by intro e; cases e))
          clear hgr L2 P2
          clear p0 p1 p2 p3 p4
          have p0 := P3.out.look 0; have p1 := P3.out.look 1; have p2 := P3.out.look 2; have p3 := P3.out.look 3; have p4 := P3.out.look 4
          simp at p0 p1 p2 p3 p4
          have HWR := shade (wordOf_any op w4 (HG.out.below (below_of_grown L3.out.low) (wt_lt HG.out)))
          have h9x := H9.out
          generalize wordN op.toList = x at *
          go_wp2_with fail
          refine HWR.out.mono ?_
          rintro e w5 ⟨rfl, rfl⟩
          go_wp2_with fail
          go_roundw
          case rel => exact ⟨i + 1, by omega, by go_num, L3.out.congr HN.out⟩
          case measure => simp [intOf]; omega
        · rw [h9] at H9 hB
          have HN := shade (fun j => show (if j = i + 1 then true else bgB F i j) = bgB F (i + 1) j by
            rw [hB]
            by_cases e : j = i + 1
            · subst e; simp
            · rw [if_neg e, beq_eq_false_iff_ne.2 e]; simp)
          clear hB h9
          have hga := World.grownBy_alloc wr (.cells #[.string op, .int .i64 d, .int .i64 a, .int .i64 b', .int .i64 kk] 86) none
          have hP0 := Holds5.fresh wr 86 #[.string op, .int .i64 d, .int .i64 a, .int .i64 b', .int .i64 kk]
          have L1 := shade (HL.out.on hga)
          have P1 := shade hP0
          have NE := shade (show wr.heap.size ≠ w.heap.size by have := HL.out.lt; omega)
          clear hga hP0 HL
          go_wp2_with fail
          refine (isJump_any _ _ _ _ _ _ (HG.out.below (below_of_grown L1.out.low) (wt_lt HG.out))).mono ?_
          rw [HJ.out]
          rintro e w2 ⟨rfl, hgr⟩
          have L2 := shade (L1.out.on hgr)
          have P2 := shade (P1.out.grown hgr (by intro e; cases e))
          clear hgr L1 P1
          have p0 := P2.out.look 0; have p1 := P2.out.look 1; have p2 := P2.out.look 2; have p3 := P2.out.look 3; have p4 := P2.out.look 4
          simp at p0 p1 p2 p3 p4
          go_wp2_with fail
          refine (isJump_any _ _ _ _ _ _ (HG.out.below (below_of_grown L2.out.low) (wt_lt HG.out))).mono ?_
          rw [HJ.out]
          rintro e w4 ⟨rfl, hgr⟩
          have L3 := shade (L2.out.on hgr)
          have P3 := shade (P2.out.grown hgr (by intro e; cases e))
          clear hgr L2 P2
          clear p0 p1 p2 p3 p4
          have p0 := P3.out.look 0; have p1 := P3.out.look 1; have p2 := P3.out.look 2; have p3 := P3.out.look 3; have p4 := P3.out.look 4
          simp at p0 p1 p2 p3 p4
          have HWR := shade (wordOf_any op w4 (HG.out.below (below_of_grown L3.out.low) (wt_lt HG.out)))
          have h9x := H9.out
          generalize wordN op.toList = x at *
          go_wp2_with fail
          refine HWR.out.mono ?_
          rintro e w5 ⟨rfl, rfl⟩
          have s0 := L3.out.cell (i + 1) (by omega)
          have s1 := L3.out.free (i + 1)
          go_wp2_with fail
          go_roundw
          case rel => exact ⟨i + 1, by omega, by go_num, (L3.out.mark (i + 1)).congr HN.out⟩
          case measure => simp [intOf]; omega
      · obtain ⟨hk0, hk1⟩ := hK hj
        rw [hj] at hB
        obtain ⟨kn, rfl⟩ := Int.eq_ofNat_of_zero_le hk0
        have hkn2 : kn ≤ n := by omega
        have HN := shade (fun j => show (if j = i + 1 then true else if j = kn then true else bgB F i j) = bgB F (i + 1) j by
          rw [hB]
          by_cases e : j = i + 1
          · subst e; simp
          · rw [if_neg e, beq_eq_false_iff_ne.2 e]
            by_cases e2 : j = kn
            · subst e2; simp
            · rw [if_neg e2]
              have : ((kn : Int) == (j : Int)) = false := beq_eq_false_iff_ne.2 (by omega)
              rw [this]; simp)
        have HJ := shade hj
        clear hB hj hk0 hk1 H9
        have hga := World.grownBy_alloc wr (.cells #[.string op, .int .i64 d, .int .i64 a, .int .i64 b', .int .i64 (kn : Int)] 86) none
        have hP0 := Holds5.fresh wr 86 #[.string op, .int .i64 d, .int .i64 a, .int .i64 b', .int .i64 (kn : Int)]
        have L1 := shade (HL.out.on hga)
        have P1 := shade hP0
        have NE := shade (show wr.heap.size ≠ w.heap.size by have := HL.out.lt; omega)
        clear hga hP0 HL
        go_wp2_with fail
        refine (isJump_any _ _ _ _ _ _ (HG.out.below (below_of_grown L1.out.low) (wt_lt HG.out))).mono ?_
        rw [HJ.out]
        rintro e w2 ⟨rfl, hgr⟩
        have L2 := shade (L1.out.on hgr)
        have P2 := shade (P1.out.grown hgr (by intro e; cases e))
        clear hgr L1 P1
        have p0 := P2.out.look 0; have p1 := P2.out.look 1; have p2 := P2.out.look 2; have p3 := P2.out.look 3; have p4 := P2.out.look 4
        simp at p0 p1 p2 p3 p4
        have s0 := L2.out.cell kn hkn2
        have s1 := L2.out.free kn
        go_upto_region 8 with (fail)
        have L3 := shade (L2.out.mark kn)
        have P3 := shade (P2.out.other (p := ⟨w.heap.size, kn, none⟩) NE.out (.bool true))
        obtain ⟨W3, hW3⟩ : ∃ W3, w2.setCell ⟨w.heap.size, kn, none⟩ (.bool true) = W3 := ⟨_, rfl⟩
        rw [hW3] at L3 P3 ⊢
        clear hW3 p0 p1 p2 p3 p4 s0 s1 L2 P2
        have p0 := P3.out.look 0; have p1 := P3.out.look 1; have p2 := P3.out.look 2; have p3 := P3.out.look 3; have p4 := P3.out.look 4
        simp at p0 p1 p2 p3 p4
        go_wp2_with fail
        refine (isJump_any _ _ _ _ _ _ (HG.out.below (below_of_grown L3.out.low) (wt_lt HG.out))).mono ?_
        rw [HJ.out]
        rintro e w4 ⟨rfl, hgr⟩
        have L4 := shade (L3.out.on hgr)
        have P4 := shade (P3.out.grown hgr (by intro e; cases e))
        clear hgr L3 P3
        clear p0 p1 p2 p3 p4
        have s0 := L4.out.cell (i + 1) (by omega)
        have s1 := L4.out.free (i + 1)
        have p0 := P4.out.look 0; have p1 := P4.out.look 1; have p2 := P4.out.look 2; have p3 := P4.out.look 3; have p4 := P4.out.look 4
        simp at p0 p1 p2 p3 p4
        go_wp2_with fail
        go_roundw
        case rel => exact ⟨i + 1, by omega, by go_num, (L4.out.mark (i + 1)).congr HN.out⟩
        case measure => simp [intOf]; omega
    · have hin2 : i = n := by omega
      subst hin2
      have hM : Ldr w wr i (bgB F i) := HL.out
      have HM := shade hM
      have HZM := shade hM.lt
      clear hM HL hi hz0 hz1 hz2
      obtain ⟨i0, hi, hz0, hz1, hz2⟩ := info_parts info3
      obtain ⟨wo, rfl⟩ : ∃ wo : World, wo = wr := ⟨_, rfl⟩
      go_wp2_with fail
      go_loopw [6, 42] (fun v q w2 => ∃ k : Nat, k ≤ i ∧ q = .int .i64 k ∧ Ldr w w2 i (bgB F i) ∧ wo.heap.size ≤ w2.heap.size ∧ w2.ownsRow wo.heap.size 3 1 v (pickL (bgB F i) k).length (valI (pickL (bgB F i) k))) (fun _ q _ => i - (intOf q).toNat)
      case atStart => exact ⟨0, Nat.zero_le _, rfl, HM.out, Nat.le_refl _, World.ownsRow_nil _ _ _ _⟩
      case round =>
        obtain ⟨k, hk, rfl, hL, hsz, hown⟩ := hrel
        obtain ⟨A4, c4, rfl, -⟩ := ownsRow_slice hown
        have HL := shade hL
        have HO := shade hown
        have HSZ := shade hsz
        clear hL hown hsz HM
        by_cases hki : k < i
        · have s0 := HL.out.cell k (by omega)
          have hl := pickL_le (bgB F i) k
          rcases hb : bgB F i k with _ | _
          · have HB := shade hb
            rw [hb] at s0
            clear hb
            go_wp2
            go_roundw
            case rel => exact ⟨k + 1, by omega, by go_num, HL.out, HSZ.out, by rw [pickL_no _ _ HB.out]; exact HO.out⟩
            case measure => simp [intOf]; omega
          · have HB := shade hb
            rw [hb] at s0
            clear hb
            have hz := HL.out.lt
            have hk40 : k < 40 := by omega
            have HSZ2 := HSZ.out
            go_wp2_with (first
              | (at_builtin; refine wpList_append_own _ rfl _ _ 24 rfl wo.heap.size 3 i0 (.int .i64 0) 1 8 Tryd.underlying24 hi hz0 hz1 hz2 rfl (by decide) _ _ _ rfl (World.ownsRow.alloc HO.out _) ⟨wr.heap.size, 0, none⟩ 1 1 [.int .i64 (k : Int)] rfl rfl (int_new _ _ _) (int_one _) (by unfold maxLen; omega) (by omega) (by simp; omega) ?_)
              | go_in)
            intro v' w8 hown8 hgr8 hnil8
            rw [valI_snoc, ← pickL_yes _ _ HB.out] at hown8
            have hlen8 : (pickL (bgB F i) k).length + 1 = (pickL (bgB F i) (k + 1)).length := by rw [pickL_yes _ _ HB.out, List.length_append]; rfl
            rw [hlen8] at hown8
            have HO8 := shade hown8
            have HZ8 := shade hgr8
            clear hown8 hgr8 hnil8 hlen8
            go_wp2
            go_roundw
            case rel =>
              refine ⟨k + 1, by omega, by go_num, ?_, ?_, HO8.out⟩
              · exact (HL.out.on (World.grownBy_alloc wr (.cells #[.int .i64 k] 3) none)).row HZ8.out (fun j e => by
                  have := (World.ownsRow.lt HO.out j e).1
                  have := HZM.out
                  omega)
              · have := HZ8.out.size
                simp at this
                omega
            case measure => simp [intOf]; omega
        · have hki2 : k = i := by omega
          subst hki2
          go_wp2
          go_ret
          refine ⟨_, rfl, ?_, HL.out.low⟩
          have e : ldL F k = pickL (bgB F k) k := (pickL_congr _ _ k (fun j hj => lead_eq F k j (by omega))).symm
          rw [e]
          exact World.ownsRow.mono HO.out (Nat.le_of_lt HZM.out)
end Go.Proofs.YtbdlbooooiinkaaDoor

namespace Go.Proofs.YtbdlbooooiinkaaDoor
open Go.RowKit
/-- y is on a way from a; no way goes on behind one that is cut. -/
def Way (F : Nat → Ins) (n : Nat) (cut : Nat → Bool) (a y : Nat) : Prop :=
  ∀ X : Nat → Prop, X a → (∀ x z : Nat, X x → x < n → cut x = false → (z : Int) ∈ nxI (F x) x → X z) → X y
theorem Way.start (F : Nat → Ins) (n : Nat) (cut : Nat → Bool) (a : Nat) : Way F n cut a a := fun _ h _ => h
theorem Way.step {F : Nat → Ins} {n : Nat} {cut : Nat → Bool} {a x y : Nat} (h : Way F n cut a x) (hx : x < n) (hc : cut x = false) (hy : (y : Int) ∈ nxI (F x) x) : Way F n cut a y :=
  fun X h0 hs => hs x y (h X h0 hs) hx hc hy
/-- What comes next is in the program or its end. -/
theorem nx_in {F : Nat → Ins} {n x : Nat} {z : Int} (hv : vcB n F = true) (hx : x < n) (hz : z ∈ nxI (F x) x) : ∃ y : Nat, z = y ∧ y ≤ n := by
  have hk := okI_k hv hx
  have one : ∀ z : Int, z = (x : Int) + 1 → ∃ y : Nat, z = y ∧ y ≤ n := fun z e => ⟨x + 1, by omega, by omega⟩
  have two : jmpB (F x).op.toList = true → ∀ z : Int, z = (F x).k → ∃ y : Nat, z = y ∧ y ≤ n := fun hj z e => by
    obtain ⟨h0, h1⟩ := hk hj
    exact ⟨z.toNat, by omega, by omega⟩
  unfold nxI at hz
  split at hz
  · cases hz
  · split at hz
    · rename_i h8
      exact two (by unfold jmpB; rw [h8]; simp) z (by simpa using hz)
    · split at hz
      · rename_i h7
        split at hz
        · exact one z (by simpa using hz)
        · rcases (show z = (x : Int) + 1 ∨ z = (F x).k by simpa using hz) with e | e
          · exact one z e
          · exact two (by unfold jmpB; rw [h7]; rfl) z e
      · exact one z (by simpa using hz)
/-- How many of the first k are not met. -/
def unm (M : Nat → Bool) : Nat → Nat
  | 0 => 0
  | k + 1 => unm M k + (if M k = true then 0 else 1)
theorem unm_congr (M M' : Nat → Bool) : ∀ k, (∀ x, x < k → M x = M' x) → unm M k = unm M' k := by
  intro k
  induction k with
  | zero => intro _; rfl
  | succ k ih =>
    intro h
    show unm M k + _ = unm M' k + _
    rw [ih (fun x hx => h x (by omega)), h k (by omega)]
theorem unm_set (M : Nat → Bool) (y : Nat) (hy : M y = false) : ∀ k, y < k → unm (fun x => if x = y then true else M x) k + 1 = unm M k := by
  intro k
  induction k with
  | zero => intro h; omega
  | succ k ih =>
    intro h
    show unm _ k + (if (if k = y then true else M k) = true then 0 else 1) + 1 = unm M k + (if M k = true then 0 else 1)
    by_cases e : k = y
    · subst e
      rw [if_pos rfl, hy, if_pos rfl, if_neg (by simp), unm_congr _ M k (fun x hx => by rw [if_neg (by omega)])]
    · rw [if_neg e]
      have := ih (by omega)
      omega
theorem unm_one (a : Nat) : ∀ k, a < k → unm (fun x => x == a) k + 1 = k := by
  intro k
  induction k with
  | zero => intro h; omega
  | succ k ih =>
    intro h
    show unm _ k + (if (k == a) = true then 0 else 1) + 1 = k + 1
    by_cases e : k = a
    · subst e
      rw [if_pos (by simp)]
      have : unm (fun x => x == k) k = k := by
        have hh : ∀ j, j ≤ k → unm (fun x => x == k) j = j := by
          intro j
          induction j with
          | zero => intro _; rfl
          | succ j ih2 =>
            intro hj
            show unm _ j + (if (j == k) = true then 0 else 1) = j + 1
            rw [ih2 (by omega), if_neg (by simp; omega)]
        exact hh k (Nat.le_refl _)
      omega
    · rw [if_neg (by simpa using e)]
      have := ih (by omega)
      omega
/-- A search under way: pre have come, st are ahead, M are met; what comes next behind those of cl is met. -/
structure Dfs (F : Nat → Ins) (n : Nat) (cut : Nat → Bool) (a : Nat) (cl pre st : List Nat) (M : Nat → Bool) : Prop where
  beg : M a = true
  mem : ∀ x, M x = true ↔ (x ∈ pre ∨ x ∈ st)
  cnt : pre.length + st.length + unm M (n + 1) = n + 1
  way : ∀ x, M x = true → x ≤ n ∧ Way F n cut a x
  closed : ∀ x, x ∈ cl → x < n → cut x = false → ∀ y : Nat, (y : Int) ∈ nxI (F x) x → M y = true
section
variable {F : Nat → Ins} {n : Nat} {cut : Nat → Bool} {a : Nat} {cl pre st : List Nat} {M : Nat → Bool}
theorem Dfs.first (ha : a ≤ n) : Dfs F n cut a [] [] [a] (fun x => x == a) := by
  refine ⟨by simp, fun x => by simp, ?_, fun x hx => ?_, fun x hx => by cases hx⟩
  · have := unm_one a (n + 1) (by omega)
    simp
    omega
  · obtain rfl : x = a := by simpa using hx
    exact ⟨ha, Way.start _ _ _ _⟩
theorem Dfs.pop {x : Nat} (h : Dfs F n cut a cl pre (st ++ [x]) M) : Dfs F n cut a cl (pre ++ [x]) st M := by
  refine ⟨h.beg, fun z => ?_, ?_, h.way, h.closed⟩
  · rw [h.mem z]
    simp only [List.mem_append, List.mem_singleton]
    constructor
    · rintro (h | h | h)
      · exact .inl (.inl h)
      · exact .inr h
      · exact .inl (.inr h)
    · rintro ((h | h) | h)
      · exact .inl h
      · exact .inr (.inr h)
      · exact .inr (.inl h)
  · have := h.cnt
    simp only [List.length_append, List.length_singleton] at this ⊢
    omega
theorem Dfs.push {y : Nat} (h : Dfs F n cut a cl pre st M) (hy : M y = false) (hn : y ≤ n) (hw : Way F n cut a y) : Dfs F n cut a cl pre (st ++ [y]) (fun x => if x = y then true else M x) := by
  have keep : ∀ x, M x = true → (if x = y then true else M x) = true := fun x hx => by
    by_cases e : x = y
    · rw [if_pos e]
    · rw [if_neg e]; exact hx
  refine ⟨keep _ h.beg, fun z => ?_, ?_, fun z hz => ?_, fun x hx hxn hc z hz => keep _ (h.closed x hx hxn hc z hz)⟩
  · show (if z = y then true else M z) = true ↔ _
    simp only [List.mem_append, List.mem_singleton]
    by_cases e : z = y
    · subst e
      rw [if_pos rfl]
      simp
    · rw [if_neg e, h.mem z]
      simp [e]
  · have h1 := h.cnt
    have h2 := unm_set M y hy (n + 1) (by omega)
    simp only [List.length_append, List.length_singleton]
    omega
  · by_cases e : z = y
    · subst e
      exact ⟨hn, hw⟩
    · have hz' : (if z = y then true else M z) = true := hz
      rw [if_neg e] at hz'
      exact h.way z hz'
theorem Dfs.close {x : Nat} (h : Dfs F n cut a cl pre st M) (hx : x < n → cut x = false → ∀ y : Nat, (y : Int) ∈ nxI (F x) x → M y = true) : Dfs F n cut a (cl ++ [x]) pre st M := by
  refine ⟨h.beg, h.mem, h.cnt, h.way, fun z hz hzn hc y hy => ?_⟩
  rcases List.mem_append.1 hz with hz | hz
  · exact h.closed z hz hzn hc y hy
  · obtain rfl : z = x := by simpa using hz
    exact hx hzn hc y hy
theorem Dfs.congr {M' : Nat → Bool} (h : Dfs F n cut a cl pre st M) (hM : ∀ x, M x = M' x) : Dfs F n cut a cl pre st M' := by
  obtain rfl : M = M' := funext hM
  exact h
/-- At the end just those on a way have come. -/
theorem Dfs.done (h : Dfs F n cut a pre pre [] M) (y : Nat) : y ∈ pre ↔ Way F n cut a y := by
  have e : ∀ x, M x = true ↔ x ∈ pre := fun x => by rw [h.mem x]; simp
  constructor
  · intro hy
    exact (h.way y ((e y).2 hy)).2
  · intro hy
    exact (e y).1 (hy (fun z => M z = true) h.beg (fun x z hx hxn hc hz => h.closed x ((e x).1 hx) hxn hc z hz))
theorem Dfs.few (h : Dfs F n cut a cl pre st M) : pre.length + st.length ≤ n + 1 := by
  have := h.cnt
  omega
end
end Go.Proofs.YtbdlbooooiinkaaDoor
