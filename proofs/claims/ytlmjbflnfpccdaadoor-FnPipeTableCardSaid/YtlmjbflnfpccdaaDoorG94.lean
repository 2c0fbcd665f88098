/- TraceOf, over whatever runOf leaves. The model's validRun and TraceOf. runOf, put together; TraceOf and its model answer alike. -/
import Derived.Test.YtlmjbflnfpccdaaDoorW97d
import Derived.Test.YtlmjbflnfpccdaaDoorG92
import Derived.Deep.Onto
import Derived.Test.YtlmjbflnfpccdaaDoorG77
import Derived.Deep.CutRange
import Derived.Maps.AppendAt
namespace Go.Proofs.YtlmjbflnfpccdaaDoor
open Go.RowKit
set_option linter.unusedSimpArgs false
/-- What runOf leaves: k states; the code is the one that was given, if there are any. -/
def RunRes (A : Option Addr) (len k : Nat) (g : Nat → Sta) (w : World) (e : Ending) (w' : World) : Prop :=
  ∃ (A0 : Option Addr) (l0 c0 : Nat) (A3 : Option Addr) (c3 : Nat) (t : Sta) (d b : Bool), e = .returned (.tuple #[.agg #[.slice A0 l0 c0, .slice A3 k c3, .int .i64 t.at', .int .i64 (t.r 0), .int .i64 (t.r 1), .int .i64 (t.r 2), .int .i64 (t.r 3), .int .i64 (t.m 0), .int .i64 (t.m 1), .int .i64 (t.m 2), .int .i64 (t.m 3), .int .i64 (t.m 4), .int .i64 (t.m 5), .int .i64 (t.m 6), .int .i64 (t.m 7), .bool d], .bool b]) ∧ (k = 0 ∨ (A0 = A ∧ l0 = len)) ∧ Stas w' A3 k g ∧ (∀ b off, A3 = some ⟨b, off, none⟩ → w.heap.size ≤ b ∧ b < w'.heap.size) ∧ w.grownBy w' none
theorem Stas.row {w : World} {b off k : Nat} {g : Nat → Sta} (h : Stas w (some ⟨b, off, none⟩) k g) {i : Nat} (hi : i < k) : w.cell? ⟨b, off + i * 13, none⟩ = some (.int .i64 (g i).at') ∧ w.cell? ⟨b, off + i * 13 + 1, none⟩ = some (.int .i64 ((g i).r 0)) ∧ w.cell? ⟨b, off + i * 13 + 2, none⟩ = some (.int .i64 ((g i).r 1)) ∧ w.cell? ⟨b, off + i * 13 + 3, none⟩ = some (.int .i64 ((g i).r 2)) ∧ w.cell? ⟨b, off + i * 13 + 4, none⟩ = some (.int .i64 ((g i).r 3)) ∧ w.cell? ⟨b, off + i * 13 + 5, none⟩ = some (.int .i64 ((g i).m 0)) ∧ w.cell? ⟨b, off + i * 13 + 6, none⟩ = some (.int .i64 ((g i).m 1)) ∧ w.cell? ⟨b, off + i * 13 + 7, none⟩ = some (.int .i64 ((g i).m 2)) ∧ w.cell? ⟨b, off + i * 13 + 8, none⟩ = some (.int .i64 ((g i).m 3)) ∧ w.cell? ⟨b, off + i * 13 + 9, none⟩ = some (.int .i64 ((g i).m 4)) ∧ w.cell? ⟨b, off + i * 13 + 10, none⟩ = some (.int .i64 ((g i).m 5)) ∧ w.cell? ⟨b, off + i * 13 + 11, none⟩ = some (.int .i64 ((g i).m 6)) ∧ w.cell? ⟨b, off + i * 13 + 12, none⟩ = some (.int .i64 ((g i).m 7)) :=
  ⟨h.cell hi (i := 0) (by omega), h.cell hi (i := 1) (by omega), h.cell hi (i := 2) (by omega), h.cell hi (i := 3) (by omega), h.cell hi (i := 4) (by omega), h.cell hi (i := 5) (by omega), h.cell hi (i := 6) (by omega), h.cell hi (i := 7) (by omega), h.cell hi (i := 8) (by omega), h.cell hi (i := 9) (by omega), h.cell hi (i := 10) (by omega), h.cell hi (i := 11) (by omega), h.cell hi (i := 12) (by omega)⟩
structure TrO (w wr : World) (B : Nat) (A3 : Option Addr) (k : Nat) (g : Nat → Sta) (i : Nat) (v : Value) (f : Nat → Int) : Prop where
  own : wr.ownsRow B 3 1 v i (numL i f)
  sta : Stas wr A3 k g
  low : w.grownBy wr none
  big : B ≤ wr.heap.size
end Go.Proofs.YtlmjbflnfpccdaaDoor

namespace Go.Proofs.YtlmjbflnfpccdaaDoor
open Go.RowKit
set_option linter.unusedSimpArgs false
set_option maxHeartbeats 4000000 in
theorem validRun_any (A : Option Addr) (len cap : Nat) (F : Nat → Ins) (at' : Int) (A1 : Option Addr) (n1 c1 : Nat) (A2 : Option Addr) (n2 c2 : Nat) (f1 f2 : Nat → Int) (fuel : Int) (w : World) (hl : len ≤ 9223372036854775807) (hC : Code w A len F) (h1 : Nums w A1 n1 f1) (h2 : Nums w A2 n2 f2) (hn1 : n1 ≤ 9223372036854775807) (hn2 : n2 ≤ 9223372036854775807) :
    Calls Tryd.prog 69 #[.slice A len cap, MV at' A1 n1 c1 A2 n2 c2, .int .i64 fuel] w fun e w' => e = .returned (.bool (runB len F at' n1 n2 f1 f2 fuel)) ∧ w.grownBy w' none := by
  have hga := World.grownBy_alloc w (.cells #[.int .i64 at', .slice A1 n1 c1, .slice A2 n2 c2] 78) none
  have HVC := shade (validCode_any A len cap F (w.alloc (.cells #[.int .i64 at', .slice A1 n1 c1, .slice A2 n2 c2] 78)) hl (hC.on hga))
  have N1 := shade (h1.on hga)
  have N2 := shade (h2.on hga)
  have E1 := shade (show Holds5 (w.alloc (.cells #[.int .i64 at', .slice A1 n1 c1, .slice A2 n2 c2] 78)) w.heap.size 78 #[.int .i64 at', .slice A1 n1 c1, .slice A2 n2 c2] from Holds5.fresh w 78 #[.int .i64 at', .slice A1 n1 c1, .slice A2 n2 c2])
  have E3 := shade hga
  clear hga hC h1 h2
  unfold runB
  rcases hv : vcB len F with _ | _
  · rw [hv] at HVC
    clear hv
    go_enter Tryd.func69, Tryd.ntmps69
    go_wp2_with fail
    refine HVC.out.mono ?_
    rintro e w1 ⟨rfl, hgr⟩
    have HG := shade (grown_same E3.out hgr)
    clear hgr
    go_wp2_with fail
    go_ret
    exact ⟨rfl, HG.out⟩
  · rw [hv] at HVC
    clear hv
    obtain ⟨W1, hW⟩ : ∃ W1, w.alloc (.cells #[.int .i64 at', .slice A1 n1 c1, .slice A2 n2 c2] 78) = W1 := ⟨_, rfl⟩
    rw [hW] at HVC N1 N2 E1 E3
    have HW := shade hW
    clear hW
    rcases hm : vmB at' n1 n2 f1 f2 with _ | _
    · have HM := shade hm
      clear hm
      go_enter Tryd.func69, Tryd.ntmps69
      go_upto_region 1 with (fail)
      rw [HW.out]
      clear HW
      go_wp2_with fail
      refine HVC.out.mono ?_
      rintro e w1 ⟨rfl, hgr⟩
      have p1 := E1.out.grown hgr (by intro e; cases e)
      have x0 := p1.look 0; have x1 := p1.look 1; have x2 := p1.look 2
      simp at x0 x1 x2
      have m1 := N1.out.on hgr
      have m2 := N2.out.on hgr
      have HG := shade (grown_same E3.out hgr)
      have HV := shade (validMachine_any at' A1 A2 n1 n2 c1 c2 f1 f2 w1 hn1 hn2 m1 m2)
      rw [HM.out] at HV
      clear hgr p1 m1 m2
      go_wp2_with fail
      refine HV.out.mono ?_
      rintro e w2 ⟨rfl, hgr⟩
      have HG2 := shade (grown_same HG.out hgr)
      clear hgr
      go_wp2_with fail
      go_ret
      exact ⟨rfl, HG2.out⟩
    · have HM := shade hm
      clear hm
      go_enter Tryd.func69, Tryd.ntmps69
      go_upto_region 1 with (fail)
      rw [HW.out]
      clear HW
      go_wp2_with fail
      refine HVC.out.mono ?_
      rintro e w1 ⟨rfl, hgr⟩
      have p1 := E1.out.grown hgr (by intro e; cases e)
      have x0 := p1.look 0; have x1 := p1.look 1; have x2 := p1.look 2
      simp at x0 x1 x2
      have m1 := N1.out.on hgr
      have m2 := N2.out.on hgr
      have HG := shade (grown_same E3.out hgr)
      have HV := shade (validMachine_any at' A1 A2 n1 n2 c1 c2 f1 f2 w1 hn1 hn2 m1 m2)
      rw [HM.out] at HV
      clear hgr p1 m1 m2
      go_wp2_with fail
      refine HV.out.mono ?_
      rintro e w2 ⟨rfl, hgr⟩
      have HG2 := shade (grown_same HG.out hgr)
      clear hgr HV
      go_wp2_with fail
      refine (inRB_any fuel 0 300 _).mono ?_
      rintro e w3 ⟨rfl, rfl⟩
      go_wp2_with fail
      go_ret
      exact ⟨rfl, HG2.out⟩
/-- What stands while the model's states go on: i of them so far. The machine is kept in the first block; its slices lie elsewhere. -/
structure MoO (w wr : World) (B : Nat) (F : Nat → Ins) (s : Sta) (i : Nat) (v : Value) (xs : List Value) (e z n : Nat) (b1 o1 c1 b2 o2 c2 : Nat) : Prop where
  own : wr.ownsRow B e z v n xs
  box : Holds5 wr w.heap.size 78 #[.int .i64 (sN F s i).at', .slice (some ⟨b1, o1, none⟩) 4 c1, .slice (some ⟨b2, o2, none⟩) 8 c2]
  n1 : Nums wr (some ⟨b1, o1, none⟩) 4 (sN F s i).r
  n2 : Nums wr (some ⟨b2, o2, none⟩) 8 (sN F s i).m
  ne : b1 ≠ w.heap.size ∧ b2 ≠ w.heap.size
  sepv : ∀ j, v.ownBlock = some j → j ≠ b1 ∧ j ≠ b2
  low : w.grownBy wr none
  big : B ≤ wr.heap.size
  sep : w.heap.size < B
section
variable {w wr w2 : World} {B : Nat} {F : Nat → Ins} {s : Sta} {i : Nat} {v : Value} {xs : List Value} {e z n : Nat} {b1 o1 c1 b2 o2 c2 : Nat}
theorem MoO.on (h : MoO w wr B F s i v xs e z n b1 o1 c1 b2 o2 c2) (hg : wr.grownBy w2 none) : MoO w w2 B F s i v xs e z n b1 o1 c1 b2 o2 c2 :=
  ⟨ownsRow_on h.own hg, h.box.grown hg (by intro e; cases e), h.n1.on hg, h.n2.on hg, h.ne, h.sepv, grown_same h.low hg, Nat.le_trans h.big hg.size, h.sep⟩
theorem MoO.inb (h : MoO w wr B F s i v xs e z n b1 o1 c1 b2 o2 c2) : b1 < wr.heap.size ∧ b2 < wr.heap.size := by
  rcases h.n1 with e1 | ⟨_, _, e1, l1, _⟩
  · omega
  rcases h.n2 with e2 | ⟨_, _, e2, l2, _⟩
  · omega
  injection e1 with e1; injection e1 with e1; injection e2 with e2; injection e2 with e2
  subst e1; subst e2
  exact ⟨l1, l2⟩
/-- Behind an append to the row. -/
theorem MoO.app (h : MoO w wr B F s i v xs e z n b1 o1 c1 b2 o2 c2) {v' : Value} {xs' : List Value} {n' : Nat} (ho : w2.ownsRow B e z v' n' xs') (hg : wr.grownBy w2 v.ownBlock) (hv : ∀ j, v'.ownBlock = some j → v.ownBlock = some j ∨ wr.heap.size ≤ j) : MoO w w2 B F s i v' xs' e z n' b1 o1 c1 b2 o2 c2 := by
  have hb := h.inb
  refine ⟨ho, h.box.grown hg (fun e => ?_), h.n1.grown hg (fun b off e e' => ?_), h.n2.grown hg (fun b off e e' => ?_), h.ne, fun j hj => ?_, grown_row h.low hg (fun j e => ?_), Nat.le_trans h.big hg.size, h.sep⟩
  · have := (World.ownsRow.lt h.own _ e.symm).1
    have := h.sep
    omega
  · injection e with e; injection e with e
    subst e
    exact (h.sepv _ e'.symm).1 rfl
  · injection e with e; injection e with e
    subst e
    exact (h.sepv _ e'.symm).2 rfl
  · rcases hv j hj with h1 | h1
    · exact h.sepv j h1
    · omega
  · have := (World.ownsRow.lt h.own j e).1
    have := h.sep
    omega
/-- Behind a step. -/
theorem MoO.step (h : MoO w wr B F s i v xs e z n b1 o1 c1 b2 o2 c2) (hg : wr.grownBy w2 none) {g1 d1 g2 d2 : Nat} (o1' : Own w2 wr.heap.size (some ⟨g1, 0, none⟩) 4 d1 (sNext F (sN F s i)).r) (o2' : Own w2 wr.heap.size (some ⟨g2, 0, none⟩) 8 d2 (sNext F (sN F s i)).m) :
    MoO w (((w2.setCell ⟨w.heap.size, 0, none⟩ (.int .i64 (sNext F (sN F s i)).at')).setCell ⟨w.heap.size, 1, none⟩ (.slice (some ⟨g1, 0, none⟩) 4 d1)).setCell ⟨w.heap.size, 2, none⟩ (.slice (some ⟨g2, 0, none⟩) 8 d2)) B F s (i + 1) v xs e z n g1 0 d1 g2 0 d2 := by
  have hw := h.box.inside
  have hgs := grown_set3 w2 w.heap.size (.int .i64 (sNext F (sN F s i)).at') (.slice (some ⟨g1, 0, none⟩) 4 d1) (.slice (some ⟨g2, 0, none⟩) 8 d2)
  have hl1 := o1'.lt
  have hl2 := o2'.lt
  have hb := (((h.box.grown hg (by intro e; cases e)).put 0 (.int .i64 (sNext F (sN F s i)).at')).put 1 (.slice (some ⟨g1, 0, none⟩) 4 d1)).put 2 (.slice (some ⟨g2, 0, none⟩) 8 d2)
  simp at hb
  refine ⟨World.ownsRow.kept (ownsRow_on h.own hg) hgs (.inr fun e => ?_), hb, o1'.nums.grown hgs ?_, o2'.nums.grown hgs ?_, ⟨by omega, by omega⟩, fun j hj => ?_, grown_then (grown_same h.low hg) hgs (Nat.le_refl _), Nat.le_trans h.big (Nat.le_trans hg.size hgs.size), h.sep⟩
  · have := (World.ownsRow.lt h.own _ e).1
    have := h.sep
    omega
  · intro b off e e'
    injection e with e; injection e with e; injection e' with e'
    omega
  · intro b off e e'
    injection e with e; injection e with e; injection e' with e'
    omega
  · have := (World.ownsRow.lt h.own _ hj).2
    omega
end
end Go.Proofs.YtlmjbflnfpccdaaDoor

namespace Go.Proofs.YtlmjbflnfpccdaaDoor
open Go.RowKit
theorem runEnd_ex (len : Nat) (F : Nat → Ins) (s : Sta) : ∀ fuel, ∃ k, RunEnd len F s fuel k := by
  intro fuel
  induction fuel with
  | zero => exact ⟨0, Nat.le_refl _, fun i hi => absurd hi (Nat.not_lt_zero i), .inl rfl⟩
  | succ fuel ih =>
    obtain ⟨k, h1, h2, h3⟩ := ih
    rcases hh : sHalt len F (sN F s k) with _ | _
    · rcases h3 with h3 | h3
      · refine ⟨k + 1, by omega, fun i hi => ?_, .inl (by omega)⟩
        by_cases e : i = k
        · rw [e]
          exact hh
        · exact h2 i (by omega)
      · rw [hh] at h3
        cases h3
    · exact ⟨k, by omega, h2, .inr hh⟩
theorem runB_parts {len : Nat} {F : Nat → Ins} {at' : Int} {n1 n2 : Nat} {f1 f2 : Nat → Int} {fuel : Int} (h : runB len F at' n1 n2 f1 f2 fuel = true) : vcB len F = true ∧ vmB at' n1 n2 f1 f2 = true ∧ 0 ≤ fuel ∧ fuel ≤ 300 := by
  simp only [runB, inRB, Bool.and_eq_true, decide_eq_true_eq] at h
  exact ⟨h.1.1, h.1.2, h.2.1, h.2.2⟩
theorem NoRun.res {w : World} {e : Ending} {w' : World} (A : Option Addr) (len : Nat) (g : Nat → Sta) (h : NoRun w e w') : RunRes A len 0 g w e w' :=
  ⟨none, 0, 0, none, 0, zSta, false, false, h.1, .inl rfl, .inl rfl, (by intro _ _ e; cases e), h.2⟩
theorem YesRun.res {A : Option Addr} {len cap : Nat} {F : Nat → Ins} {s : Sta} {fuel K : Nat} {w : World} {e : Ending} {w' : World} (hK : RunEnd len F s fuel K) (h : YesRun A len cap F s fuel w e w') : RunRes A len K (sN F s) w e w' := by
  obtain ⟨k, A3, c3, hre, he, hst, hsep, hgr⟩ := h
  obtain rfl := hre.uniq hK
  exact ⟨A, len, cap, A3, c3, sN F s k, sHalt len F (sN F s k), true, he, .inr ⟨rfl, rfl⟩, hst, hsep, hgr⟩
end Go.Proofs.YtlmjbflnfpccdaaDoor
