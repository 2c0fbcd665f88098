/- A run's steps, by the program and by the model; 'follow' makes the states of a run. -/
import Derived.Test.YtcfnoihjpiklhaaDoorW90
import Derived.Test.YtcfnoihjpiklhaaDoorW76
import Derived.FnLit
namespace Go.Proofs.YtcfnoihjpiklhaaDoor
open Go.RowKit
set_option linter.unusedSimpArgs false
/-- A state as a value. -/
abbrev StV (s : Sta) : Value := SV s.at' s.r s.m
abbrev stS (s : Sta) : Array Value := stC s.at' s.r s.m
def zSta : Sta := ⟨0, fun _ => 0, fun _ => 0⟩
theorem halt_parts {len : Nat} {F : Nat → Ins} {s : Sta} (hh : sHalt len F s = false) : s.at'.toNat < len ∧ ((F s.at'.toNat).op.toList == [104, 108, 116]) = false := by
  simp only [sHalt, haltB, Bool.or_eq_false_iff, decide_eq_false_iff_not] at hh
  exact ⟨by omega, hh.2⟩
/-- The program's step, where one is left. -/
theorem step_yes (A : Option Addr) (len cap : Nat) (F : Nat → Ins) (s : Sta) (w : World) (hg : WT w) (hC : Code w A len F) (hv : vcB len F = true) (hs : OkS s) (hh : sHalt len F s = false) :
    Calls Tryd.prog 47 #[.slice A len cap, StV s] w fun e w' => e = .returned (.tuple #[StV (sNext F s), .bool true]) ∧ w.grownBy w' none := by
  obtain ⟨hlt, hx⟩ := halt_parts hh
  have he : ((s.at'.toNat : Nat) : Int) = s.at' := Int.toNat_of_nonneg hs.lo
  obtain ⟨h40, ⟨r1, r2, r3⟩, ⟨q0, q1⟩, hw, h9, hF⟩ := ins_parts hv hlt
  have h8 : nOf F s.at' ≤ 8 := by
    have : wordN (F s.at'.toNat).op.toList ≠ 9 := fun e => by
      rw [(hlt_word _).2 e] at hx
      cases hx
    omega
  obtain ⟨b, off, rfl, _⟩ := hC.resolve_left (by omega)
  have key := step_any (nOf F s.at') h8 b off len cap s.at'.toNat (rdOf F s.at') (raOf F s.at') (rbOf F s.at') (kOf F s.at') _ F s.r s.m w hg hC hlt h40 hF hw r1 r2 r3 q0 q1 hs.r
  rw [he] at key
  exact key
/-- The program's step, where none is left. -/
theorem step_no (A : Option Addr) (len cap : Nat) (F : Nat → Ins) (s : Sta) (w : World) (hg : WT w) (hC : Code w A len F) (hv : vcB len F = true) (hs : OkS s) (hh : sHalt len F s = true) :
    Calls Tryd.prog 47 #[.slice A len cap, StV s] w fun e w' => e = .returned (.tuple #[StV zSta, .bool false]) ∧ w.grownBy w' none := by
  have he : ((s.at'.toNat : Nat) : Int) = s.at' := Int.toNat_of_nonneg hs.lo
  by_cases hle : len ≤ s.at'.toNat
  · have key := step_end A len cap s.at'.toNat s.r s.m w hle (by have := hs.hi; omega)
    rw [he] at key
    exact key
  · have hlt : s.at'.toNat < len := by omega
    obtain ⟨h40, ⟨r1, r2, r3⟩, ⟨q0, q1⟩, hw, _, hF⟩ := ins_parts hv hlt
    have h9 : wordN (F s.at'.toNat).op.toList = 9 := by
      simp only [sHalt, haltB, Bool.or_eq_true, decide_eq_true_eq] at hh
      exact (hlt_word _).1 (hh.resolve_left hle)
    obtain ⟨b, off, rfl, _⟩ := hC.resolve_left (by omega)
    have key := step_9 b off len cap s.at'.toNat (rdOf F s.at') (raOf F s.at') (rbOf F s.at') (kOf F s.at') _ F s.r s.m w hg hC hlt h40 hF h9 r1 r2 r3 q0 q1 hs.r
    rw [he] at key
    exact key
/-- The model's step, where one is left. -/
theorem specStep_yes (A : Option Addr) (len cap : Nat) (F : Nat → Ins) (s : Sta) (b1 o1 c1 b2 o2 c2 : Nat) (w : World) (hC : Code w A len F) (hv : vcB len F = true) (hs : OkS s) (hh : sHalt len F s = false)
    (h1 : Nums w (some ⟨b1, o1, none⟩) 4 s.r) (h2 : Nums w (some ⟨b2, o2, none⟩) 8 s.m) :
    Calls Tryd.prog 53 #[.slice A len cap, MV s.at' (some ⟨b1, o1, none⟩) 4 c1 (some ⟨b2, o2, none⟩) 8 c2] w (MachOk w (sNext F s).at' 4 8 (sNext F s).r (sNext F s).m) := by
  obtain ⟨hlt, hx⟩ := halt_parts hh
  have he : ((s.at'.toNat : Nat) : Int) = s.at' := Int.toNat_of_nonneg hs.lo
  obtain ⟨h40, ⟨r1, r2, r3⟩, ⟨q0, q1⟩, hw, h9, hF⟩ := ins_parts hv hlt
  have h8 : nOf F s.at' ≤ 8 := by
    have : wordN (F s.at'.toNat).op.toList ≠ 9 := fun e => by
      rw [(hlt_word _).2 e] at hx
      cases hx
    omega
  obtain ⟨b, off, rfl, _⟩ := hC.resolve_left (by omega)
  rw [op_is _ (nOf F s.at') (by omega) hw] at hF
  have key := specStep_any (nOf F s.at') h8 b off len cap s.at'.toNat (rdOf F s.at') (raOf F s.at') (rbOf F s.at') (kOf F s.at') F b1 o1 c1 b2 o2 c2 s.r s.m w hC hlt h40 hF r1 r2 r3 q0 q1 hs.r h1 h2
  rw [he] at key
  exact key
/-- What stands while the states of a run are made: k of them so far. -/
structure FOK (w wr : World) (F : Nat → Ins) (s : Sta) (v : Value) (k : Nat) : Prop where
  box : Holds5 wr w.heap.size 60 (stS (sN F s k))
  res : Holds5 wr (w.heap.size + 1) 60 #[.int .i64 0, .int .i64 0, .int .i64 0, .int .i64 0, .int .i64 0, .int .i64 0, .int .i64 0, .int .i64 0, .int .i64 0, .int .i64 0, .int .i64 0, .int .i64 0, .int .i64 0]
  own : OwnS wr (w.heap.size + 2) v k (sN F s)
  low : w.grownBy wr none
theorem stS_new (w : World) (s : Sta) (t : TypeId) : ∀ j u, ([s.part 0, s.part 1, s.part 2, s.part 3, s.part 4, s.part 5, s.part 6, s.part 7, s.part 8, s.part 9, s.part 10, s.part 11, s.part 12] : List Value)[j]? = some u → (w.alloc (.cells (stS s) t)).cell? ((⟨w.heap.size, 0, none⟩ : Addr).add j) = some u := by
  intro j u h
  rw [Addr.add_lit, Nat.zero_add, World.cell?_alloc_new]
  rw [sta_parts] at h
  simpa [stC] using h
theorem infoS : (Tryd.prog.info? 60).map (fun i => (i.zero, i.size, i.bytes)) = some (some (.agg #[.int .i64 0, .int .i64 0, .int .i64 0, .int .i64 0, .int .i64 0, .int .i64 0, .int .i64 0, .int .i64 0, .int .i64 0, .int .i64 0, .int .i64 0, .int .i64 0, .int .i64 0]), 13, 104) := by kernel_rfl
theorem OwnS.on {w w' : World} {B n : Nat} {v : Value} {f : Nat → Sta} (h : OwnS w B v n f) (hg : w.grownBy w' none) : OwnS w' B v n f :=
  World.ownsRow.kept h hg (Classical.em _)
theorem put13 (W : World) (r : Nat) (t : Sta) {a0 a1 a2 a3 a4 a5 a6 a7 a8 a9 a10 a11 a12 : Value} (h : Holds5 W r 60 #[a0, a1, a2, a3, a4, a5, a6, a7, a8, a9, a10, a11, a12]) : Holds5 (((((((((((((W.setCell ⟨r, 0, none⟩ (.int .i64 t.at')).setCell ⟨r, 1, none⟩ (.int .i64 (t.r 0))).setCell ⟨r, 2, none⟩ (.int .i64 (t.r 1))).setCell ⟨r, 3, none⟩ (.int .i64 (t.r 2))).setCell ⟨r, 4, none⟩ (.int .i64 (t.r 3))).setCell ⟨r, 5, none⟩ (.int .i64 (t.m 0))).setCell ⟨r, 6, none⟩ (.int .i64 (t.m 1))).setCell ⟨r, 7, none⟩ (.int .i64 (t.m 2))).setCell ⟨r, 8, none⟩ (.int .i64 (t.m 3))).setCell ⟨r, 9, none⟩ (.int .i64 (t.m 4))).setCell ⟨r, 10, none⟩ (.int .i64 (t.m 5))).setCell ⟨r, 11, none⟩ (.int .i64 (t.m 6))).setCell ⟨r, 12, none⟩ (.int .i64 (t.m 7))) r 60 (stS t) ∧ W.grownBy (((((((((((((W.setCell ⟨r, 0, none⟩ (.int .i64 t.at')).setCell ⟨r, 1, none⟩ (.int .i64 (t.r 0))).setCell ⟨r, 2, none⟩ (.int .i64 (t.r 1))).setCell ⟨r, 3, none⟩ (.int .i64 (t.r 2))).setCell ⟨r, 4, none⟩ (.int .i64 (t.r 3))).setCell ⟨r, 5, none⟩ (.int .i64 (t.m 0))).setCell ⟨r, 6, none⟩ (.int .i64 (t.m 1))).setCell ⟨r, 7, none⟩ (.int .i64 (t.m 2))).setCell ⟨r, 8, none⟩ (.int .i64 (t.m 3))).setCell ⟨r, 9, none⟩ (.int .i64 (t.m 4))).setCell ⟨r, 10, none⟩ (.int .i64 (t.m 5))).setCell ⟨r, 11, none⟩ (.int .i64 (t.m 6))).setCell ⟨r, 12, none⟩ (.int .i64 (t.m 7))) (some r) := by
  refine ⟨?_, ?_⟩
  · have hP := (((((((((((((h.put 0 (.int .i64 t.at')).put 1 (.int .i64 (t.r 0))).put 2 (.int .i64 (t.r 1))).put 3 (.int .i64 (t.r 2))).put 4 (.int .i64 (t.r 3))).put 5 (.int .i64 (t.m 0))).put 6 (.int .i64 (t.m 1))).put 7 (.int .i64 (t.m 2))).put 8 (.int .i64 (t.m 3))).put 9 (.int .i64 (t.m 4))).put 10 (.int .i64 (t.m 5))).put 11 (.int .i64 (t.m 6))).put 12 (.int .i64 (t.m 7)))
    simp at hP
    exact hP
  · exact grown_same (grown_same (grown_same (grown_same (grown_same (grown_same (grown_same (grown_same (grown_same (grown_same (grown_same (grown_same (grown_set _ _ _) (grown_set _ _ _)) (grown_set _ _ _)) (grown_set _ _ _)) (grown_set _ _ _)) (grown_set _ _ _)) (grown_set _ _ _)) (grown_set _ _ _)) (grown_set _ _ _)) (grown_set _ _ _)) (grown_set _ _ _)) (grown_set _ _ _)) (grown_set _ _ _)
theorem Own_block {w : World} {B n : Nat} {v : Value} {f : Nat → Sta} (h : OwnS w B v n f) {b : Nat} (hb : b < B ∨ w.heap.size ≤ b) : some b ≠ v.ownBlock := by
  intro e
  have := World.ownsRow.lt h b e.symm
  omega
/-- What 'follow' leaves. -/
def FollowOk (len : Nat) (F : Nat → Ins) (s : Sta) (fuel : Nat) (w : World) (e : Ending) (w' : World) : Prop :=
  ∃ (k : Nat) (A : Option Addr) (c : Nat), RunEnd len F s fuel k ∧ e = .returned (.tuple #[.slice A k c, StV (sN F s k), .bool (sHalt len F (sN F s k))]) ∧ Stas w' A k (sN F s) ∧ (∀ b off, A = some ⟨b, off, none⟩ → w.heap.size ≤ b ∧ b < w'.heap.size) ∧ w.grownBy w' none
set_option maxRecDepth 100000 in
set_option maxHeartbeats 8000000 in
theorem follow_any (A : Option Addr) (len cap : Nat) (F : Nat → Ins) (s : Sta) (fuel : Nat) (w : World) (hg : WT w) (hC : Code w A len F) (hv : vcB len F = true) (hs : OkS s) (hf : fuel ≤ 300) :
    Calls Tryd.prog 46 #[.func (.func 47) #[.slice A len cap] #[], StV s, .int .i64 fuel] w (FollowOk len F s fuel w) := by
  have hM : FOK w ((w.alloc (.cells #[.int .i64 s.at', .int .i64 (s.r 0), .int .i64 (s.r 1), .int .i64 (s.r 2), .int .i64 (s.r 3), .int .i64 (s.m 0), .int .i64 (s.m 1), .int .i64 (s.m 2), .int .i64 (s.m 3), .int .i64 (s.m 4), .int .i64 (s.m 5), .int .i64 (s.m 6), .int .i64 (s.m 7)] 60)).alloc (.cells #[.int .i64 0, .int .i64 0, .int .i64 0, .int .i64 0, .int .i64 0, .int .i64 0, .int .i64 0, .int .i64 0, .int .i64 0, .int .i64 0, .int .i64 0, .int .i64 0, .int .i64 0] 60)) F s (.slice none 0 0) 0 := by
    refine ⟨(Holds5.fresh w 60 #[.int .i64 s.at', .int .i64 (s.r 0), .int .i64 (s.r 1), .int .i64 (s.r 2), .int .i64 (s.r 3), .int .i64 (s.m 0), .int .i64 (s.m 1), .int .i64 (s.m 2), .int .i64 (s.m 3), .int .i64 (s.m 4), .int .i64 (s.m 5), .int .i64 (s.m 6), .int .i64 (s.m 7)]).alloc _, ?_, World.ownsRow_nil _ _ _ _, grown_same (World.grownBy_alloc _ _ _) (World.grownBy_alloc _ _ _)⟩
    have := Holds5.fresh (w.alloc (.cells #[.int .i64 s.at', .int .i64 (s.r 0), .int .i64 (s.r 1), .int .i64 (s.r 2), .int .i64 (s.r 3), .int .i64 (s.m 0), .int .i64 (s.m 1), .int .i64 (s.m 2), .int .i64 (s.m 3), .int .i64 (s.m 4), .int .i64 (s.m 5), .int .i64 (s.m 6), .int .i64 (s.m 7)] 60)) 60 #[.int .i64 0, .int .i64 0, .int .i64 0, .int .i64 0, .int .i64 0, .int .i64 0, .int .i64 0, .int .i64 0, .int .i64 0, .int .i64 0, .int .i64 0, .int .i64 0, .int .i64 0]
    rwa [World.size_alloc] at this
  have HM := shade hM
  have HG := shade hg; have HC := shade hC; have HV := shade hv; have HS := shade hs
  clear hM hg hC hv hs
  obtain ⟨W0, hW0⟩ : ∃ W0, (w.alloc (.cells #[.int .i64 s.at', .int .i64 (s.r 0), .int .i64 (s.r 1), .int .i64 (s.r 2), .int .i64 (s.r 3), .int .i64 (s.m 0), .int .i64 (s.m 1), .int .i64 (s.m 2), .int .i64 (s.m 3), .int .i64 (s.m 4), .int .i64 (s.m 5), .int .i64 (s.m 6), .int .i64 (s.m 7)] 60)).alloc (.cells #[.int .i64 0, .int .i64 0, .int .i64 0, .int .i64 0, .int .i64 0, .int .i64 0, .int .i64 0, .int .i64 0, .int .i64 0, .int .i64 0, .int .i64 0, .int .i64 0, .int .i64 0] 60) = W0 := ⟨_, rfl⟩
  rw [hW0] at HM
  have HW0 := shade hW0
  clear hW0
  go_enter Tryd.func46, Tryd.ntmps46
  go_upto_region 1 with (fail)
  rw [HW0.out]
  clear HW0
  go_wp2_with fail
  go_loopw [9] (fun v wr => ∃ k : Nat, k ≤ fuel ∧ (∀ i, i < k → sHalt len F (sN F s i) = false) ∧ FOK w wr F s v k) (fun v _ => fuel - lenOf v)
  case atStart => exact ⟨0, Nat.zero_le _, fun i hi => absurd hi (Nat.not_lt_zero i), HM.out⟩
  case round =>
    clear HM
    obtain ⟨k, hk, hgo, hf⟩ := hrel
    have HGO := shade hgo
    have hok := HS.out.run HV.out k hgo
    obtain ⟨A1, c1, rfl, hst, hsep⟩ := hf.own.shape
    have HB := shade hf.box; have HR := shade hf.res; have HO := shade hf.own; have HL := shade hf.low
    have hg2 : WT wr := HG.out.below (below_of_grown hf.low) (wt_lt HG.out)
    have hc2 : Code wr A len F := HC.out.on hf.low
    have x0 := HB.out.look 0; have x1 := HB.out.look 1; have x2 := HB.out.look 2; have x3 := HB.out.look 3; have x4 := HB.out.look 4; have x5 := HB.out.look 5; have x6 := HB.out.look 6; have x7 := HB.out.look 7; have x8 := HB.out.look 8; have x9 := HB.out.look 9; have x10 := HB.out.look 10; have x11 := HB.out.look 11; have x12 := HB.out.look 12
    simp [stC] at x0 x1 x2 x3 x4 x5 x6 x7 x8 x9 x10 x11 x12
    rcases hh : sHalt len F (sN F s k) with _ | _
    · obtain ⟨t, ht⟩ : ∃ t, sNext F (sN F s k) = t := ⟨_, rfl⟩
      have HST := shade (step_yes A len cap F (sN F s k) wr hg2 hc2 HV.out hok hh)
      rw [ht] at HST
      have HT := shade ht
      have HH := shade hh
      clear hgo hf hg2 hc2 hok hst hsep hh ht
      go_wp2_with fail
      refine HST.out.mono ?_
      rintro e w1 ⟨rfl, hgr⟩
      have hb1 := HB.out.grown hgr (by intro e; cases e)
      have hr1 := HR.out.grown hgr (by intro e; cases e)
      have ho1 := OwnS.on HO.out hgr
      have HO0 := shade HO.out
      have hz4 := hgr.size
      have hl1 := grown_same HL.out hgr
      clear hgr HST HB HR HO HL x0 x1 x2 x3 x4 x5 x6 x7 x8 x9 x10 x11 x12
      go_upto_region 3 with (fail)
      have HX : Hid (Holds5 (w1.alloc (.cells #[.int .i64 t.at', .int .i64 (t.r 0), .int .i64 (t.r 1), .int .i64 (t.r 2), .int .i64 (t.r 3), .int .i64 (t.m 0), .int .i64 (t.m 1), .int .i64 (t.m 2), .int .i64 (t.m 3), .int .i64 (t.m 4), .int .i64 (t.m 5), .int .i64 (t.m 6), .int .i64 (t.m 7)] 60)) w1.heap.size 60 (stS t)) := shade (Holds5.fresh w1 60 #[.int .i64 t.at', .int .i64 (t.r 0), .int .i64 (t.r 1), .int .i64 (t.r 2), .int .i64 (t.r 3), .int .i64 (t.m 0), .int .i64 (t.m 1), .int .i64 (t.m 2), .int .i64 (t.m 3), .int .i64 (t.m 4), .int .i64 (t.m 5), .int .i64 (t.m 6), .int .i64 (t.m 7)])
      have HB := shade (hb1.alloc (.cells #[.int .i64 t.at', .int .i64 (t.r 0), .int .i64 (t.r 1), .int .i64 (t.r 2), .int .i64 (t.r 3), .int .i64 (t.m 0), .int .i64 (t.m 1), .int .i64 (t.m 2), .int .i64 (t.m 3), .int .i64 (t.m 4), .int .i64 (t.m 5), .int .i64 (t.m 6), .int .i64 (t.m 7)] 60))
      have HR := shade (hr1.alloc (.cells #[.int .i64 t.at', .int .i64 (t.r 0), .int .i64 (t.r 1), .int .i64 (t.r 2), .int .i64 (t.r 3), .int .i64 (t.m 0), .int .i64 (t.m 1), .int .i64 (t.m 2), .int .i64 (t.m 3), .int .i64 (t.m 4), .int .i64 (t.m 5), .int .i64 (t.m 6), .int .i64 (t.m 7)] 60))
      have HO := shade (ho1.alloc (.cells #[.int .i64 t.at', .int .i64 (t.r 0), .int .i64 (t.r 1), .int .i64 (t.r 2), .int .i64 (t.r 3), .int .i64 (t.m 0), .int .i64 (t.m 1), .int .i64 (t.m 2), .int .i64 (t.m 3), .int .i64 (t.m 4), .int .i64 (t.m 5), .int .i64 (t.m 6), .int .i64 (t.m 7)] 60))
      have HL := shade (grown_same hl1 (World.grownBy_alloc w1 (.cells #[.int .i64 t.at', .int .i64 (t.r 0), .int .i64 (t.r 1), .int .i64 (t.r 2), .int .i64 (t.r 3), .int .i64 (t.m 0), .int .i64 (t.m 1), .int .i64 (t.m 2), .int .i64 (t.m 3), .int .i64 (t.m 4), .int .i64 (t.m 5), .int .i64 (t.m 6), .int .i64 (t.m 7)] 60) none))
      have hz1 := hb1.inside
      have hz2 := hr1.inside
      generalize hW : w1.alloc (.cells #[.int .i64 t.at', .int .i64 (t.r 0), .int .i64 (t.r 1), .int .i64 (t.r 2), .int .i64 (t.r 3), .int .i64 (t.m 0), .int .i64 (t.m 1), .int .i64 (t.m 2), .int .i64 (t.m 3), .int .i64 (t.m 4), .int .i64 (t.m 5), .int .i64 (t.m 6), .int .i64 (t.m 7)] 60) = W2 at *
      have hz3 : W2.heap.size = w1.heap.size + 1 := by rw [← hW, World.size_alloc]
      have HZ3 := shade hz3
      clear hb1 hr1 ho1 hl1 hW hz3
      have x0 := HB.out.look 0; have x1 := HB.out.look 1; have x2 := HB.out.look 2; have x3 := HB.out.look 3; have x4 := HB.out.look 4; have x5 := HB.out.look 5; have x6 := HB.out.look 6; have x7 := HB.out.look 7; have x8 := HB.out.look 8; have x9 := HB.out.look 9; have x10 := HB.out.look 10; have x11 := HB.out.look 11; have x12 := HB.out.look 12
      simp [stC] at x0 x1 x2 x3 x4 x5 x6 x7 x8 x9 x10 x11 x12
      by_cases hkf : k = fuel
      · have z0 := HR.out.look 0; have t0 := HR.out.free 0; have z1 := HR.out.look 1; have t1 := HR.out.free 1; have z2 := HR.out.look 2; have t2 := HR.out.free 2; have z3 := HR.out.look 3; have t3 := HR.out.free 3; have z4 := HR.out.look 4; have t4 := HR.out.free 4; have z5 := HR.out.look 5; have t5 := HR.out.free 5; have z6 := HR.out.look 6; have t6 := HR.out.free 6; have z7 := HR.out.look 7; have t7 := HR.out.free 7; have z8 := HR.out.look 8; have t8 := HR.out.free 8; have z9 := HR.out.look 9; have t9 := HR.out.free 9; have z10 := HR.out.look 10; have t10 := HR.out.free 10; have z11 := HR.out.look 11; have t11 := HR.out.free 11; have z12 := HR.out.look 12; have t12 := HR.out.free 12
        simp at z0 z1 z2 z3 z4 z5 z6 z7 z8 z9 z10 z11 z12
        subst hkf
        go_upto_region 4 with (fail)
        go_region
        have hp := put13 W2 (w.heap.size + 1) (sN F s k) HR.out
        obtain ⟨W3, hW3⟩ : ∃ W3, (((((((((((((W2.setCell ⟨(w.heap.size + 1), 0, none⟩ (.int .i64 (sN F s k).at')).setCell ⟨(w.heap.size + 1), 1, none⟩ (.int .i64 ((sN F s k).r 0))).setCell ⟨(w.heap.size + 1), 2, none⟩ (.int .i64 ((sN F s k).r 1))).setCell ⟨(w.heap.size + 1), 3, none⟩ (.int .i64 ((sN F s k).r 2))).setCell ⟨(w.heap.size + 1), 4, none⟩ (.int .i64 ((sN F s k).r 3))).setCell ⟨(w.heap.size + 1), 5, none⟩ (.int .i64 ((sN F s k).m 0))).setCell ⟨(w.heap.size + 1), 6, none⟩ (.int .i64 ((sN F s k).m 1))).setCell ⟨(w.heap.size + 1), 7, none⟩ (.int .i64 ((sN F s k).m 2))).setCell ⟨(w.heap.size + 1), 8, none⟩ (.int .i64 ((sN F s k).m 3))).setCell ⟨(w.heap.size + 1), 9, none⟩ (.int .i64 ((sN F s k).m 4))).setCell ⟨(w.heap.size + 1), 10, none⟩ (.int .i64 ((sN F s k).m 5))).setCell ⟨(w.heap.size + 1), 11, none⟩ (.int .i64 ((sN F s k).m 6))).setCell ⟨(w.heap.size + 1), 12, none⟩ (.int .i64 ((sN F s k).m 7))) = W3 := ⟨_, rfl⟩
        rw [hW3] at hp ⊢
        obtain ⟨hp1, hp2⟩ := hp
        have HP := shade hp1
        have HGF := shade (grown_then HL.out hp2 (by omega))
        have HFI := shade ((OwnS.shape HO.out))
        have HP2 := shade hp2
        clear hp1 hp2 hW3
        go_wp2_with fail
        have hP := HP.out
        have q0 := hP.look 0; have q1 := hP.look 1; have q2 := hP.look 2; have q3 := hP.look 3; have q4 := hP.look 4; have q5 := hP.look 5; have q6 := hP.look 6; have q7 := hP.look 7; have q8 := hP.look 8; have q9 := hP.look 9; have q10 := hP.look 10; have q11 := hP.look 11; have q12 := hP.look 12
        simp [stC] at q0 q1 q2 q3 q4 q5 q6 q7 q8 q9 q10 q11 q12
        obtain ⟨A2, c2, e2, hst, hsep⟩ := HFI.out
        injection e2 with e2 _ e3
        subst e2
        subst e3
        refine bodyPost_ret (v := .tuple #[.slice A1 k c1, StV (sN F s k), .bool false]) (by simp [results, Tryd.results46, go_sem, q0, q1, q2, q3, q4, q5, q6, q7, q8, q9, q10, q11, q12]) rfl ⟨k, A1, c1, ⟨Nat.le_refl _, HGO.out, .inl rfl⟩, by rw [HH.out], ?_, ?_, grown_same HGF.out (grown_drew1 _)⟩
        · refine (hst.grown HP2.out ?_).on (grown_drew1 _)
          intro b off e e'
          injection e' with e'
          have := hsep b off e
          omega
        · intro b off e
          have := hsep b off e
          have := HP2.out.size
          exact ⟨by omega, by show b < W3.heap.size; omega⟩
      · obtain ⟨i0, hi, hz0, hz1, hz2⟩ := info_parts infoS
        have hkl : k < 300 := by omega
        go_wp2_with (first
            | (at_builtin; go_loud (refine wpList_append_own _ rfl _ _ 56 rfl (w.heap.size + 2) 60 i0 (.agg #[.int .i64 0, .int .i64 0, .int .i64 0, .int .i64 0, .int .i64 0, .int .i64 0, .int .i64 0, .int .i64 0, .int .i64 0, .int .i64 0, .int .i64 0, .int .i64 0, .int .i64 0]) 13 104 Tryd.underlying56 hi hz0 hz1 hz2 rfl (by decide) _ _ _ rfl (HO.out.alloc _) ⟨W2.heap.size, 0, none⟩ 1 1 [(sN F s k).part 0, (sN F s k).part 1, (sN F s k).part 2, (sN F s k).part 3, (sN F s k).part 4, (sN F s k).part 5, (sN F s k).part 6, (sN F s k).part 7, (sN F s k).part 8, (sN F s k).part 9, (sN F s k).part 10, (sN F s k).part 11, (sN F s k).part 12] rfl rfl (stS_new _ _ _) (sta_one _) (by unfold maxLen; omega) (by omega) (by have := HZ3.out; simp; omega) ?_))
            | go_in)
        intro v' w8 hown8 hgr8 hnil8
        have hx : some w1.heap.size ≠ (Value.slice A1 k c1).ownBlock := Own_block HO0.out (.inr hz4)
        have hgn := World.grownBy_alloc W2 (.cells (stS (sN F s k)) 60) none
        have hx8 := (HX.out.alloc (.cells (stS (sN F s k)) 60)).grown hgr8 hx
        have hb8 := (HB.out.alloc (.cells (stS (sN F s k)) 60)).grown hgr8 (Own_block HO0.out (.inl (by omega)))
        have hr8 := (HR.out.alloc (.cells (stS (sN F s k)) 60)).grown hgr8 (Own_block HO0.out (.inl (by omega)))
        have hl8 : w.grownBy w8 none := grown_row (grown_same HL.out hgn) hgr8 (fun j e => by have := (World.ownsRow.lt HO0.out j e).1; omega)
        rw [staL_snoc k (sN F s)] at hown8
        have HX8 := shade hx8; have HB8 := shade hb8; have HR8 := shade hr8; have HO8 := shade hown8; have HL8 := shade hl8
        clear hgr8 hnil8 hgn hx8 hb8 hr8 hl8 hown8 hi hz0 hz1 hz2 HX HB HR HO HL HO0 hx x0 x1 x2 x3 x4 x5 x6 x7 x8 x9 x10 x11 x12
        have x0 := HX8.out.look 0; have z0 := HB8.out.look 0; have t0 := HB8.out.free 0; have x1 := HX8.out.look 1; have z1 := HB8.out.look 1; have t1 := HB8.out.free 1; have x2 := HX8.out.look 2; have z2 := HB8.out.look 2; have t2 := HB8.out.free 2; have x3 := HX8.out.look 3; have z3 := HB8.out.look 3; have t3 := HB8.out.free 3; have x4 := HX8.out.look 4; have z4 := HB8.out.look 4; have t4 := HB8.out.free 4; have x5 := HX8.out.look 5; have z5 := HB8.out.look 5; have t5 := HB8.out.free 5; have x6 := HX8.out.look 6; have z6 := HB8.out.look 6; have t6 := HB8.out.free 6; have x7 := HX8.out.look 7; have z7 := HB8.out.look 7; have t7 := HB8.out.free 7; have x8 := HX8.out.look 8; have z8 := HB8.out.look 8; have t8 := HB8.out.free 8; have x9 := HX8.out.look 9; have z9 := HB8.out.look 9; have t9 := HB8.out.free 9; have x10 := HX8.out.look 10; have z10 := HB8.out.look 10; have t10 := HB8.out.free 10; have x11 := HX8.out.look 11; have z11 := HB8.out.look 11; have t11 := HB8.out.free 11; have x12 := HX8.out.look 12; have z12 := HB8.out.look 12; have t12 := HB8.out.free 12
        simp [stC] at x0 z0 x1 z1 x2 z2 x3 z3 x4 z4 x5 z5 x6 z6 x7 z7 x8 z8 x9 z9 x10 z10 x11 z11 x12 z12
        go_wp2_with fail
        have hp := put13 w8 w.heap.size t HB8.out
        have hgx : ∀ i, i < k + 1 → sHalt len F (sN F s i) = false := by
          intro i hi
          by_cases e : i = k
          · rw [e]
            exact HH.out
          · exact HGO.out i (by omega)
        refine ⟨⟨k + 1, by omega, hgx, ⟨?_, HR8.out.grown hp.2 (by intro e; injection e; omega), World.ownsRow.kept HO8.out hp.2 (.inr fun e => by have := (World.ownsRow.lt HO8.out _ e).1; omega), grown_then HL8.out hp.2 (Nat.le_refl _)⟩⟩, ?_⟩
        · show Holds5 _ _ _ (stS (sNext F (sN F s k)))
          rw [HT.out]
          exact hp.1
        · obtain ⟨A8, c8, e8, _⟩ := OwnS.shape HO8.out
          subst e8
          simp only [lenOf]
          omega
    · have HST := shade (step_no A len cap F (sN F s k) wr hg2 hc2 HV.out hok hh)
      obtain ⟨t, ht⟩ : ∃ t, zSta = t := ⟨_, rfl⟩
      rw [ht] at HST
      clear ht
      have HH := shade hh
      clear hgo hf hg2 hc2 hok hst hsep hh
      go_wp2_with fail
      refine HST.out.mono ?_
      rintro e w1 ⟨rfl, hgr⟩
      have hb1 := HB.out.grown hgr (by intro e; cases e)
      have hr1 := HR.out.grown hgr (by intro e; cases e)
      have ho1 := OwnS.on HO.out hgr
      have hl1 := grown_same HL.out hgr
      clear hgr HST HB HR HO HL x0 x1 x2 x3 x4 x5 x6 x7 x8 x9 x10 x11 x12
      go_upto_region 3 with (fail)
      have HB := shade (hb1.alloc (.cells #[.int .i64 t.at', .int .i64 (t.r 0), .int .i64 (t.r 1), .int .i64 (t.r 2), .int .i64 (t.r 3), .int .i64 (t.m 0), .int .i64 (t.m 1), .int .i64 (t.m 2), .int .i64 (t.m 3), .int .i64 (t.m 4), .int .i64 (t.m 5), .int .i64 (t.m 6), .int .i64 (t.m 7)] 60))
      have HR := shade (hr1.alloc (.cells #[.int .i64 t.at', .int .i64 (t.r 0), .int .i64 (t.r 1), .int .i64 (t.r 2), .int .i64 (t.r 3), .int .i64 (t.m 0), .int .i64 (t.m 1), .int .i64 (t.m 2), .int .i64 (t.m 3), .int .i64 (t.m 4), .int .i64 (t.m 5), .int .i64 (t.m 6), .int .i64 (t.m 7)] 60))
      have HO := shade (ho1.alloc (.cells #[.int .i64 t.at', .int .i64 (t.r 0), .int .i64 (t.r 1), .int .i64 (t.r 2), .int .i64 (t.r 3), .int .i64 (t.m 0), .int .i64 (t.m 1), .int .i64 (t.m 2), .int .i64 (t.m 3), .int .i64 (t.m 4), .int .i64 (t.m 5), .int .i64 (t.m 6), .int .i64 (t.m 7)] 60))
      have HL := shade (grown_same hl1 (World.grownBy_alloc w1 (.cells #[.int .i64 t.at', .int .i64 (t.r 0), .int .i64 (t.r 1), .int .i64 (t.r 2), .int .i64 (t.r 3), .int .i64 (t.m 0), .int .i64 (t.m 1), .int .i64 (t.m 2), .int .i64 (t.m 3), .int .i64 (t.m 4), .int .i64 (t.m 5), .int .i64 (t.m 6), .int .i64 (t.m 7)] 60) none))
      generalize hW : w1.alloc (.cells #[.int .i64 t.at', .int .i64 (t.r 0), .int .i64 (t.r 1), .int .i64 (t.r 2), .int .i64 (t.r 3), .int .i64 (t.m 0), .int .i64 (t.m 1), .int .i64 (t.m 2), .int .i64 (t.m 3), .int .i64 (t.m 4), .int .i64 (t.m 5), .int .i64 (t.m 6), .int .i64 (t.m 7)] 60) = W2 at *
      clear hb1 hr1 ho1 hl1 hW
      have x0 := HB.out.look 0; have x1 := HB.out.look 1; have x2 := HB.out.look 2; have x3 := HB.out.look 3; have x4 := HB.out.look 4; have x5 := HB.out.look 5; have x6 := HB.out.look 6; have x7 := HB.out.look 7; have x8 := HB.out.look 8; have x9 := HB.out.look 9; have x10 := HB.out.look 10; have x11 := HB.out.look 11; have x12 := HB.out.look 12
      simp [stC] at x0 x1 x2 x3 x4 x5 x6 x7 x8 x9 x10 x11 x12
      have z0 := HR.out.look 0; have t0 := HR.out.free 0; have z1 := HR.out.look 1; have t1 := HR.out.free 1; have z2 := HR.out.look 2; have t2 := HR.out.free 2; have z3 := HR.out.look 3; have t3 := HR.out.free 3; have z4 := HR.out.look 4; have t4 := HR.out.free 4; have z5 := HR.out.look 5; have t5 := HR.out.free 5; have z6 := HR.out.look 6; have t6 := HR.out.free 6; have z7 := HR.out.look 7; have t7 := HR.out.free 7; have z8 := HR.out.look 8; have t8 := HR.out.free 8; have z9 := HR.out.look 9; have t9 := HR.out.free 9; have z10 := HR.out.look 10; have t10 := HR.out.free 10; have z11 := HR.out.look 11; have t11 := HR.out.free 11; have z12 := HR.out.look 12; have t12 := HR.out.free 12
      simp at z0 z1 z2 z3 z4 z5 z6 z7 z8 z9 z10 z11 z12
      go_upto_region 4 with (fail)
      go_region
      have hp := put13 W2 (w.heap.size + 1) (sN F s k) HR.out
      obtain ⟨W3, hW3⟩ : ∃ W3, (((((((((((((W2.setCell ⟨(w.heap.size + 1), 0, none⟩ (.int .i64 (sN F s k).at')).setCell ⟨(w.heap.size + 1), 1, none⟩ (.int .i64 ((sN F s k).r 0))).setCell ⟨(w.heap.size + 1), 2, none⟩ (.int .i64 ((sN F s k).r 1))).setCell ⟨(w.heap.size + 1), 3, none⟩ (.int .i64 ((sN F s k).r 2))).setCell ⟨(w.heap.size + 1), 4, none⟩ (.int .i64 ((sN F s k).r 3))).setCell ⟨(w.heap.size + 1), 5, none⟩ (.int .i64 ((sN F s k).m 0))).setCell ⟨(w.heap.size + 1), 6, none⟩ (.int .i64 ((sN F s k).m 1))).setCell ⟨(w.heap.size + 1), 7, none⟩ (.int .i64 ((sN F s k).m 2))).setCell ⟨(w.heap.size + 1), 8, none⟩ (.int .i64 ((sN F s k).m 3))).setCell ⟨(w.heap.size + 1), 9, none⟩ (.int .i64 ((sN F s k).m 4))).setCell ⟨(w.heap.size + 1), 10, none⟩ (.int .i64 ((sN F s k).m 5))).setCell ⟨(w.heap.size + 1), 11, none⟩ (.int .i64 ((sN F s k).m 6))).setCell ⟨(w.heap.size + 1), 12, none⟩ (.int .i64 ((sN F s k).m 7))) = W3 := ⟨_, rfl⟩
      rw [hW3] at hp ⊢
      obtain ⟨hp1, hp2⟩ := hp
      have HP := shade hp1
      have HGF := shade (grown_then HL.out hp2 (by omega))
      have HFI := shade ((OwnS.shape HO.out))
      have HP2 := shade hp2
      clear hp1 hp2 hW3
      go_wp2_with fail
      have hP := HP.out
      have q0 := hP.look 0; have q1 := hP.look 1; have q2 := hP.look 2; have q3 := hP.look 3; have q4 := hP.look 4; have q5 := hP.look 5; have q6 := hP.look 6; have q7 := hP.look 7; have q8 := hP.look 8; have q9 := hP.look 9; have q10 := hP.look 10; have q11 := hP.look 11; have q12 := hP.look 12
      simp [stC] at q0 q1 q2 q3 q4 q5 q6 q7 q8 q9 q10 q11 q12
      obtain ⟨A2, c2, e2, hst, hsep⟩ := HFI.out
      injection e2 with e2 _ e3
      subst e2
      subst e3
      refine bodyPost_ret (v := .tuple #[.slice A1 k c1, StV (sN F s k), .bool true]) (by simp [results, Tryd.results46, go_sem, q0, q1, q2, q3, q4, q5, q6, q7, q8, q9, q10, q11, q12]) rfl ⟨k, A1, c1, ⟨hk, HGO.out, .inr HH.out⟩, by rw [HH.out], ?_, ?_, grown_same HGF.out (grown_drew1 _)⟩
      · refine (hst.grown HP2.out ?_).on (grown_drew1 _)
        intro b off e e'
        injection e' with e'
        have := hsep b off e
        omega
      · intro b off e
        have := hsep b off e
        have := HP2.out.size
        exact ⟨by omega, by show b < W3.heap.size; omega⟩

end Go.Proofs.YtcfnoihjpiklhaaDoor
