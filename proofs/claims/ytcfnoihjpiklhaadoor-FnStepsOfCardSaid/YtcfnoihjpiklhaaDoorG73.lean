/- A step at the program's end and at hlt, and the model's 'halted'. StepMachine: what it answers, for every program and machine whose cells can be read. StepMachine, put together: it answers as stepB, stAt, stRegs and stMem say. -/
import Derived.Test.YtcfnoihjpiklhaaDoorW70
import Derived.Test.YtcfnoihjpiklhaaDoorW71
namespace Go.Proofs.YtcfnoihjpiklhaaDoor
open Go.RowKit
set_option linter.unusedSimpArgs false
set_option maxHeartbeats 4000000 in
theorem step_end (A : Option Addr) (len cap m : Nat) (f1 f2 : Nat → Int) (w : World) (hm : len ≤ m) (_hm2 : m ≤ 40) :
    Calls Tryd.prog 47 #[.slice A len cap, SV m f1 f2] w fun e w' => e = .returned (.tuple #[SV 0 (fun _ => 0) (fun _ => 0), .bool false]) ∧ w.grownBy w' none := by
  go_enter Tryd.func47, Tryd.ntmps47
  go_wp2
  refine bodyPost_ret (v := .tuple #[SV 0 (fun _ => 0) (fun _ => 0), .bool false]) (by simp [results, Tryd.results47, go_sem]) rfl ⟨rfl, ?_⟩
  exact grown_same (World.grownBy_alloc _ _ _) (World.grownBy_alloc _ _ _)
set_option maxHeartbeats 2000000 in
theorem halted_end (A : Option Addr) (len cap m : Nat) (w : World) (hm : len ≤ m) :
    Calls Tryd.prog 52 #[.slice A len cap, .int .i64 m] w fun e w' => e = .returned (.bool true) ∧ w = w' := by
  go_enter Tryd.func52, Tryd.ntmps52
  go_wp2
  go_ret
  exact ⟨rfl, rfl⟩
set_option maxHeartbeats 2000000 in
theorem halted_in (b off len cap m : Nat) (F : Nat → Ins) (w : World) (hC : Code w (some ⟨b, off, none⟩) len F) (hm : m < len) (_hl : len ≤ 40) :
    Calls Tryd.prog 52 #[.slice (some ⟨b, off, none⟩) len cap, .int .i64 m] w fun e w' => e = .returned (.bool ((F m).op.toList == [104, 108, 116])) ∧ w = w' := by
  obtain ⟨q0, _, _, _, _⟩ := hC.five hm
  clear hC
  generalize (F m).op = op at *
  have hm3 : ¬ len ≤ m := by omega
  go_enter Tryd.func52, Tryd.ntmps52
  go_wp2
  go_ret
  exact ⟨rfl, rfl⟩


set_option maxRecDepth 100000 in
set_option maxHeartbeats 8000000 in
theorem step_9 (b off len cap m rd ra rb : Nat) (k : Int) (op : ByteArray) (F : Nat → Ins) (f1 f2 : Nat → Int) (w : World) (hg : WT w) (hC : Code w (some ⟨b, off, none⟩) len F) (hm : m < len) (hlen : len ≤ 40) (hF : F m = ⟨op, rd, ra, rb, k⟩) (hw : wordN op.toList = 9)
    (_hd : rd < 4) (ha : ra < 4) (hb : rb < 4) (k0 : 0 ≤ k) (k1 : k ≤ 255) (ok1 : ∀ j, j < 4 → 0 ≤ f1 j ∧ f1 j ≤ 255) :
    Calls Tryd.prog 47 #[.slice (some ⟨b, off, none⟩) len cap, SV m f1 f2] w fun e w' => e = .returned (.tuple #[SV 0 (fun _ => 0) (fun _ => 0), .bool false]) ∧ w.grownBy w' none := by
  obtain ⟨W0, hW0⟩ : ∃ W0, (w.alloc (.cells #[.int .i64 m, .int .i64 (f1 0), .int .i64 (f1 1), .int .i64 (f1 2), .int .i64 (f1 3), .int .i64 (f2 0), .int .i64 (f2 1), .int .i64 (f2 2), .int .i64 (f2 3), .int .i64 (f2 4), .int .i64 (f2 5), .int .i64 (f2 6), .int .i64 (f2 7)] 60)).alloc (.cells #[.int .i64 0, .int .i64 0, .int .i64 0, .int .i64 0, .int .i64 0, .int .i64 0, .int .i64 0, .int .i64 0, .int .i64 0, .int .i64 0, .int .i64 0, .int .i64 0, .int .i64 0] 60) = W0 := ⟨_, rfl⟩
  have e1 : Holds5 W0 w.heap.size 60 (stC m f1 f2) := by
    rw [← hW0]
    exact (Holds5.fresh w 60 #[.int .i64 m, .int .i64 (f1 0), .int .i64 (f1 1), .int .i64 (f1 2), .int .i64 (f1 3), .int .i64 (f2 0), .int .i64 (f2 1), .int .i64 (f2 2), .int .i64 (f2 3), .int .i64 (f2 4), .int .i64 (f2 5), .int .i64 (f2 6), .int .i64 (f2 7)]).alloc _
  have e2 : Holds5 W0 (w.heap.size + 1) 60 #[.int .i64 0, .int .i64 0, .int .i64 0, .int .i64 0, .int .i64 0, .int .i64 0, .int .i64 0, .int .i64 0, .int .i64 0, .int .i64 0, .int .i64 0, .int .i64 0, .int .i64 0] := by
    rw [← hW0]
    have := Holds5.fresh (w.alloc (.cells #[.int .i64 m, .int .i64 (f1 0), .int .i64 (f1 1), .int .i64 (f1 2), .int .i64 (f1 3), .int .i64 (f2 0), .int .i64 (f2 1), .int .i64 (f2 2), .int .i64 (f2 3), .int .i64 (f2 4), .int .i64 (f2 5), .int .i64 (f2 6), .int .i64 (f2 7)] 60)) 60 #[.int .i64 0, .int .i64 0, .int .i64 0, .int .i64 0, .int .i64 0, .int .i64 0, .int .i64 0, .int .i64 0, .int .i64 0, .int .i64 0, .int .i64 0, .int .i64 0, .int .i64 0]
    rwa [World.size_alloc] at this
  have e3 : w.grownBy W0 none := by
    rw [← hW0]
    exact grown_same (World.grownBy_alloc _ _ _) (World.grownBy_alloc _ _ _)
  have hz : W0.heap.size = w.heap.size + 2 := by
    rw [← hW0, World.size_alloc, World.size_alloc]
  obtain ⟨q0, q1, q2, q3, q4⟩ := (hC.on e3).five hm
  rw [hF] at q0 q1 q2 q3 q4
  simp only [] at q0 q1 q2 q3 q4
  have hk0 := k0; have hk1 := k1
  obtain ⟨a0, a1⟩ := ok1 ra ha
  obtain ⟨b0, b1⟩ := ok1 rb hb
  have HG := shade (hg.below (below_of_grown e3) (wt_lt hg))
  have x0 := e1.look 0
  simp [stC] at x0
  have HW0 := shade hW0
  have E1 := shade e1; have E2 := shade e2; have E3 := shade e3; have HWd := shade hw; have HGL := shade (show 0 < w.heap.size from wt_lt hg)
  clear e1 e2 e3 hW0 hg hC hF hw ok1
  go_enter Tryd.func47, Tryd.ntmps47
  go_upto_region 1 with (fail)
  rw [HW0.out]
  clear HW0
  go_upto_region 4 with (fail)
  have e1 := E1.out.alloc (.cells #[.string op, .int .i64 rd, .int .i64 ra, .int .i64 rb, .int .i64 k] 37)
  have e2 := E2.out.alloc (.cells #[.string op, .int .i64 rd, .int .i64 ra, .int .i64 rb, .int .i64 k] 37)
  have e3 := grown_same E3.out (World.grownBy_alloc W0 (.cells #[.string op, .int .i64 rd, .int .i64 ra, .int .i64 rb, .int .i64 k] 37) none)
  have e4 := Holds5.fresh W0 37 #[.string op, .int .i64 rd, .int .i64 ra, .int .i64 rb, .int .i64 k]
  have hg1 := HG.out.alloc (.cells #[.string op, .int .i64 rd, .int .i64 ra, .int .i64 rb, .int .i64 k] 37)
  generalize W0.alloc (.cells #[.string op, .int .i64 rd, .int .i64 ra, .int .i64 rb, .int .i64 k] 37) = W1 at *
  clear E1 E2 E3 HG q0 q1 q2 q3 q4 x0
  rw [hz] at e4
  try simp only [hz]
  have x0 := e1.look 0; have xa := e1.look (1 + ra); have xb := e1.look (1 + rb); have xd := e1.look (1 + rd)
  rw [stC_get1 _ _ _ _ ha] at xa
  rw [stC_get1 _ _ _ _ hb] at xb
  rw [stC_get1 _ _ _ _ _hd] at xd
  have y0 := e4.look 0; have y1 := e4.look 1; have y2 := e4.look 2; have y3 := e4.look 3; have y4 := e4.look 4
  simp at y0 y1 y2 y3 y4
  simp [stC] at x0
  have xf := e1.free 0
  have E1 := shade e1; have E2 := shade e2; have E3 := shade e3; have E4 := shade e4; have HG := shade hg1
  clear e1 e2 e3 e4 hg1 hz
  go_quiet (fail)
  go_upto_region 6 with (fail)
  have e1 := (E1.out.put 0 (.int .i64 ((m : Int) + 1)))
  have e2 := E2.out.far (r := w.heap.size) (by omega) 0 (.int .i64 ((m : Int) + 1))
  have e3 := grown_put E3.out (r := w.heap.size) (Nat.le_refl _) 0 (.int .i64 ((m : Int) + 1))
  have e4 := E4.out.far (r := w.heap.size) (by omega) 0 (.int .i64 ((m : Int) + 1))
  have hg1 := HG.out.far0 w.heap.size 0 (.int .i64 ((m : Int) + 1)) HGL.out
  replace e1 := e1.drewN nq
  replace e2 := e2.drewN nq
  replace e4 := e4.drewN nq
  replace e3 := grown_drewN e3 nq
  replace hg1 := hg1.drewN nq
  change Holds5 ((W1.drewN nq).setCell ⟨w.heap.size, 0, none⟩ (.int .i64 ((m : Int) + 1))) w.heap.size 60 (stC ((m : Int) + 1) f1 f2) at e1
  change Holds5 ((W1.drewN nq).setCell ⟨w.heap.size, 0, none⟩ (.int .i64 ((m : Int) + 1))) _ _ _ at e2
  change Holds5 ((W1.drewN nq).setCell ⟨w.heap.size, 0, none⟩ (.int .i64 ((m : Int) + 1))) _ _ _ at e4
  change w.grownBy ((W1.drewN nq).setCell ⟨w.heap.size, 0, none⟩ (.int .i64 ((m : Int) + 1))) none at e3
  change WT ((W1.drewN nq).setCell ⟨w.heap.size, 0, none⟩ (.int .i64 ((m : Int) + 1))) at hg1
  generalize (W1.drewN nq).setCell ⟨w.heap.size, 0, none⟩ (.int .i64 ((m : Int) + 1)) = W2 at *
  clear E1 E2 E3 E4 HG x0 xa xb xd y0 y1 y2 y3 y4 xf
  have x0 := e1.look 0; have xa := e1.look (1 + ra); have xb := e1.look (1 + rb); have xd := e1.look (1 + rd)
  rw [stC_get1 _ _ _ _ ha] at xa
  rw [stC_get1 _ _ _ _ hb] at xb
  rw [stC_get1 _ _ _ _ _hd] at xd
  have y0 := e4.look 0; have y1 := e4.look 1; have y2 := e4.look 2; have y3 := e4.look 3; have y4 := e4.look 4
  simp at y0 y1 y2 y3 y4
  simp [stC] at x0
  have xf := e1.free 0; have xg := e1.free (1 + rd)
  have E1 := shade e1; have E2 := shade e2; have E3 := shade e3; have E4 := shade e4; have HG := shade hg1
  clear e1 e2 e3 e4 hg1
  have z0 := E2.out.look 0; have t0 := E2.out.free 0; have z1 := E2.out.look 1; have t1 := E2.out.free 1; have z2 := E2.out.look 2; have t2 := E2.out.free 2; have z3 := E2.out.look 3; have t3 := E2.out.free 3; have z4 := E2.out.look 4; have t4 := E2.out.free 4; have z5 := E2.out.look 5; have t5 := E2.out.free 5; have z6 := E2.out.look 6; have t6 := E2.out.free 6; have z7 := E2.out.look 7; have t7 := E2.out.free 7; have z8 := E2.out.look 8; have t8 := E2.out.free 8; have z9 := E2.out.look 9; have t9 := E2.out.free 9; have z10 := E2.out.look 10; have t10 := E2.out.free 10; have z11 := E2.out.look 11; have t11 := E2.out.free 11; have z12 := E2.out.look 12; have t12 := E2.out.free 12
  simp at z0 z1 z2 z3 z4 z5 z6 z7 z8 z9 z10 z11 z12
  have hP := (((((((((((((E2.out.put 0 (.int .i64 0)).put 1 (.int .i64 0)).put 2 (.int .i64 0)).put 3 (.int .i64 0)).put 4 (.int .i64 0)).put 5 (.int .i64 0)).put 6 (.int .i64 0)).put 7 (.int .i64 0)).put 8 (.int .i64 0)).put 9 (.int .i64 0)).put 10 (.int .i64 0)).put 11 (.int .i64 0)).put 12 (.int .i64 0))
  have hG := (grown_put (r := w.heap.size + 1) (grown_put (r := w.heap.size + 1) (grown_put (r := w.heap.size + 1) (grown_put (r := w.heap.size + 1) (grown_put (r := w.heap.size + 1) (grown_put (r := w.heap.size + 1) (grown_put (r := w.heap.size + 1) (grown_put (r := w.heap.size + 1) (grown_put (r := w.heap.size + 1) (grown_put (r := w.heap.size + 1) (grown_put (r := w.heap.size + 1) (grown_put (r := w.heap.size + 1) (grown_put (r := w.heap.size + 1) E3.out (by omega) 0 (.int .i64 0)) (by omega) 1 (.int .i64 0)) (by omega) 2 (.int .i64 0)) (by omega) 3 (.int .i64 0)) (by omega) 4 (.int .i64 0)) (by omega) 5 (.int .i64 0)) (by omega) 6 (.int .i64 0)) (by omega) 7 (.int .i64 0)) (by omega) 8 (.int .i64 0)) (by omega) 9 (.int .i64 0)) (by omega) 10 (.int .i64 0)) (by omega) 11 (.int .i64 0)) (by omega) 12 (.int .i64 0))
  simp at hP
  have HP := shade hP
  have HGF := shade hG
  clear hP hG
  go_wp2_with (first | (go_at_call 29; refine (wordOf_any _ _ HG.out).mono ?_; rw [HWd.out]; rintro e w' ⟨rfl, rfl⟩))
  have hP := HP.out
  have q0 := hP.look 0; have q1 := hP.look 1; have q2 := hP.look 2; have q3 := hP.look 3; have q4 := hP.look 4; have q5 := hP.look 5; have q6 := hP.look 6; have q7 := hP.look 7; have q8 := hP.look 8; have q9 := hP.look 9; have q10 := hP.look 10; have q11 := hP.look 11; have q12 := hP.look 12
  simp at q0 q1 q2 q3 q4 q5 q6 q7 q8 q9 q10 q11 q12
  refine bodyPost_ret (v := .tuple #[SV 0 (fun _ => 0) (fun _ => 0), .bool false]) (by simp [results, Tryd.results47, go_sem, q0, q1, q2, q3, q4, q5, q6, q7, q8, q9, q10, q11, q12]) rfl ⟨rfl, HGF.out⟩

end Go.Proofs.YtcfnoihjpiklhaaDoor

namespace Go.Proofs.YtcfnoihjpiklhaaDoor
open Go.RowKit
set_option linter.unusedSimpArgs false
theorem step_any (n : Nat) (hn : n ≤ 8) (b off len cap m rd ra rb : Nat) (k : Int) (op : ByteArray) (F : Nat → Ins) (f1 f2 : Nat → Int) (w : World) (hg : WT w) (hC : Code w (some ⟨b, off, none⟩) len F) (hm : m < len) (hlen : len ≤ 40) (hF : F m = ⟨op, rd, ra, rb, k⟩) (hw : wordN op.toList = n)
    (hd : rd < 4) (ha : ra < 4) (hb : rb < 4) (k0 : 0 ≤ k) (k1 : k ≤ 255) (ok1 : ∀ j, j < 4 → 0 ≤ f1 j ∧ f1 j ≤ 255) :
    Calls Tryd.prog 47 #[.slice (some ⟨b, off, none⟩) len cap, SV m f1 f2] w fun e w' => e = .returned (.tuple #[SV (stepAt n m ra k f1) (stepRegs n rd ra rb k f1 f2) (stepMem n rd ra k f1 f2), .bool true]) ∧ w.grownBy w' none := by
  match n, hn, hw with
  | 0, _, hw => exact step_0 b off len cap m rd ra rb k op F f1 f2 w hg hC hm hlen hF hw hd ha hb k0 k1 ok1
  | 1, _, hw => exact step_1 b off len cap m rd ra rb k op F f1 f2 w hg hC hm hlen hF hw hd ha hb k0 k1 ok1
  | 2, _, hw => exact step_2 b off len cap m rd ra rb k op F f1 f2 w hg hC hm hlen hF hw hd ha hb k0 k1 ok1
  | 3, _, hw => exact step_3 b off len cap m rd ra rb k op F f1 f2 w hg hC hm hlen hF hw hd ha hb k0 k1 ok1
  | 4, _, hw => exact step_4 b off len cap m rd ra rb k op F f1 f2 w hg hC hm hlen hF hw hd ha hb k0 k1 ok1
  | 5, _, hw => exact step_5 b off len cap m rd ra rb k op F f1 f2 w hg hC hm hlen hF hw hd ha hb k0 k1 ok1
  | 6, _, hw => exact step_6 b off len cap m rd ra rb k op F f1 f2 w hg hC hm hlen hF hw hd ha hb k0 k1 ok1
  | 7, _, hw => exact step_7 b off len cap m rd ra rb k op F f1 f2 w hg hC hm hlen hF hw hd ha hb k0 k1 ok1
  | 8, _, hw => exact step_8 b off len cap m rd ra rb k op F f1 f2 w hg hC hm hlen hF hw hd ha hb k0 k1 ok1
theorem okL_bounds {n : Nat} {f : Nat → Int} (h : okL n f = true) : ∀ j, j < n → 0 ≤ f j ∧ f j ≤ 255 := by
  intro j hj
  have := okL_iff.1 h j hj
  simpa [inRB] using this
theorem SV_self (at' : Int) (f1 f2 : Nat → Int) (h1 : okL 4 f1 = true) (h2 : okL 8 f2 = true) : SV at' (fun j => f1 j % 256) (fun j => f2 j % 256) = SV at' f1 f2 := by
  have e1 : ∀ j, j < 4 → f1 j % 256 = f1 j := fun j hj => by
    have := okL_bounds h1 j hj
    omega
  have e2 : ∀ j, j < 8 → f2 j % 256 = f2 j := fun j hj => by
    have := okL_bounds h2 j hj
    omega
  exact congrArg Value.agg (stC_congr at' (fun j => f1 j % 256) (fun j => f2 j % 256) f1 f2 e1 e2)
/-- Does the program halt there? -/
def haltB (len : Nat) (F : Nat → Ins) (m : Nat) : Bool := decide (len ≤ m) || ((F m).op.toList == [104, 108, 116])
/-- What a step that is not there leaves. -/
def NoStep (w : World) (e : Ending) (w' : World) : Prop := e = .returned (.tuple #[MV 0 none 0 0 none 0 0, .bool false]) ∧ w.grownBy w' none
/-- What a step leaves. -/
def YesStep (w : World) (at2 : Int) (g1 g2 : Nat → Int) (e : Ending) (w' : World) : Prop :=
  ∃ r1 c1 r2 c2, e = .returned (.tuple #[MV at2 (some ⟨r1, 0, none⟩) 4 c1 (some ⟨r2, 0, none⟩) 8 c2, .bool true]) ∧ r1 ≠ r2 ∧ Own w' w.heap.size (some ⟨r1, 0, none⟩) 4 c1 g1 ∧ Own w' w.heap.size (some ⟨r2, 0, none⟩) 8 c2 g2 ∧ w.grownBy w' none


theorem Nums.on {w w' : World} {A : Option Addr} {n : Nat} {f : Nat → Int} (h : Nums w A n f) (hg : w.grownBy w' none) : Nums w' A n f := h.grown hg (by intro _ _ _ e; cases e)
end Go.Proofs.YtcfnoihjpiklhaaDoor

namespace Go.Proofs.YtcfnoihjpiklhaaDoor
open Go.RowKit
def nOf (F : Nat → Ins) (at' : Int) : Nat := (wordN (F at'.toNat).op.toList).toNat
def rdOf (F : Nat → Ins) (at' : Int) : Nat := (F at'.toNat).d.toNat
def raOf (F : Nat → Ins) (at' : Int) : Nat := (F at'.toNat).a.toNat
def rbOf (F : Nat → Ins) (at' : Int) : Nat := (F at'.toNat).b.toNat
def kOf (F : Nat → Ins) (at' : Int) : Int := (F at'.toNat).k
/-- Is there a step? -/
def stepB (len : Nat) (F : Nat → Ins) (at' : Int) (n1 n2 : Nat) (f1 f2 : Nat → Int) : Bool := vcB len F && vmB at' n1 n2 f1 f2 && !haltB len F at'.toNat
def stAt (F : Nat → Ins) (at' : Int) (f1 : Nat → Int) : Int := stepAt (nOf F at') at'.toNat (raOf F at') (kOf F at') f1
def stRegs (F : Nat → Ins) (at' : Int) (f1 f2 : Nat → Int) : Nat → Int := stepRegs (nOf F at') (rdOf F at') (raOf F at') (rbOf F at') (kOf F at') f1 f2
def stMem (F : Nat → Ins) (at' : Int) (f1 f2 : Nat → Int) : Nat → Int := stepMem (nOf F at') (rdOf F at') (raOf F at') (kOf F at') f1 f2
theorem vmB_parts {at' : Int} {n1 n2 : Nat} {f1 f2 : Nat → Int} (h : vmB at' n1 n2 f1 f2 = true) : (0 ≤ at' ∧ at' ≤ 40) ∧ n1 = 4 ∧ n2 = 8 ∧ okL n1 f1 = true ∧ okL n2 f2 = true := by
  simp only [vmB, inRB, Bool.and_eq_true, decide_eq_true_eq] at h
  exact ⟨h.1.1, h.1.2.2, h.2.2, h.1.2.1, h.2.1⟩
/-- What is known of the instruction where a valid program is. -/
theorem ins_parts {len : Nat} {F : Nat → Ins} {at' : Int} (hv : vcB len F = true) (hm : at'.toNat < len) :
    len ≤ 40 ∧ (rdOf F at' < 4 ∧ raOf F at' < 4 ∧ rbOf F at' < 4) ∧ (0 ≤ kOf F at' ∧ kOf F at' ≤ 255) ∧ wordN (F at'.toNat).op.toList = nOf F at' ∧ nOf F at' ≤ 9 ∧ F at'.toNat = ⟨(F at'.toNat).op, rdOf F at', raOf F at', rbOf F at', kOf F at'⟩ := by
  have h40 : len ≤ 40 := by
    simp only [vcB, Bool.and_eq_true, decide_eq_true_eq] at hv
    exact hv.2
  obtain ⟨⟨n0, n1⟩, ⟨d0, d1⟩, ⟨a0, a1⟩, ⟨b0, b1⟩, ⟨k0, k1⟩⟩ := VI_bounds (vB_true.1 (okI_vB (vcB_ok hv at'.toNat hm)))
  refine ⟨h40, ⟨by unfold rdOf; omega, by unfold raOf; omega, by unfold rbOf; omega⟩, ⟨k0, k1⟩, by unfold nOf; omega, by unfold nOf; omega, ?_⟩
  unfold rdOf raOf rbOf kOf
  rw [Int.toNat_of_nonneg d0, Int.toNat_of_nonneg a0, Int.toNat_of_nonneg b0]
theorem hlt_word (l : List UInt8) : (l == [104, 108, 116]) = true ↔ wordN l = 9 := by
  rw [beq_iff_eq]
  constructor
  · intro h
    rw [h]
    exact wordN_at9
  · intro h
    rcases word_is l 9 (by omega) h with h | h | h | h | h | h | h | h | h | h
    all_goals first
      | exact absurd h.1 (by omega)
      | exact (beq_iff_eq.1 h.2).symm
end Go.Proofs.YtcfnoihjpiklhaaDoor
