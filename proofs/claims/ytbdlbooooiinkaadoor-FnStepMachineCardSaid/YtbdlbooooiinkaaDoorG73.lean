/- A step at the program's end and at hlt, and the model's 'halted'. StepMachine: what it answers, for every program and machine whose cells can be read. StepMachine, put together: it answers as stepB, stAt, stRegs and stMem say. -/
import Derived.Test.YtbdlbooooiinkaaDoorW70
import Derived.Test.YtbdlbooooiinkaaDoorW71
namespace Go.Proofs.YtbdlbooooiinkaaDoor
open Go.RowKit
set_option linter.unusedSimpArgs false
set_option maxHeartbeats 4000000 in
theorem step_end (A : Option Addr) (len cap m : Nat) (f1 f2 : Nat → Int) (w : World) (hm : len ≤ m) (_hm2 : m ≤ 40) :
    Calls Tryd.prog 39 #[.slice A len cap, SV m f1 f2] w fun e w' => e = .returned (.tuple #[SV 0 (fun _ => 0) (fun _ => 0), .bool false]) ∧ w.grownBy w' none := by
  go_enter Tryd.func39, Tryd.ntmps39
  go_wp2
  refine bodyPost_ret (v := .tuple #[SV 0 (fun _ => 0) (fun _ => 0), .bool false]) (by simp [results, Tryd.results39, go_sem]) rfl ⟨rfl, ?_⟩
  exact grown_same (World.grownBy_alloc _ _ _) (World.grownBy_alloc _ _ _)
set_option maxHeartbeats 2000000 in
theorem halted_end (A : Option Addr) (len cap m : Nat) (w : World) (hm : len ≤ m) :
    Calls Tryd.prog 44 #[.slice A len cap, .int .i64 m] w fun e w' => e = .returned (.bool true) ∧ w = w' := by
  go_enter Tryd.func44, Tryd.ntmps44
  go_wp2
  go_ret
  exact ⟨rfl, rfl⟩
set_option maxHeartbeats 2000000 in
theorem halted_in (b off len cap m : Nat) (F : Nat → Ins) (w : World) (hC : Code w (some ⟨b, off, none⟩) len F) (hm : m < len) (_hl : len ≤ 40) :
    Calls Tryd.prog 44 #[.slice (some ⟨b, off, none⟩) len cap, .int .i64 m] w fun e w' => e = .returned (.bool ((F m).op.toList == [104, 108, 116])) ∧ w = w' := by
  obtain ⟨q0, _, _, _, _⟩ := hC.five hm
  clear hC
  generalize (F m).op = op at *
  have hm3 : ¬ len ≤ m := by omega
  go_enter Tryd.func44, Tryd.ntmps44
  go_wp2
  go_ret
  exact ⟨rfl, rfl⟩


set_option maxRecDepth 100000 in
set_option maxHeartbeats 8000000 in
theorem step_9 (b off len cap m rd ra rb : Nat) (k : Int) (op : ByteArray) (F : Nat → Ins) (f1 f2 : Nat → Int) (w : World) (hg : WT w) (hC : Code w (some ⟨b, off, none⟩) len F) (hm : m < len) (hlen : len ≤ 40) (hF : F m = ⟨op, rd, ra, rb, k⟩) (hw : wordN op.toList = 9)
    (_hd : rd < 4) (ha : ra < 4) (hb : rb < 4) (k0 : 0 ≤ k) (k1 : k ≤ 255) (ok1 : ∀ j, j < 4 → 0 ≤ f1 j ∧ f1 j ≤ 255) :
    Calls Tryd.prog 39 #[.slice (some ⟨b, off, none⟩) len cap, SV m f1 f2] w fun e w' => e = .returned (.tuple #[SV 0 (fun _ => 0) (fun _ => 0), .bool false]) ∧ w.grownBy w' none := by
  obtain ⟨W0, hW0⟩ : ∃ W0, (w.alloc (.cells #[.int .i64 m, .int .i64 (f1 0), .int .i64 (f1 1), .int .i64 (f1 2), .int .i64 (f1 3), .int .i64 (f2 0), .int .i64 (f2 1), .int .i64 (f2 2), .int .i64 (f2 3), .int .i64 (f2 4), .int .i64 (f2 5), .int .i64 (f2 6), .int .i64 (f2 7)] 64)).alloc (.cells #[.int .i64 0, .int .i64 0, .int .i64 0, .int .i64 0, .int .i64 0, .int .i64 0, .int .i64 0, .int .i64 0, .int .i64 0, .int .i64 0, .int .i64 0, .int .i64 0, .int .i64 0] 64) = W0 := ⟨_, rfl⟩
  have e1 : Holds5 W0 w.heap.size 64 (stC m f1 f2) := by
    rw [← hW0]
    exact (Holds5.fresh w 64 #[.int .i64 m, .int .i64 (f1 0), .int .i64 (f1 1), .int .i64 (f1 2), .int .i64 (f1 3), .int .i64 (f2 0), .int .i64 (f2 1), .int .i64 (f2 2), .int .i64 (f2 3), .int .i64 (f2 4), .int .i64 (f2 5), .int .i64 (f2 6), .int .i64 (f2 7)]).alloc _
  have e2 : Holds5 W0 (w.heap.size + 1) 64 #[.int .i64 0, .int .i64 0, .int .i64 0, .int .i64 0, .int .i64 0, .int .i64 0, .int .i64 0, .int .i64 0, .int .i64 0, .int .i64 0, .int .i64 0, .int .i64 0, .int .i64 0] := by
    rw [← hW0]
    have := Holds5.fresh (w.alloc (.cells #[.int .i64 m, .int .i64 (f1 0), .int .i64 (f1 1), .int .i64 (f1 2), .int .i64 (f1 3), .int .i64 (f2 0), .int .i64 (f2 1), .int .i64 (f2 2), .int .i64 (f2 3), .int .i64 (f2 4), .int .i64 (f2 5), .int .i64 (f2 6), .int .i64 (f2 7)] 64)) 64 #[.int .i64 0, .int .i64 0, .int .i64 0, .int .i64 0, .int .i64 0, .int .i64 0, .int .i64 0, .int .i64 0, .int .i64 0, .int .i64 0, .int .i64 0, .int .i64 0, .int .i64 0]
    rwa [World.size_alloc] at this
  have e3 : w.grownBy W0 none := by
    rw [← hW0]
    exact grown_same (World.grownBy_alloc _ _ _) (World.grownBy_alloc _ _ _)
  have hz : W0.heap.size = w.heap.size + 2 := by
    rw [← hW0, World.size_alloc, World.size_alloc]
  obtain ⟨q0, q1, q2, q3, q4⟩ := (hC.on e3).five hm
  rw [hF] at q0 q1 q2 q3 q4
  simp only [] at q0 q1 q2 q3 q4
  have hk0 := k0; have hk1 := k1
  obtain ⟨a0, a1⟩ := ok1 ra ha
  obtain ⟨b0, b1⟩ := ok1 rb hb
  have HG := shade (hg.below (below_of_grown e3) (wt_lt hg))
  have x0 := e1.look 0
  simp [stC] at x0
  have HW0 := shade hW0
  have E1 := shade e1; have E2 := shade e2; have E3 := shade e3; have HWd := shade hw; have HGL := shade (show 0 < w.heap.size from wt_lt hg)
  clear e1 e2 e3 hW0 hg hC hF hw ok1
  go_enter Tryd.func39, Tryd.ntmps39
  go_upto_region 1 with (fail)
  rw [HW0.out]
  clear HW0
  go_upto_region 4 with (fail)
  have e1 := E1.out.alloc (.cells #[.string op, .int .i64 rd, .int .i64 ra, .int .i64 rb, .int .i64 k] 86)
  have e2 := E2.out.alloc (.cells #[.string op, .int .i64 rd, .int .i64 ra, .int .i64 rb, .int .i64 k] 86)
  have e3 := grown_same E3.out (World.grownBy_alloc W0 (.cells #[.string op, .int .i64 rd, .int .i64 ra, .int .i64 rb, .int .i64 k] 86) none)
  have e4 := Holds5.fresh W0 86 #[.string op, .int .i64 rd, .int .i64 ra, .int .i64 rb, .int .i64 k]
  have hg1 := HG.out.alloc (.cells #[.string op, .int .i64 rd, .int .i64 ra, .int .i64 rb, .int .i64 k] 86)
  generalize W0.alloc (.cells #[.string op, .int .i64 rd, .int .i64 ra, .int .i64 rb, .int .i64 k] 86) = W1 at *
  clear E1 E2 E3 HG q0 q1 q2 q3 q4 x0
  rw [hz] at e4
  try simp only [hz]
  have x0 := e1.look 0; have xa := e1.look (1 + ra); have xb := e1.look (1 + rb); have xd := e1.look (1 + rd)
  rw [stC_get1 _ _ _ _ ha] at xa
  rw [stC_get1 _ _ _ _ hb] at xb
  rw [stC_get1 _ _ _ _ _hd] at xd
  have y0 := e4.look 0; have y1 := e4.look 1; have y2 := e4.look 2; have y3 := e4.look 3; have y4 := e4.look 4
  simp at y0 y1 y2 y3 y4
  simp [stC] at x0
  have xf := e1.free 0
  have E1 := shade e1; have E2 := shade e2; have E3 := shade e3; have E4 := shade e4; have HG := shade hg1
  clear e1 e2 e3 e4 hg1 hz
  go_quiet (fail)
  go_upto_region 6 with (fail)
  have e1 := (E1.out.put 0 (.int .i64 ((m : Int) + 1)))
  have e2 := E2.out.far (r := w.heap.size) (by omega) 0 (.int .i64 ((m : Int) + 1))
  have e3 := grown_put E3.out (r := w.heap.size) (Nat.le_refl _) 0 (.int .i64 ((m : Int) + 1))
  have e4 := E4.out.far (r := w.heap.size) (by omega) 0 (.int .i64 ((m : Int) + 1))
  have hg1 := HG.out.far0 w.heap.size 0 (.int .i64 ((m : Int) + 1)) HGL.out
  replace e1 := e1.drewN nq
  replace e2 := e2.drewN nq
  replace e4 := e4.drewN nq
  replace e3 := grown_drewN e3 nq
  replace hg1 := hg1.drewN nq
  change Holds5 ((W1.drewN nq).setCell ⟨w.heap.size, 0, none⟩ (.int .i64 ((m : Int) + 1))) w.heap.size 64 (stC ((m : Int) + 1) f1 f2) at e1
  change Holds5 ((W1.drewN nq).setCell ⟨w.heap.size, 0, none⟩ (.int .i64 ((m : Int) + 1))) _ _ _ at e2
  change Holds5 ((W1.drewN nq).setCell ⟨w.heap.size, 0, none⟩ (.int .i64 ((m : Int) + 1))) _ _ _ at e4
  change w.grownBy ((W1.drewN nq).setCell ⟨w.heap.size, 0, none⟩ (.int .i64 ((m : Int) + 1))) none at e3
  change WT ((W1.drewN nq).setCell ⟨w.heap.size, 0, none⟩ (.int .i64 ((m : Int) + 1))) at hg1
  generalize (W1.drewN nq).setCell ⟨w.heap.size, 0, none⟩ (.int .i64 ((m : Int) + 1)) = W2 at *
  clear E1 E2 E3 E4 HG x0 xa xb xd y0 y1 y2 y3 y4 xf
  have x0 := e1.look 0; have xa := e1.look (1 + ra); have xb := e1.look (1 + rb); have xd := e1.look (1 + rd)
  rw [stC_get1 _ _ _ _ ha] at xa
  rw [stC_get1 _ _ _ _ hb] at xb
  rw [stC_get1 _ _ _ _ _hd] at xd
  have y0 := e4.look 0; have y1 := e4.look 1; have y2 := e4.look 2; have y3 := e4.look 3; have y4 := e4.look 4
  simp at y0 y1 y2 y3 y4
  simp [stC] at x0
  have xf := e1.free 0; have xg := e1.free (1 + rd)
  have E1 := shade e1; have E2 := shade e2; have E3 := shade e3; have E4 := shade e4; have HG := shade hg1
  clear e1 e2 e3 e4 hg1
  have z0 := E2.out.look 0; have t0 := E2.out.free 0; have z1 := E2.out.look 1; have t1 := E2.out.free 1; have z2 := E2.out.look 2; have t2 := E2.out.free 2; have z3 := E2.out.look 3; have t3 := E2.out.free 3; have z4 := E2.out.look 4; have t4 := E2.out.free 4; have z5 := E2.out.look 5; have t5 := E2.out.free 5; have z6 := E2.out.look 6; have t6 := E2.out.free 6; have z7 := E2.out.look 7; have t7 := E2.out.free 7; have z8 := E2.out.look 8; have t8 := E2.out.free 8; have z9 := E2.out.look 9; have t9 := E2.out.free 9; have z10 := E2.out.look 10; have t10 := E2.out.free 10; have z11 := E2.out.look 11; have t11 := E2.out.free 11; have z12 := E2.out.look 12; have t12 := E2.out.free 12
  simp at z0 z1 z2 z3 z4 z5 z6 z7 z8 z9 z10 z11 z12
  have hP := (((((((((((((E2.out.put 0 (.int .i64 0)).put 1 (.int .i64 0)).put 2 (.int .i64 0)).put 3 (.int .i64 0)).put 4 (.int .i64 0)).put 5 (.int .i64 0)).put 6 (.int .i64 0)).put 7 (.int .i64 0)).put 8 (.int .i64 0)).put 9 (.int .i64 0)).put 10 (.int .i64 0)).put 11 (.int .i64 0)).put 12 (.int .i64 0))
  have hG := (grown_put (r := w.heap.size + 1) (grown_put (r := w.heap.size + 1) (grown_put (r := w.heap.size + 1) (grown_put (r := w.heap.size + 1) (grown_put (r := w.heap.size + 1) (grown_put (r := w.heap.size + 1) (grown_put (r := w.heap.size + 1) (grown_put (r := w.heap.size + 1) (grown_put (r := w.heap.size + 1) (grown_put (r := w.heap.size + 1) (grown_put (r := w.heap.size + 1) (grown_put (r := w.heap.size + 1) (grown_put (r := w.heap.size + 1) E3.out (by omega) 0 (.int .i64 0)) (by omega) 1 (.int .i64 0)) (by omega) 2 (.int .i64 0)) (by omega) 3 (.int .i64 0)) (by omega) 4 (.int .i64 0)) (by omega) 5 (.int .i64 0)) (by omega) 6 (.int .i64 0)) (by omega) 7 (.int .i64 0)) (by omega) 8 (.int .i64 0)) (by omega) 9 (.int .i64 0)) (by omega) 10 (.int .i64 0)) (by omega) 11 (.int .i64 0)) (by omega) 12 (.int .i64 0))
  simp at hP
  have HP := shade hP
  have HGF := shade hG
  clear hP hG
  go_wp2_with (first | (go_at_call 63; refine (wordOf_any _ _ HG.out).mono ?_; rw [HWd.out]; rintro e w' ⟨rfl, rfl⟩))
  have hP := HP.out
  have q0 := hP.look 0; have q1 := hP.look 1; have q2 := hP.look 2; have q3 := hP.look 3; have q4 := hP.look 4; have q5 := hP.look 5; have q6 := hP.look 6; have q7 := hP.look 7; have q8 := hP.look 8; have q9 := hP.look 9; have q10 := hP.look 10; have q11 := hP.look 11; have q12 := hP.look 12
  simp at q0 q1 q2 q3 q4 q5 q6 q7 q8 q9 q10 q11 q12
  refine bodyPost_ret (v := .tuple #[SV 0 (fun _ => 0) (fun _ => 0), .bool false]) (by simp [results, Tryd.results39, go_sem, q0, q1, q2, q3, q4, q5, q6, q7, q8, q9, q10, q11, q12]) rfl ⟨rfl, HGF.out⟩

end Go.Proofs.YtbdlbooooiinkaaDoor

namespace Go.Proofs.YtbdlbooooiinkaaDoor
open Go.RowKit
set_option linter.unusedSimpArgs false
theorem step_any (n : Nat) (hn : n ≤ 8) (b off len cap m rd ra rb : Nat) (k : Int) (op : ByteArray) (F : Nat → Ins) (f1 f2 : Nat → Int) (w : World) (hg : WT w) (hC : Code w (some ⟨b, off, none⟩) len F) (hm : m < len) (hlen : len ≤ 40) (hF : F m = ⟨op, rd, ra, rb, k⟩) (hw : wordN op.toList = n)
    (hd : rd < 4) (ha : ra < 4) (hb : rb < 4) (k0 : 0 ≤ k) (k1 : k ≤ 255) (ok1 : ∀ j, j < 4 → 0 ≤ f1 j ∧ f1 j ≤ 255) :
    Calls Tryd.prog 39 #[.slice (some ⟨b, off, none⟩) len cap, SV m f1 f2] w fun e w' => e = .returned (.tuple #[SV (stepAt n m ra k f1) (stepRegs n rd ra rb k f1 f2) (stepMem n rd ra k f1 f2), .bool true]) ∧ w.grownBy w' none := by
  match n, hn, hw with
  | 0, _, hw => exact step_0 b off len cap m rd ra rb k op F f1 f2 w hg hC hm hlen hF hw hd ha hb k0 k1 ok1
  | 1, _, hw => exact step_1 b off len cap m rd ra rb k op F f1 f2 w hg hC hm hlen hF hw hd ha hb k0 k1 ok1
  | 2, _, hw => exact step_2 b off len cap m rd ra rb k op F f1 f2 w hg hC hm hlen hF hw hd ha hb k0 k1 ok1
  | 3, _, hw => exact step_3 b off len cap m rd ra rb k op F f1 f2 w hg hC hm hlen hF hw hd ha hb k0 k1 ok1
  | 4, _, hw => exact step_4 b off len cap m rd ra rb k op F f1 f2 w hg hC hm hlen hF hw hd ha hb k0 k1 ok1
  | 5, _, hw => exact step_5 b off len cap m rd ra rb k op F f1 f2 w hg hC hm hlen hF hw hd ha hb k0 k1 ok1
  | 6, _, hw => exact step_6 b off len cap m rd ra rb k op F f1 f2 w hg hC hm hlen hF hw hd ha hb k0 k1 ok1
  | 7, _, hw => exact step_7 b off len cap m rd ra rb k op F f1 f2 w hg hC hm hlen hF hw hd ha hb k0 k1 ok1
  | 8, _, hw => exact step_8 b off len cap m rd ra rb k op F f1 f2 w hg hC hm hlen hF hw hd ha hb k0 k1 ok1
theorem okL_bounds {n : Nat} {f : Nat → Int} (h : okL n f = true) : ∀ j, j < n → 0 ≤ f j ∧ f j ≤ 255 := by
  intro j hj
  have := okL_iff.1 h j hj
  simpa [inRB] using this
theorem SV_self (at' : Int) (f1 f2 : Nat → Int) (h1 : okL 4 f1 = true) (h2 : okL 8 f2 = true) : SV at' (fun j => f1 j % 256) (fun j => f2 j % 256) = SV at' f1 f2 := by
  have e1 : ∀ j, j < 4 → f1 j % 256 = f1 j := fun j hj => by
    have := okL_bounds h1 j hj
    omega
  have e2 : ∀ j, j < 8 → f2 j % 256 = f2 j := fun j hj => by
    have := okL_bounds h2 j hj
    omega
  exact congrArg Value.agg (stC_congr at' (fun j => f1 j % 256) (fun j => f2 j % 256) f1 f2 e1 e2)
/-- Does the program halt there? -/
def haltB (len : Nat) (F : Nat → Ins) (m : Nat) : Bool := decide (len ≤ m) || ((F m).op.toList == [104, 108, 116])
/-- What a step that is not there leaves. -/
def NoStep (w : World) (e : Ending) (w' : World) : Prop := e = .returned (.tuple #[MV 0 none 0 0 none 0 0, .bool false]) ∧ w.grownBy w' none
/-- What a step leaves. -/
def YesStep (w : World) (at2 : Int) (g1 g2 : Nat → Int) (e : Ending) (w' : World) : Prop :=
  ∃ r1 c1 r2 c2, e = .returned (.tuple #[MV at2 (some ⟨r1, 0, none⟩) 4 c1 (some ⟨r2, 0, none⟩) 8 c2, .bool true]) ∧ r1 ≠ r2 ∧ Own w' w.heap.size (some ⟨r1, 0, none⟩) 4 c1 g1 ∧ Own w' w.heap.size (some ⟨r2, 0, none⟩) 8 c2 g2 ∧ w.grownBy w' none


set_option maxHeartbeats 4000000 in
theorem StepMachine_code (A : Option Addr) (len cap : Nat) (F : Nat → Ins) (at' : Int) (A1 : Option Addr) (n1 c1 : Nat) (A2 : Option Addr) (n2 c2 : Nat) (w : World) (hg : WT w) (hl : len ≤ 9223372036854775807) (hC : Code w A len F) (hv : vcB len F = false) :
    Calls Tryd.prog 10 #[.slice A len cap, MV at' A1 n1 c1 A2 n2 c2] w (NoStep w) := by
  obtain ⟨W0, hW0⟩ : ∃ W0, (w.alloc (.cells #[.int .i64 at', .slice A1 n1 c1, .slice A2 n2 c2] 26)).alloc (.cells #[.int .i64 0, .slice none 0 0, .slice none 0 0] 26) = W0 := ⟨_, rfl⟩
  have e1 : Holds5 W0 w.heap.size 26 #[.int .i64 at', .slice A1 n1 c1, .slice A2 n2 c2] := by
    rw [← hW0]
    exact (Holds5.fresh w 26 #[.int .i64 at', .slice A1 n1 c1, .slice A2 n2 c2]).alloc _
  have e2 : Holds5 W0 (w.heap.size + 1) 26 #[.int .i64 0, .slice none 0 0, .slice none 0 0] := by
    rw [← hW0]
    have := Holds5.fresh (w.alloc (.cells #[.int .i64 at', .slice A1 n1 c1, .slice A2 n2 c2] 26)) 26 #[.int .i64 0, .slice none 0 0, .slice none 0 0]
    rwa [World.size_alloc] at this
  have e3 : w.grownBy W0 none := by
    rw [← hW0]
    exact grown_same (World.grownBy_alloc _ _ _) (World.grownBy_alloc _ _ _)
  have HG := shade (hg.below (below_of_grown e3) (wt_lt hg))
  have HVC := shade (ValidCode_any A len cap F W0 (hg.below (below_of_grown e3) (wt_lt hg)) hl (hC.on e3))
  rw [hv] at HVC
  have HW0 := shade hW0
  have E1 := shade e1; have E2 := shade e2; have E3 := shade e3
  clear e1 e2 e3 hW0 hg hC hv
  go_enter Tryd.func10, Tryd.ntmps10
  go_upto_region 1 with (fail)
  rw [HW0.out]
  clear HW0
  go_wp2_with fail
  refine HVC.out.mono ?_
  rintro e w1 ⟨rfl, hgr⟩
  have h2 := E2.out.grown hgr (by intro e; cases e)
  have r0 := h2.look 0; have r1 := h2.look 1; have r2 := h2.look 2; have t0 := h2.free 0; have t1 := h2.free 1; have t2 := h2.free 2
  simp at r0 r1 r2
  have hP := ((h2.put 0 (.int .i64 0)).put 1 (.slice none 0 0)).put 2 (.slice none 0 0)
  simp at hP
  have HP := shade hP
  have HGF := shade (grown_put (r := w.heap.size + 1) (grown_put (r := w.heap.size + 1) (grown_put (r := w.heap.size + 1) (grown_same E3.out hgr) (by omega) 0 (.int .i64 0)) (by omega) 1 (.slice none 0 0)) (by omega) 2 (.slice none 0 0))
  clear h2 hP hgr
  go_wp2_with fail
  have hP := HP.out
  have q0 := hP.look 0; have q1 := hP.look 1; have q2 := hP.look 2
  simp at q0 q1 q2
  refine bodyPost_ret (v := .tuple #[MV 0 none 0 0 none 0 0, .bool false]) (by simp [results, Tryd.results10, go_sem, q0, q1, q2]) rfl ⟨rfl, HGF.out⟩


theorem Nums.on {w w' : World} {A : Option Addr} {n : Nat} {f : Nat → Int} (h : Nums w A n f) (hg : w.grownBy w' none) : Nums w' A n f := h.grown hg (by intro _ _ _ e; cases e)
set_option maxHeartbeats 4000000 in
theorem StepMachine_mach (A : Option Addr) (len cap : Nat) (F : Nat → Ins) (at' : Int) (A1 : Option Addr) (n1 c1 : Nat) (A2 : Option Addr) (n2 c2 : Nat) (f1 f2 : Nat → Int) (w : World) (hg : WT w) (hl : len ≤ 9223372036854775807) (hC : Code w A len F) (hv : vcB len F = true)
    (h1 : Nums w A1 n1 f1) (h2 : Nums w A2 n2 f2) (hm : vmB at' n1 n2 f1 f2 = false) :
    Calls Tryd.prog 10 #[.slice A len cap, MV at' A1 n1 c1 A2 n2 c2] w (NoStep w) := by
  obtain ⟨W0, hW0⟩ : ∃ W0, (w.alloc (.cells #[.int .i64 at', .slice A1 n1 c1, .slice A2 n2 c2] 26)).alloc (.cells #[.int .i64 0, .slice none 0 0, .slice none 0 0] 26) = W0 := ⟨_, rfl⟩
  have e1 : Holds5 W0 w.heap.size 26 #[.int .i64 at', .slice A1 n1 c1, .slice A2 n2 c2] := by
    rw [← hW0]
    exact (Holds5.fresh w 26 #[.int .i64 at', .slice A1 n1 c1, .slice A2 n2 c2]).alloc _
  have e2 : Holds5 W0 (w.heap.size + 1) 26 #[.int .i64 0, .slice none 0 0, .slice none 0 0] := by
    rw [← hW0]
    have := Holds5.fresh (w.alloc (.cells #[.int .i64 at', .slice A1 n1 c1, .slice A2 n2 c2] 26)) 26 #[.int .i64 0, .slice none 0 0, .slice none 0 0]
    rwa [World.size_alloc] at this
  have e3 : w.grownBy W0 none := by
    rw [← hW0]
    exact grown_same (World.grownBy_alloc _ _ _) (World.grownBy_alloc _ _ _)
  have HVC := shade (ValidCode_any A len cap F W0 (hg.below (below_of_grown e3) (wt_lt hg)) hl (hC.on e3))
  rw [hv] at HVC
  have N1 := shade (h1.on e3)
  have N2 := shade (h2.on e3)
  clear h1 h2
  have HM := shade hm
  clear hm
  have HW0 := shade hW0
  have E1 := shade e1; have E2 := shade e2; have E3 := shade e3
  clear e1 e2 e3 hW0 hg hC hv
  go_enter Tryd.func10, Tryd.ntmps10
  go_upto_region 1 with (fail)
  rw [HW0.out]
  clear HW0
  go_wp2_with fail
  refine HVC.out.mono ?_
  rintro e w1 ⟨rfl, hgr⟩
  have p1 := E1.out.grown hgr (by intro e; cases e)
  have E2b := shade (E2.out.grown hgr (by intro e; cases e))
  have E3b := shade (grown_same E3.out hgr)
  have N1b := shade (N1.out.on hgr)
  have N2b := shade (N2.out.on hgr)
  have x0 := p1.look 0; have x1 := p1.look 1; have x2 := p1.look 2
  simp at x0 x1 x2
  have E1b := shade p1
  clear E1 E2 E3 N1 N2 hgr HVC p1
  go_wp2_with fail
  refine (ValidMachine_any at' A1 A2 n1 n2 c1 c2 f1 f2 _ N1b.out N2b.out).mono ?_
  rw [HM.out]
  rintro e w2 ⟨rfl, hgr⟩
  have h2 := E2b.out.grown hgr (by intro e; cases e)
  have h3 := grown_same E3b.out hgr
  clear hgr
  have r0 := h2.look 0; have r1 := h2.look 1; have r2 := h2.look 2; have t0 := h2.free 0; have t1 := h2.free 1; have t2 := h2.free 2
  simp at r0 r1 r2
  have hP := ((h2.put 0 (.int .i64 0)).put 1 (.slice none 0 0)).put 2 (.slice none 0 0)
  simp at hP
  have HP := shade hP
  have HGF := shade (grown_put (r := w.heap.size + 1) (grown_put (r := w.heap.size + 1) (grown_put (r := w.heap.size + 1) h3 (by omega) 0 (.int .i64 0)) (by omega) 1 (.slice none 0 0)) (by omega) 2 (.slice none 0 0))
  clear h2 hP h3
  go_wp2_with fail
  have hP := HP.out
  have q0 := hP.look 0; have q1 := hP.look 1; have q2 := hP.look 2
  simp at q0 q1 q2
  refine bodyPost_ret (v := .tuple #[MV 0 none 0 0 none 0 0, .bool false]) (by simp [results, Tryd.results10, go_sem, q0, q1, q2]) rfl ⟨rfl, HGF.out⟩

set_option maxHeartbeats 4000000 in
theorem StepMachine_halt (A : Option Addr) (len cap : Nat) (F : Nat → Ins) (m : Nat) (b1 o1 c1 b2 o2 c2 : Nat) (f1 f2 : Nat → Int) (w : World) (hg : WT w) (hl : len ≤ 9223372036854775807) (hC : Code w A len F) (hv : vcB len F = true)
    (h1 : Nums w (some ⟨b1, o1, none⟩) 4 f1) (h2 : Nums w (some ⟨b2, o2, none⟩) 8 f2) (hm40 : (m : Int) ≤ 40) (k1 : okL 4 f1 = true) (k2 : okL 8 f2 = true)
    (hS : ∀ W, w.grownBy W none → Calls Tryd.prog 39 #[.slice A len cap, SV m f1 f2] W fun e w' => e = .returned (.tuple #[SV 0 (fun _ => 0) (fun _ => 0), .bool false]) ∧ W.grownBy w' none) :
    Calls Tryd.prog 10 #[.slice A len cap, MV m (some ⟨b1, o1, none⟩) 4 c1 (some ⟨b2, o2, none⟩) 8 c2] w (NoStep w) := by
  obtain ⟨W0, hW0⟩ : ∃ W0, (w.alloc (.cells #[.int .i64 m, .slice (some ⟨b1, o1, none⟩) 4 c1, .slice (some ⟨b2, o2, none⟩) 8 c2] 26)).alloc (.cells #[.int .i64 0, .slice none 0 0, .slice none 0 0] 26) = W0 := ⟨_, rfl⟩
  have e1 : Holds5 W0 w.heap.size 26 #[.int .i64 m, .slice (some ⟨b1, o1, none⟩) 4 c1, .slice (some ⟨b2, o2, none⟩) 8 c2] := by
    rw [← hW0]
    exact (Holds5.fresh w 26 #[.int .i64 m, .slice (some ⟨b1, o1, none⟩) 4 c1, .slice (some ⟨b2, o2, none⟩) 8 c2]).alloc _
  have e2 : Holds5 W0 (w.heap.size + 1) 26 #[.int .i64 0, .slice none 0 0, .slice none 0 0] := by
    rw [← hW0]
    have := Holds5.fresh (w.alloc (.cells #[.int .i64 m, .slice (some ⟨b1, o1, none⟩) 4 c1, .slice (some ⟨b2, o2, none⟩) 8 c2] 26)) 26 #[.int .i64 0, .slice none 0 0, .slice none 0 0]
    rwa [World.size_alloc] at this
  have e3 : w.grownBy W0 none := by
    rw [← hW0]
    exact grown_same (World.grownBy_alloc _ _ _) (World.grownBy_alloc _ _ _)
  have HVC := shade (ValidCode_any A len cap F W0 (hg.below (below_of_grown e3) (wt_lt hg)) hl (hC.on e3))
  rw [hv] at HVC
  have N1 := shade (h1.on e3)
  have N2 := shade (h2.on e3)
  clear h1 h2
  have HM := shade (show vmB m 4 8 f1 f2 = true by rw [vmB_in (by omega) hm40, k1, k2]; rfl)
  have HSV := shade (SV_self m f1 f2 k1 k2)
  have HS := shade hS
  clear hm40 k1 k2 hS
  have HW0 := shade hW0
  have E1 := shade e1; have E2 := shade e2; have E3 := shade e3
  clear e1 e2 e3 hW0 hg hC hv
  go_enter Tryd.func10, Tryd.ntmps10
  go_upto_region 1 with (fail)
  rw [HW0.out]
  clear HW0
  go_wp2_with fail
  refine HVC.out.mono ?_
  rintro e w1 ⟨rfl, hgr⟩
  have p1 := E1.out.grown hgr (by intro e; cases e)
  have E2b := shade (E2.out.grown hgr (by intro e; cases e))
  have E3b := shade (grown_same E3.out hgr)
  have N1b := shade (N1.out.on hgr)
  have N2b := shade (N2.out.on hgr)
  have x0 := p1.look 0; have x1 := p1.look 1; have x2 := p1.look 2
  simp at x0 x1 x2
  have E1b := shade p1
  clear E1 E2 E3 N1 N2 hgr HVC p1
  go_wp2_with fail
  refine (ValidMachine_any m (some ⟨b1, o1, none⟩) (some ⟨b2, o2, none⟩) 4 8 c1 c2 f1 f2 _ N1b.out N2b.out).mono ?_
  rw [HM.out]
  rintro e w2 ⟨rfl, hgr⟩
  have p1 := E1b.out.grown hgr (by intro e; cases e)
  have E2c := shade (E2b.out.grown hgr (by intro e; cases e))
  have E3c := shade (grown_same E3b.out hgr)
  have N1c := shade (N1b.out.on hgr)
  have N2c := shade (N2b.out.on hgr)
  clear x0 x1 x2 E1b E2b E3b N1b N2b hgr
  have x0 := p1.look 0; have x1 := p1.look 1; have x2 := p1.look 2
  simp at x0 x1 x2
  clear p1
  go_wp2_with fail
  refine (stateOf_any m b1 o1 b2 o2 c1 c2 f1 f2 _ N1c.out N2c.out).mono ?_
  rw [HSV.out]
  rintro e w3 ⟨rfl, hgr⟩
  have E2d := shade (E2c.out.grown hgr (by intro e; cases e))
  have E3d := shade (grown_same E3c.out hgr)
  clear hgr E2c E3c N1c N2c
  go_wp2_with fail
  refine (HS.out _ E3d.out).mono ?_
  rintro e w4 ⟨rfl, hgr⟩
  have h2 := (E2d.out.grown hgr (by intro e; cases e)).alloc (.cells #[.int .i64 0, .int .i64 0, .int .i64 0, .int .i64 0, .int .i64 0, .int .i64 0, .int .i64 0, .int .i64 0, .int .i64 0, .int .i64 0, .int .i64 0, .int .i64 0, .int .i64 0] 64)
  have h3 := grown_same (grown_same E3d.out hgr) (World.grownBy_alloc w4 (.cells #[.int .i64 0, .int .i64 0, .int .i64 0, .int .i64 0, .int .i64 0, .int .i64 0, .int .i64 0, .int .i64 0, .int .i64 0, .int .i64 0, .int .i64 0, .int .i64 0, .int .i64 0] 64) none)
  clear hgr
  have r0 := h2.look 0; have r1 := h2.look 1; have r2 := h2.look 2; have t0 := h2.free 0; have t1 := h2.free 1; have t2 := h2.free 2
  simp at r0 r1 r2
  have hP := ((h2.put 0 (.int .i64 0)).put 1 (.slice none 0 0)).put 2 (.slice none 0 0)
  simp at hP
  have HP := shade hP
  have HGF := shade (grown_put (r := w.heap.size + 1) (grown_put (r := w.heap.size + 1) (grown_put (r := w.heap.size + 1) h3 (by omega) 0 (.int .i64 0)) (by omega) 1 (.slice none 0 0)) (by omega) 2 (.slice none 0 0))
  clear h2 hP h3
  go_wp2_with fail
  have hP := HP.out
  have q0 := hP.look 0; have q1 := hP.look 1; have q2 := hP.look 2
  simp at q0 q1 q2
  refine bodyPost_ret (v := .tuple #[MV 0 none 0 0 none 0 0, .bool false]) (by simp [results, Tryd.results10, go_sem, q0, q1, q2]) rfl ⟨rfl, HGF.out⟩


set_option maxHeartbeats 4000000 in
theorem StepMachine_go (A : Option Addr) (len cap : Nat) (F : Nat → Ins) (m : Nat) (b1 o1 c1 b2 o2 c2 : Nat) (f1 f2 g1 g2 : Nat → Int) (at2 : Int) (w : World) (hg : WT w) (hl : len ≤ 9223372036854775807) (hC : Code w A len F) (hv : vcB len F = true)
    (h1 : Nums w (some ⟨b1, o1, none⟩) 4 f1) (h2 : Nums w (some ⟨b2, o2, none⟩) 8 f2) (hm40 : (m : Int) ≤ 40) (k1 : okL 4 f1 = true) (k2 : okL 8 f2 = true)
    (hS : ∀ W, w.grownBy W none → Calls Tryd.prog 39 #[.slice A len cap, SV m f1 f2] W fun e w' => e = .returned (.tuple #[SV at2 g1 g2, .bool true]) ∧ W.grownBy w' none) :
    Calls Tryd.prog 10 #[.slice A len cap, MV m (some ⟨b1, o1, none⟩) 4 c1 (some ⟨b2, o2, none⟩) 8 c2] w (YesStep w at2 g1 g2) := by
  obtain ⟨W0, hW0⟩ : ∃ W0, (w.alloc (.cells #[.int .i64 m, .slice (some ⟨b1, o1, none⟩) 4 c1, .slice (some ⟨b2, o2, none⟩) 8 c2] 26)).alloc (.cells #[.int .i64 0, .slice none 0 0, .slice none 0 0] 26) = W0 := ⟨_, rfl⟩
  have e1 : Holds5 W0 w.heap.size 26 #[.int .i64 m, .slice (some ⟨b1, o1, none⟩) 4 c1, .slice (some ⟨b2, o2, none⟩) 8 c2] := by
    rw [← hW0]
    exact (Holds5.fresh w 26 #[.int .i64 m, .slice (some ⟨b1, o1, none⟩) 4 c1, .slice (some ⟨b2, o2, none⟩) 8 c2]).alloc _
  have e2 : Holds5 W0 (w.heap.size + 1) 26 #[.int .i64 0, .slice none 0 0, .slice none 0 0] := by
    rw [← hW0]
    have := Holds5.fresh (w.alloc (.cells #[.int .i64 m, .slice (some ⟨b1, o1, none⟩) 4 c1, .slice (some ⟨b2, o2, none⟩) 8 c2] 26)) 26 #[.int .i64 0, .slice none 0 0, .slice none 0 0]
    rwa [World.size_alloc] at this
  have e3 : w.grownBy W0 none := by
    rw [← hW0]
    exact grown_same (World.grownBy_alloc _ _ _) (World.grownBy_alloc _ _ _)
  have HVC := shade (ValidCode_any A len cap F W0 (hg.below (below_of_grown e3) (wt_lt hg)) hl (hC.on e3))
  rw [hv] at HVC
  have N1 := shade (h1.on e3)
  have N2 := shade (h2.on e3)
  clear h1 h2
  have HM := shade (show vmB m 4 8 f1 f2 = true by rw [vmB_in (by omega) hm40, k1, k2]; rfl)
  have HSV := shade (SV_self m f1 f2 k1 k2)
  have HS := shade hS
  clear hm40 k1 k2 hS
  have HW0 := shade hW0
  have E1 := shade e1; have E2 := shade e2; have E3 := shade e3
  clear e1 e2 e3 hW0 hg hC hv
  go_enter Tryd.func10, Tryd.ntmps10
  go_upto_region 1 with (fail)
  rw [HW0.out]
  clear HW0
  go_wp2_with fail
  refine HVC.out.mono ?_
  rintro e w1 ⟨rfl, hgr⟩
  have p1 := E1.out.grown hgr (by intro e; cases e)
  have E2b := shade (E2.out.grown hgr (by intro e; cases e))
  have E3b := shade (grown_same E3.out hgr)
  have N1b := shade (N1.out.on hgr)
  have N2b := shade (N2.out.on hgr)
  have x0 := p1.look 0; have x1 := p1.look 1; have x2 := p1.look 2
  simp at x0 x1 x2
  have E1b := shade p1
  clear E1 E2 E3 N1 N2 hgr HVC p1
  go_wp2_with fail
  refine (ValidMachine_any m (some ⟨b1, o1, none⟩) (some ⟨b2, o2, none⟩) 4 8 c1 c2 f1 f2 _ N1b.out N2b.out).mono ?_
  rw [HM.out]
  rintro e w2 ⟨rfl, hgr⟩
  have p1 := E1b.out.grown hgr (by intro e; cases e)
  have E2c := shade (E2b.out.grown hgr (by intro e; cases e))
  have E3c := shade (grown_same E3b.out hgr)
  have N1c := shade (N1b.out.on hgr)
  have N2c := shade (N2b.out.on hgr)
  clear x0 x1 x2 E1b E2b E3b N1b N2b hgr
  have x0 := p1.look 0; have x1 := p1.look 1; have x2 := p1.look 2
  simp at x0 x1 x2
  clear p1
  go_wp2_with fail
  refine (stateOf_any m b1 o1 b2 o2 c1 c2 f1 f2 _ N1c.out N2c.out).mono ?_
  rw [HSV.out]
  rintro e w3 ⟨rfl, hgr⟩
  have E2d := shade (E2c.out.grown hgr (by intro e; cases e))
  have E3d := shade (grown_same E3c.out hgr)
  clear hgr E2c E3c N1c N2c
  go_wp2_with fail
  refine (HS.out _ E3d.out).mono ?_
  rintro e w4 ⟨rfl, hgr⟩
  have E2e := shade (E2d.out.grown hgr (by intro e; cases e))
  have E3e := shade (grown_same E3d.out hgr)
  clear hgr E2d E3d x0 x1 x2
  go_wp2_with fail
  refine (stateMachine_any at2 g1 g2 _).mono ?_
  rintro e w5 ⟨r1, d1, r2, d2, rfl, hne, ho1, ho2, hgr⟩
  have hX := grown_same (World.grownBy_alloc w4 (.cells #[.int .i64 at2, .int .i64 (g1 0), .int .i64 (g1 1), .int .i64 (g1 2), .int .i64 (g1 3), .int .i64 (g2 0), .int .i64 (g2 1), .int .i64 (g2 2), .int .i64 (g2 3), .int .i64 (g2 4), .int .i64 (g2 5), .int .i64 (g2 6), .int .i64 (g2 7)] 64) none) hgr
  have h2 := E2e.out.grown hX (by intro e; cases e)
  have h3 := grown_same E3e.out hX
  have l1 := ho1.lt
  have l2 := ho2.lt
  have z4 := E2e.out.inside
  have z5 := E3e.out.size
  rw [World.size_alloc] at l1 l2
  have y0 := h2.look 0; have y1 := h2.look 1; have y2 := h2.look 2; have t0 := h2.free 0; have t1 := h2.free 1; have t2 := h2.free 2
  simp at y0 y1 y2
  have hP := ((h2.put 0 (.int .i64 at2)).put 1 (.slice (some ⟨r1, 0, none⟩) 4 d1)).put 2 (.slice (some ⟨r2, 0, none⟩) 8 d2)
  simp at hP
  have HP := shade hP
  have HGF := shade (grown_put (r := w.heap.size + 1) (grown_put (r := w.heap.size + 1) (grown_put (r := w.heap.size + 1) h3 (by omega) 0 (.int .i64 at2)) (by omega) 1 (.slice (some ⟨r1, 0, none⟩) 4 d1)) (by omega) 2 (.slice (some ⟨r2, 0, none⟩) 8 d2))
  rw [World.size_alloc] at ho1 ho2
  have M1 := shade ((((Own.lower (B' := w.heap.size) ho1 (by omega)).far (r := w.heap.size + 1) (by omega) 0 (.int .i64 at2)).far (r := w.heap.size + 1) (by omega) 1 (.slice (some ⟨r1, 0, none⟩) 4 d1)).far (r := w.heap.size + 1) (by omega) 2 (.slice (some ⟨r2, 0, none⟩) 8 d2))
  have M2 := shade ((((Own.lower (B' := w.heap.size) ho2 (by omega)).far (r := w.heap.size + 1) (by omega) 0 (.int .i64 at2)).far (r := w.heap.size + 1) (by omega) 1 (.slice (some ⟨r1, 0, none⟩) 4 d1)).far (r := w.heap.size + 1) (by omega) 2 (.slice (some ⟨r2, 0, none⟩) 8 d2))
  clear h2 hP h3 hgr hX ho1 ho2 l1 l2
  go_wp2_with fail
  have hP := HP.out
  have q0 := hP.look 0; have q1 := hP.look 1; have q2 := hP.look 2
  simp at q0 q1 q2
  refine bodyPost_ret (v := .tuple #[MV at2 (some ⟨r1, 0, none⟩) 4 d1 (some ⟨r2, 0, none⟩) 8 d2, .bool true]) (by simp [results, Tryd.results10, go_sem, q0, q1, q2]) rfl ?_
  exact ⟨r1, d1, r2, d2, rfl, hne, M1.out, M2.out, HGF.out⟩

end Go.Proofs.YtbdlbooooiinkaaDoor

namespace Go.Proofs.YtbdlbooooiinkaaDoor
open Go.RowKit
def nOf (F : Nat → Ins) (at' : Int) : Nat := (wordN (F at'.toNat).op.toList).toNat
def rdOf (F : Nat → Ins) (at' : Int) : Nat := (F at'.toNat).d.toNat
def raOf (F : Nat → Ins) (at' : Int) : Nat := (F at'.toNat).a.toNat
def rbOf (F : Nat → Ins) (at' : Int) : Nat := (F at'.toNat).b.toNat
def kOf (F : Nat → Ins) (at' : Int) : Int := (F at'.toNat).k
/-- Is there a step? -/
def stepB (len : Nat) (F : Nat → Ins) (at' : Int) (n1 n2 : Nat) (f1 f2 : Nat → Int) : Bool := vcB len F && vmB at' n1 n2 f1 f2 && !haltB len F at'.toNat
def stAt (F : Nat → Ins) (at' : Int) (f1 : Nat → Int) : Int := stepAt (nOf F at') at'.toNat (raOf F at') (kOf F at') f1
def stRegs (F : Nat → Ins) (at' : Int) (f1 f2 : Nat → Int) : Nat → Int := stepRegs (nOf F at') (rdOf F at') (raOf F at') (rbOf F at') (kOf F at') f1 f2
def stMem (F : Nat → Ins) (at' : Int) (f1 f2 : Nat → Int) : Nat → Int := stepMem (nOf F at') (rdOf F at') (raOf F at') (kOf F at') f1 f2
theorem vmB_parts {at' : Int} {n1 n2 : Nat} {f1 f2 : Nat → Int} (h : vmB at' n1 n2 f1 f2 = true) : (0 ≤ at' ∧ at' ≤ 40) ∧ n1 = 4 ∧ n2 = 8 ∧ okL n1 f1 = true ∧ okL n2 f2 = true := by
  simp only [vmB, inRB, Bool.and_eq_true, decide_eq_true_eq] at h
  exact ⟨h.1.1, h.1.2.2, h.2.2, h.1.2.1, h.2.1⟩
/-- What is known of the instruction where a valid program is. -/
theorem ins_parts {len : Nat} {F : Nat → Ins} {at' : Int} (hv : vcB len F = true) (hm : at'.toNat < len) :
    len ≤ 40 ∧ (rdOf F at' < 4 ∧ raOf F at' < 4 ∧ rbOf F at' < 4) ∧ (0 ≤ kOf F at' ∧ kOf F at' ≤ 255) ∧ wordN (F at'.toNat).op.toList = nOf F at' ∧ nOf F at' ≤ 9 ∧ F at'.toNat = ⟨(F at'.toNat).op, rdOf F at', raOf F at', rbOf F at', kOf F at'⟩ := by
  have h40 : len ≤ 40 := by
    simp only [vcB, Bool.and_eq_true, decide_eq_true_eq] at hv
    exact hv.2
  obtain ⟨⟨n0, n1⟩, ⟨d0, d1⟩, ⟨a0, a1⟩, ⟨b0, b1⟩, ⟨k0, k1⟩⟩ := VI_bounds (vB_true.1 (okI_vB (vcB_ok hv at'.toNat hm)))
  refine ⟨h40, ⟨by unfold rdOf; omega, by unfold raOf; omega, by unfold rbOf; omega⟩, ⟨k0, k1⟩, by unfold nOf; omega, by unfold nOf; omega, ?_⟩
  unfold rdOf raOf rbOf kOf
  rw [Int.toNat_of_nonneg d0, Int.toNat_of_nonneg a0, Int.toNat_of_nonneg b0]
theorem hlt_word (l : List UInt8) : (l == [104, 108, 116]) = true ↔ wordN l = 9 := by
  rw [beq_iff_eq]
  constructor
  · intro h
    rw [h]
    exact wordN_at9
  · intro h
    rcases word_is l 9 (by omega) h with h | h | h | h | h | h | h | h | h | h
    all_goals first
      | exact absurd h.1 (by omega)
      | exact (beq_iff_eq.1 h.2).symm
theorem StepMachine_no (A : Option Addr) (len cap : Nat) (F : Nat → Ins) (at' : Int) (A1 : Option Addr) (n1 c1 : Nat) (A2 : Option Addr) (n2 c2 : Nat) (f1 f2 : Nat → Int) (w : World) (hg : WT w) (hl : len ≤ 9223372036854775807) (hC : Code w A len F) (h1 : Nums w A1 n1 f1) (h2 : Nums w A2 n2 f2) (hs : stepB len F at' n1 n2 f1 f2 = false) :
    Calls Tryd.prog 10 #[.slice A len cap, MV at' A1 n1 c1 A2 n2 c2] w (NoStep w) := by
  rcases hv : vcB len F with _ | _
  · exact StepMachine_code A len cap F at' A1 n1 c1 A2 n2 c2 w hg hl hC hv
  rcases hm : vmB at' n1 n2 f1 f2 with _ | _
  · exact StepMachine_mach A len cap F at' A1 n1 c1 A2 n2 c2 f1 f2 w hg hl hC hv h1 h2 hm
  · have hh : haltB len F at'.toNat = true := by
      simp only [stepB, hv, hm, Bool.true_and, Bool.not_eq_false'] at hs
      exact hs
    obtain ⟨⟨t0, t1⟩, rfl, rfl, k1, k2⟩ := vmB_parts hm
    obtain ⟨b1, o1, rfl, _⟩ := h1.resolve_left (by omega)
    obtain ⟨b2, o2, rfl, _⟩ := h2.resolve_left (by omega)
    have he : ((at'.toNat : Nat) : Int) = at' := Int.toNat_of_nonneg t0
    have key : Calls Tryd.prog 10 #[.slice A len cap, MV (at'.toNat : Int) (some ⟨b1, o1, none⟩) 4 c1 (some ⟨b2, o2, none⟩) 8 c2] w (NoStep w) := by
      refine StepMachine_halt A len cap F at'.toNat b1 o1 c1 b2 o2 c2 f1 f2 w hg hl hC hv h1 h2 (by omega) k1 k2 (fun W hW => ?_)
      by_cases hle : len ≤ at'.toNat
      · exact step_end A len cap at'.toNat f1 f2 W hle (by omega)
      · have hlt : at'.toNat < len := by omega
        obtain ⟨h40, ⟨r1, r2, r3⟩, ⟨q0, q1⟩, hw, _, hF⟩ := ins_parts hv hlt
        have h9 : wordN (F at'.toNat).op.toList = 9 := by
          simp only [haltB, Bool.or_eq_true, decide_eq_true_eq] at hh
          exact (hlt_word _).1 (hh.resolve_left hle)
        obtain ⟨b, off, rfl, _⟩ := hC.resolve_left (by omega)
        exact step_9 b off len cap at'.toNat (rdOf F at') (raOf F at') (rbOf F at') (kOf F at') _ F f1 f2 W (hg.below (below_of_grown hW) (wt_lt hg)) (hC.on hW) hlt h40 hF h9 r1 r2 r3 q0 q1 (okL_bounds k1)
    rw [he] at key
    exact key
theorem StepMachine_yes (A : Option Addr) (len cap : Nat) (F : Nat → Ins) (at' : Int) (A1 : Option Addr) (n1 c1 : Nat) (A2 : Option Addr) (n2 c2 : Nat) (f1 f2 : Nat → Int) (w : World) (hg : WT w) (hl : len ≤ 9223372036854775807) (hC : Code w A len F) (h1 : Nums w A1 n1 f1) (h2 : Nums w A2 n2 f2) (hs : stepB len F at' n1 n2 f1 f2 = true) :
    Calls Tryd.prog 10 #[.slice A len cap, MV at' A1 n1 c1 A2 n2 c2] w (YesStep w (stAt F at' f1) (stRegs F at' f1 f2) (stMem F at' f1 f2)) := by
  simp only [stepB, Bool.and_eq_true, Bool.not_eq_true'] at hs
  obtain ⟨⟨hv, hm⟩, hh⟩ := hs
  obtain ⟨⟨t0, t1⟩, rfl, rfl, k1, k2⟩ := vmB_parts hm
  obtain ⟨b1, o1, rfl, _⟩ := h1.resolve_left (by omega)
  obtain ⟨b2, o2, rfl, _⟩ := h2.resolve_left (by omega)
  have he : ((at'.toNat : Nat) : Int) = at' := Int.toNat_of_nonneg t0
  simp only [haltB, Bool.or_eq_false_iff, decide_eq_false_iff_not] at hh
  have hlt : at'.toNat < len := by omega
  obtain ⟨h40, ⟨r1, r2, r3⟩, ⟨q0, q1⟩, hw, h9, hF⟩ := ins_parts hv hlt
  have h8 : nOf F at' ≤ 8 := by
    have : wordN (F at'.toNat).op.toList ≠ 9 := fun e => by
      rw [(hlt_word _).2 e] at hh
      cases hh.2
    omega
  obtain ⟨b, off, rfl, _⟩ := hC.resolve_left (by omega)
  have key : Calls Tryd.prog 10 #[.slice (some ⟨b, off, none⟩) len cap, MV (at'.toNat : Int) (some ⟨b1, o1, none⟩) 4 c1 (some ⟨b2, o2, none⟩) 8 c2] w (YesStep w (stAt F at' f1) (stRegs F at' f1 f2) (stMem F at' f1 f2)) := by
    refine StepMachine_go (some ⟨b, off, none⟩) len cap F at'.toNat b1 o1 c1 b2 o2 c2 f1 f2 _ _ _ w hg hl hC hv h1 h2 (by omega) k1 k2 (fun W hW => ?_)
    exact step_any (nOf F at') h8 b off len cap at'.toNat (rdOf F at') (raOf F at') (rbOf F at') (kOf F at') _ F f1 f2 W (hg.below (below_of_grown hW) (wt_lt hg)) (hC.on hW) hlt h40 hF hw r1 r2 r3 q0 q1 (okL_bounds k1)
  rw [he] at key
  exact key

end Go.Proofs.YtbdlbooooiinkaaDoor
