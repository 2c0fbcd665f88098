/- A step of a state: what 'program.step' answers for each word, for a valid instruction and a state of words. -/
import Derived.Test.YtcfnoihjpiklhaaDoorG39
import Derived.Test.YtcfnoihjpiklhaaDoorG60
import Derived.Deep.CutRange
import Derived.Deep.CutBlock
namespace Go.Proofs.YtcfnoihjpiklhaaDoor
open Go.RowKit
set_option linter.unusedSimpArgs false
theorem WT.far0 {w : World} (h : WT w) (r o : Nat) (u : Value) (hr : 0 < r) : WT (w.setCell ⟨r, o, none⟩ u) := by
  obtain ⟨t, fr, e⟩ := h
  exact ⟨t, fr, (Below.heap_setCell w ⟨r, o, none⟩ u _ (by show _ ≠ r; omega)).trans e⟩
/-- A function with one value changed. -/
def upd (f : Nat → Int) (d : Nat) (x : Int) : Nat → Int := fun j => if j = d then x else f j
/-- The cell that is read or written. -/
def placeN (f1 : Nat → Int) (ra : Nat) (k : Int) : Nat := ((f1 ra + k) % 8).toNat
theorem placeN_lt (f1 : Nat → Int) (ra : Nat) (k : Int) : placeN f1 ra k < 8 := by
  unfold placeN
  omega
/-- Where the program is behind a step. -/
def stepAt (n : Nat) (m : Nat) (ra : Nat) (k : Int) (f1 : Nat → Int) : Int := if n = 7 then (if f1 ra = 0 then k else (m : Int) + 1) else if n = 8 then k else (m : Int) + 1
/-- The number that is put to a register. -/
def stepVal (n : Nat) (ra rb : Nat) (k : Int) (f1 f2 : Nat → Int) : Int :=
  if n = 0 then k else if n = 1 then (f1 ra + f1 rb) % 256 else if n = 2 then (f1 ra - f1 rb) % 256 else if n = 3 then (f1 ra * f1 rb) % 256 else if n = 4 then (if f1 ra < f1 rb then 1 else 0) else f2 (placeN f1 ra k)
/-- The registers behind a step. -/
def stepRegs (n : Nat) (rd ra rb : Nat) (k : Int) (f1 f2 : Nat → Int) : Nat → Int := if n ≤ 5 then upd f1 rd (stepVal n ra rb k f1 f2) else f1
/-- The memory behind a step. -/
def stepMem (n : Nat) (rd ra : Nat) (k : Int) (f1 f2 : Nat → Int) : Nat → Int := if n = 6 then upd f2 (placeN f1 ra k) (f1 rd) else f2
/-- What a word makes of two numbers. -/
def opVal (n : Nat) (x y : Int) : Int := if n = 1 then (x + y) % 256 else if n = 2 then (x - y) % 256 else if n = 3 then (x * y) % 256 else if x < y then 1 else 0
set_option maxHeartbeats 1000000 in
theorem workOut_any (n : Nat) (x y : Int) (w : World) (hn : n = 1 ∨ n = 2 ∨ n = 3 ∨ n = 4) (x0 : 0 ≤ x) (x1 : x ≤ 255) (y0 : 0 ≤ y) (y1 : y ≤ 255) :
    Calls Tryd.prog 57 #[.int .i64 n, .int .i64 x, .int .i64 y] w fun e w' => e = .returned (.int .i64 (opVal n x y)) ∧ w = w' := by
  have m0 : 0 ≤ x * y := Int.mul_nonneg x0 y0
  have m1 : x * y ≤ 255 * 255 := Int.mul_le_mul x1 y1 y0 (by omega)
  have m2 : x * y ≤ 65025 := m1
  clear m1
  rcases hn with rfl | rfl | rfl | rfl
  · have hv : opVal 1 x y = (x + y) % 256 := rfl
    rw [hv]
    clear hv m0 m2
    go_enter Tryd.func57, Tryd.ntmps57
    go_wp2_with fail
    refine (rest_any _ _).mono ?_
    rintro e w' ⟨rfl, rfl⟩
    go_wp2
    go_ret
    exact ⟨rfl, rfl⟩
  · have hv : opVal 2 x y = (x - y) % 256 := rfl
    rw [hv]
    clear hv m0 m2
    go_enter Tryd.func57, Tryd.ntmps57
    go_wp2_with fail
    refine (rest_any _ _).mono ?_
    rintro e w' ⟨rfl, rfl⟩
    go_wp2
    go_ret
    exact ⟨rfl, rfl⟩
  · have hv : opVal 3 x y = (x * y) % 256 := rfl
    rw [hv]
    clear hv
    go_enter Tryd.func57, Tryd.ntmps57
    go_wp2_with fail
    refine (rest_any _ _).mono ?_
    rintro e w' ⟨rfl, rfl⟩
    go_wp2
    go_ret
    exact ⟨rfl, rfl⟩
  · clear m0 m2
    by_cases h : x < y
    · have hv : opVal 4 x y = 1 := if_pos h
      rw [hv]
      clear hv
      go_enter Tryd.func57, Tryd.ntmps57
      go_wp2
      go_ret
      exact ⟨rfl, rfl⟩
    · have hv : opVal 4 x y = 0 := if_neg h
      rw [hv]
      clear hv
      have h : y ≤ x := by omega
      go_enter Tryd.func57, Tryd.ntmps57
      go_wp2
      go_ret
      exact ⟨rfl, rfl⟩
set_option maxHeartbeats 2000000 in
theorem cellOf_any (at' : Int) (f1 f2 : Nat → Int) (op : ByteArray) (d b : Int) (ra : Nat) (k : Int) (w : World) (hra : ra < 4) (h0 : 0 ≤ f1 ra) (h1 : f1 ra ≤ 255) (k0 : 0 ≤ k) (k1 : k ≤ 255) :
    Calls Tryd.prog 58 #[SV at' f1 f2, .agg #[.string op, .int .i64 d, .int .i64 ra, .int .i64 b, .int .i64 k]] w fun e w' => e = .returned (.int .i64 (placeN f1 ra k)) ∧ w.grownBy w' none := by
  obtain ⟨W1, hW1⟩ : ∃ W1, (w.alloc (.cells #[.int .i64 at', .int .i64 (f1 0), .int .i64 (f1 1), .int .i64 (f1 2), .int .i64 (f1 3), .int .i64 (f2 0), .int .i64 (f2 1), .int .i64 (f2 2), .int .i64 (f2 3), .int .i64 (f2 4), .int .i64 (f2 5), .int .i64 (f2 6), .int .i64 (f2 7)] 60)).alloc (.cells #[.string op, .int .i64 d, .int .i64 ra, .int .i64 b, .int .i64 k] 37) = W1 := ⟨_, rfl⟩
  have e1 : Holds5 W1 w.heap.size 60 (stC at' f1 f2) := by
    rw [← hW1]
    exact (Holds5.fresh w 60 #[.int .i64 at', .int .i64 (f1 0), .int .i64 (f1 1), .int .i64 (f1 2), .int .i64 (f1 3), .int .i64 (f2 0), .int .i64 (f2 1), .int .i64 (f2 2), .int .i64 (f2 3), .int .i64 (f2 4), .int .i64 (f2 5), .int .i64 (f2 6), .int .i64 (f2 7)]).alloc _
  have e2 : Holds5 W1 (w.heap.size + 1) 37 #[.string op, .int .i64 d, .int .i64 ra, .int .i64 b, .int .i64 k] := by
    rw [← hW1]
    have := Holds5.fresh (w.alloc (.cells #[.int .i64 at', .int .i64 (f1 0), .int .i64 (f1 1), .int .i64 (f1 2), .int .i64 (f1 3), .int .i64 (f2 0), .int .i64 (f2 1), .int .i64 (f2 2), .int .i64 (f2 3), .int .i64 (f2 4), .int .i64 (f2 5), .int .i64 (f2 6), .int .i64 (f2 7)] 60)) 37 #[.string op, .int .i64 d, .int .i64 ra, .int .i64 b, .int .i64 k]
    rwa [World.size_alloc] at this
  have e3 : w.grownBy W1 none := by
    rw [← hW1]
    exact grown_same (World.grownBy_alloc _ _ _) (World.grownBy_alloc _ _ _)
  have q1 := e1.look (1 + ra)
  rw [stC_get1 at' f1 f2 ra hra] at q1
  have x2 := e2.look 2; have x4 := e2.look 4
  simp at x2 x4
  have hp : (f1 ra + k) % 8 = ((placeN f1 ra k : Nat) : Int) := by
    unfold placeN
    omega
  have HP := shade hp
  have HW1 := shade hW1
  have HG := shade e3
  clear e1 e2 e3 hp hW1
  generalize placeN f1 ra k = pl at *
  generalize hx : f1 ra = x at *
  go_enter Tryd.func58, Tryd.ntmps58
  go_wp2_with fail
  rw [HW1.out]
  clear HW1
  go_quiet (fail)
  go_wp2
  refine bodyPost_ret (results_tmp rfl _ _ _) rfl ⟨?_, grown_drewN HG.out _⟩
  rw [← HP.out]
  rfl


set_option maxRecDepth 100000 in
set_option maxHeartbeats 8000000 in
theorem step_0 (b off len cap m rd ra rb : Nat) (k : Int) (op : ByteArray) (F : Nat → Ins) (f1 f2 : Nat → Int) (w : World) (hg : WT w) (hC : Code w (some ⟨b, off, none⟩) len F) (hm : m < len) (hlen : len ≤ 40) (hF : F m = ⟨op, rd, ra, rb, k⟩) (hw : wordN op.toList = 0)
    (hd : rd < 4) (ha : ra < 4) (hb : rb < 4) (k0 : 0 ≤ k) (k1 : k ≤ 255) (ok1 : ∀ j, j < 4 → 0 ≤ f1 j ∧ f1 j ≤ 255) :
    Calls Tryd.prog 47 #[.slice (some ⟨b, off, none⟩) len cap, SV m f1 f2] w fun e w' => e = .returned (.tuple #[SV (stepAt 0 m ra k f1) (stepRegs 0 rd ra rb k f1 f2) (stepMem 0 rd ra k f1 f2), .bool true]) ∧ w.grownBy w' none := by
  obtain ⟨W0, hW0⟩ : ∃ W0, (w.alloc (.cells #[.int .i64 m, .int .i64 (f1 0), .int .i64 (f1 1), .int .i64 (f1 2), .int .i64 (f1 3), .int .i64 (f2 0), .int .i64 (f2 1), .int .i64 (f2 2), .int .i64 (f2 3), .int .i64 (f2 4), .int .i64 (f2 5), .int .i64 (f2 6), .int .i64 (f2 7)] 60)).alloc (.cells #[.int .i64 0, .int .i64 0, .int .i64 0, .int .i64 0, .int .i64 0, .int .i64 0, .int .i64 0, .int .i64 0, .int .i64 0, .int .i64 0, .int .i64 0, .int .i64 0, .int .i64 0] 60) = W0 := ⟨_, rfl⟩
  have e1 : Holds5 W0 w.heap.size 60 (stC m f1 f2) := by
    rw [← hW0]
    exact (Holds5.fresh w 60 #[.int .i64 m, .int .i64 (f1 0), .int .i64 (f1 1), .int .i64 (f1 2), .int .i64 (f1 3), .int .i64 (f2 0), .int .i64 (f2 1), .int .i64 (f2 2), .int .i64 (f2 3), .int .i64 (f2 4), .int .i64 (f2 5), .int .i64 (f2 6), .int .i64 (f2 7)]).alloc _
  have e2 : Holds5 W0 (w.heap.size + 1) 60 #[.int .i64 0, .int .i64 0, .int .i64 0, .int .i64 0, .int .i64 0, .int .i64 0, .int .i64 0, .int .i64 0, .int .i64 0, .int .i64 0, .int .i64 0, .int .i64 0, .int .i64 0] := by
    rw [← hW0]
    have := Holds5.fresh (w.alloc (.cells #[.int .i64 m, .int .i64 (f1 0), .int .i64 (f1 1), .int .i64 (f1 2), .int .i64 (f1 3), .int .i64 (f2 0), .int .i64 (f2 1), .int .i64 (f2 2), .int .i64 (f2 3), .int .i64 (f2 4), .int .i64 (f2 5), .int .i64 (f2 6), .int .i64 (f2 7)] 60)) 60 #[.int .i64 0, .int .i64 0, .int .i64 0, .int .i64 0, .int .i64 0, .int .i64 0, .int .i64 0, .int .i64 0, .int .i64 0, .int .i64 0, .int .i64 0, .int .i64 0, .int .i64 0]
    rwa [World.size_alloc] at this
  have e3 : w.grownBy W0 none := by
    rw [← hW0]
    exact grown_same (World.grownBy_alloc _ _ _) (World.grownBy_alloc _ _ _)
  have hz : W0.heap.size = w.heap.size + 2 := by
    rw [← hW0, World.size_alloc, World.size_alloc]
  obtain ⟨q0, q1, q2, q3, q4⟩ := (hC.on e3).five hm
  rw [hF] at q0 q1 q2 q3 q4
  simp only [] at q0 q1 q2 q3 q4
  have hk0 := k0; have hk1 := k1
  obtain ⟨a0, a1⟩ := ok1 ra ha
  obtain ⟨b0, b1⟩ := ok1 rb hb
  have HG := shade (hg.below (below_of_grown e3) (wt_lt hg))
  have x0 := e1.look 0
  simp [stC] at x0
  have HW0 := shade hW0
  have E1 := shade e1; have E2 := shade e2; have E3 := shade e3; have HWd := shade hw; have HGL := shade (show 0 < w.heap.size from wt_lt hg)
  clear e1 e2 e3 hW0 hg hC hF hw ok1
  go_enter Tryd.func47, Tryd.ntmps47
  go_upto_region 1 with (fail)
  rw [HW0.out]
  clear HW0
  go_upto_region 4 with (fail)
  have e1 := E1.out.alloc (.cells #[.string op, .int .i64 rd, .int .i64 ra, .int .i64 rb, .int .i64 k] 37)
  have e2 := E2.out.alloc (.cells #[.string op, .int .i64 rd, .int .i64 ra, .int .i64 rb, .int .i64 k] 37)
  have e3 := grown_same E3.out (World.grownBy_alloc W0 (.cells #[.string op, .int .i64 rd, .int .i64 ra, .int .i64 rb, .int .i64 k] 37) none)
  have e4 := Holds5.fresh W0 37 #[.string op, .int .i64 rd, .int .i64 ra, .int .i64 rb, .int .i64 k]
  have hg1 := HG.out.alloc (.cells #[.string op, .int .i64 rd, .int .i64 ra, .int .i64 rb, .int .i64 k] 37)
  generalize W0.alloc (.cells #[.string op, .int .i64 rd, .int .i64 ra, .int .i64 rb, .int .i64 k] 37) = W1 at *
  clear E1 E2 E3 HG q0 q1 q2 q3 q4 x0
  rw [hz] at e4
  try simp only [hz]
  have x0 := e1.look 0; have xa := e1.look (1 + ra); have xb := e1.look (1 + rb); have xd := e1.look (1 + rd)
  rw [stC_get1 _ _ _ _ ha] at xa
  rw [stC_get1 _ _ _ _ hb] at xb
  rw [stC_get1 _ _ _ _ hd] at xd
  have y0 := e4.look 0; have y1 := e4.look 1; have y2 := e4.look 2; have y3 := e4.look 3; have y4 := e4.look 4
  simp at y0 y1 y2 y3 y4
  simp [stC] at x0
  have xf := e1.free 0
  have E1 := shade e1; have E2 := shade e2; have E3 := shade e3; have E4 := shade e4; have HG := shade hg1
  clear e1 e2 e3 e4 hg1 hz
  go_quiet (fail)
  go_upto_region 6 with (fail)
  have e1 := (E1.out.put 0 (.int .i64 ((m : Int) + 1)))
  have e2 := E2.out.far (r := w.heap.size) (by omega) 0 (.int .i64 ((m : Int) + 1))
  have e3 := grown_put E3.out (r := w.heap.size) (Nat.le_refl _) 0 (.int .i64 ((m : Int) + 1))
  have e4 := E4.out.far (r := w.heap.size) (by omega) 0 (.int .i64 ((m : Int) + 1))
  have hg1 := HG.out.far0 w.heap.size 0 (.int .i64 ((m : Int) + 1)) HGL.out
  replace e1 := e1.drewN nq
  replace e2 := e2.drewN nq
  replace e4 := e4.drewN nq
  replace e3 := grown_drewN e3 nq
  replace hg1 := hg1.drewN nq
  change Holds5 ((W1.drewN nq).setCell ⟨w.heap.size, 0, none⟩ (.int .i64 ((m : Int) + 1))) w.heap.size 60 (stC ((m : Int) + 1) f1 f2) at e1
  change Holds5 ((W1.drewN nq).setCell ⟨w.heap.size, 0, none⟩ (.int .i64 ((m : Int) + 1))) _ _ _ at e2
  change Holds5 ((W1.drewN nq).setCell ⟨w.heap.size, 0, none⟩ (.int .i64 ((m : Int) + 1))) _ _ _ at e4
  change w.grownBy ((W1.drewN nq).setCell ⟨w.heap.size, 0, none⟩ (.int .i64 ((m : Int) + 1))) none at e3
  change WT ((W1.drewN nq).setCell ⟨w.heap.size, 0, none⟩ (.int .i64 ((m : Int) + 1))) at hg1
  generalize (W1.drewN nq).setCell ⟨w.heap.size, 0, none⟩ (.int .i64 ((m : Int) + 1)) = W2 at *
  clear E1 E2 E3 E4 HG x0 xa xb xd y0 y1 y2 y3 y4 xf
  have x0 := e1.look 0; have xa := e1.look (1 + ra); have xb := e1.look (1 + rb); have xd := e1.look (1 + rd)
  rw [stC_get1 _ _ _ _ ha] at xa
  rw [stC_get1 _ _ _ _ hb] at xb
  rw [stC_get1 _ _ _ _ hd] at xd
  have y0 := e4.look 0; have y1 := e4.look 1; have y2 := e4.look 2; have y3 := e4.look 3; have y4 := e4.look 4
  simp at y0 y1 y2 y3 y4
  simp [stC] at x0
  have xf := e1.free 0; have xg := e1.free (1 + rd)
  have E1 := shade e1; have E2 := shade e2; have E3 := shade e3; have E4 := shade e4; have HG := shade hg1
  clear e1 e2 e3 e4 hg1
  go_upto_region 26 with (first | (go_at_call 29; refine (wordOf_any _ _ HG.out).mono ?_; rw [HWd.out]; rintro e w' ⟨rfl, rfl⟩))
  have h1 := E1.out.put (1 + rd) (.int .i64 k)
  rw [stC_set1 _ _ _ _ hd] at h1
  have h2 := E2.out.far (r := w.heap.size) (by omega) (1 + rd) (.int .i64 k)
  have h3 := grown_put E3.out (r := w.heap.size) (Nat.le_refl _) (1 + rd) (.int .i64 k)
  change Holds5 _ w.heap.size 60 (stC ((m : Int) + 1) (upd f1 rd k) f2) at h1
  generalize W2.setCell ⟨w.heap.size, 1 + rd, none⟩ (.int .i64 k) = W3 at *
  clear E1 E2 E3 E4 HG
  have E1 := shade h1; have E2 := shade h2; have E3 := shade h3; have E4 := true; have HG := true
  clear h1 h2 h3
  clear x0 xa xb xd y0 y1 y2 y3 y4 xf xg
  have y0 := E1.out.look 0; have y1 := E1.out.look 1; have y2 := E1.out.look 2; have y3 := E1.out.look 3; have y4 := E1.out.look 4; have y5 := E1.out.look 5; have y6 := E1.out.look 6; have y7 := E1.out.look 7; have y8 := E1.out.look 8; have y9 := E1.out.look 9; have y10 := E1.out.look 10; have y11 := E1.out.look 11; have y12 := E1.out.look 12
  simp [stC] at y0 y1 y2 y3 y4 y5 y6 y7 y8 y9 y10 y11 y12
  have z0 := E2.out.look 0; have t0 := E2.out.free 0; have z1 := E2.out.look 1; have t1 := E2.out.free 1; have z2 := E2.out.look 2; have t2 := E2.out.free 2; have z3 := E2.out.look 3; have t3 := E2.out.free 3; have z4 := E2.out.look 4; have t4 := E2.out.free 4; have z5 := E2.out.look 5; have t5 := E2.out.free 5; have z6 := E2.out.look 6; have t6 := E2.out.free 6; have z7 := E2.out.look 7; have t7 := E2.out.free 7; have z8 := E2.out.look 8; have t8 := E2.out.free 8; have z9 := E2.out.look 9; have t9 := E2.out.free 9; have z10 := E2.out.look 10; have t10 := E2.out.free 10; have z11 := E2.out.look 11; have t11 := E2.out.free 11; have z12 := E2.out.look 12; have t12 := E2.out.free 12
  simp at z0 z1 z2 z3 z4 z5 z6 z7 z8 z9 z10 z11 z12
  have hP := (((((((((((((E2.out.put 0 (.int .i64 ((m : Int) + 1))).put 1 (.int .i64 ((upd f1 rd k) 0))).put 2 (.int .i64 ((upd f1 rd k) 1))).put 3 (.int .i64 ((upd f1 rd k) 2))).put 4 (.int .i64 ((upd f1 rd k) 3))).put 5 (.int .i64 (f2 0))).put 6 (.int .i64 (f2 1))).put 7 (.int .i64 (f2 2))).put 8 (.int .i64 (f2 3))).put 9 (.int .i64 (f2 4))).put 10 (.int .i64 (f2 5))).put 11 (.int .i64 (f2 6))).put 12 (.int .i64 (f2 7)))
  have hG := (grown_put (r := w.heap.size + 1) (grown_put (r := w.heap.size + 1) (grown_put (r := w.heap.size + 1) (grown_put (r := w.heap.size + 1) (grown_put (r := w.heap.size + 1) (grown_put (r := w.heap.size + 1) (grown_put (r := w.heap.size + 1) (grown_put (r := w.heap.size + 1) (grown_put (r := w.heap.size + 1) (grown_put (r := w.heap.size + 1) (grown_put (r := w.heap.size + 1) (grown_put (r := w.heap.size + 1) (grown_put (r := w.heap.size + 1) E3.out (by omega) 0 (.int .i64 ((m : Int) + 1))) (by omega) 1 (.int .i64 ((upd f1 rd k) 0))) (by omega) 2 (.int .i64 ((upd f1 rd k) 1))) (by omega) 3 (.int .i64 ((upd f1 rd k) 2))) (by omega) 4 (.int .i64 ((upd f1 rd k) 3))) (by omega) 5 (.int .i64 (f2 0))) (by omega) 6 (.int .i64 (f2 1))) (by omega) 7 (.int .i64 (f2 2))) (by omega) 8 (.int .i64 (f2 3))) (by omega) 9 (.int .i64 (f2 4))) (by omega) 10 (.int .i64 (f2 5))) (by omega) 11 (.int .i64 (f2 6))) (by omega) 12 (.int .i64 (f2 7)))
  simp at hP
  have HP := shade hP
  have HGF := shade hG
  clear hP hG E1 E4 HG
  go_wp2_with fail
  have hP := HP.out
  have q0 := hP.look 0; have q1 := hP.look 1; have q2 := hP.look 2; have q3 := hP.look 3; have q4 := hP.look 4; have q5 := hP.look 5; have q6 := hP.look 6; have q7 := hP.look 7; have q8 := hP.look 8; have q9 := hP.look 9; have q10 := hP.look 10; have q11 := hP.look 11; have q12 := hP.look 12
  simp at q0 q1 q2 q3 q4 q5 q6 q7 q8 q9 q10 q11 q12
  refine bodyPost_ret (v := .tuple #[SV ((m : Int) + 1) (upd f1 rd k) f2, .bool true]) (by simp [results, Tryd.results47, go_sem, q0, q1, q2, q3, q4, q5, q6, q7, q8, q9, q10, q11, q12]) rfl ⟨?_, HGF.out⟩
  simp [stepAt, stepRegs, stepMem, stepVal]


set_option maxRecDepth 100000 in
set_option maxHeartbeats 8000000 in
theorem step_1 (b off len cap m rd ra rb : Nat) (k : Int) (op : ByteArray) (F : Nat → Ins) (f1 f2 : Nat → Int) (w : World) (hg : WT w) (hC : Code w (some ⟨b, off, none⟩) len F) (hm : m < len) (hlen : len ≤ 40) (hF : F m = ⟨op, rd, ra, rb, k⟩) (hw : wordN op.toList = 1)
    (hd : rd < 4) (ha : ra < 4) (hb : rb < 4) (k0 : 0 ≤ k) (k1 : k ≤ 255) (ok1 : ∀ j, j < 4 → 0 ≤ f1 j ∧ f1 j ≤ 255) :
    Calls Tryd.prog 47 #[.slice (some ⟨b, off, none⟩) len cap, SV m f1 f2] w fun e w' => e = .returned (.tuple #[SV (stepAt 1 m ra k f1) (stepRegs 1 rd ra rb k f1 f2) (stepMem 1 rd ra k f1 f2), .bool true]) ∧ w.grownBy w' none := by
  obtain ⟨W0, hW0⟩ : ∃ W0, (w.alloc (.cells #[.int .i64 m, .int .i64 (f1 0), .int .i64 (f1 1), .int .i64 (f1 2), .int .i64 (f1 3), .int .i64 (f2 0), .int .i64 (f2 1), .int .i64 (f2 2), .int .i64 (f2 3), .int .i64 (f2 4), .int .i64 (f2 5), .int .i64 (f2 6), .int .i64 (f2 7)] 60)).alloc (.cells #[.int .i64 0, .int .i64 0, .int .i64 0, .int .i64 0, .int .i64 0, .int .i64 0, .int .i64 0, .int .i64 0, .int .i64 0, .int .i64 0, .int .i64 0, .int .i64 0, .int .i64 0] 60) = W0 := ⟨_, rfl⟩
  have e1 : Holds5 W0 w.heap.size 60 (stC m f1 f2) := by
    rw [← hW0]
    exact (Holds5.fresh w 60 #[.int .i64 m, .int .i64 (f1 0), .int .i64 (f1 1), .int .i64 (f1 2), .int .i64 (f1 3), .int .i64 (f2 0), .int .i64 (f2 1), .int .i64 (f2 2), .int .i64 (f2 3), .int .i64 (f2 4), .int .i64 (f2 5), .int .i64 (f2 6), .int .i64 (f2 7)]).alloc _
  have e2 : Holds5 W0 (w.heap.size + 1) 60 #[.int .i64 0, .int .i64 0, .int .i64 0, .int .i64 0, .int .i64 0, .int .i64 0, .int .i64 0, .int .i64 0, .int .i64 0, .int .i64 0, .int .i64 0, .int .i64 0, .int .i64 0] := by
    rw [← hW0]
    have := Holds5.fresh (w.alloc (.cells #[.int .i64 m, .int .i64 (f1 0), .int .i64 (f1 1), .int .i64 (f1 2), .int .i64 (f1 3), .int .i64 (f2 0), .int .i64 (f2 1), .int .i64 (f2 2), .int .i64 (f2 3), .int .i64 (f2 4), .int .i64 (f2 5), .int .i64 (f2 6), .int .i64 (f2 7)] 60)) 60 #[.int .i64 0, .int .i64 0, .int .i64 0, .int .i64 0, .int .i64 0, .int .i64 0, .int .i64 0, .int .i64 0, .int .i64 0, .int .i64 0, .int .i64 0, .int .i64 0, .int .i64 0]
    rwa [World.size_alloc] at this
  have e3 : w.grownBy W0 none := by
    rw [← hW0]
    exact grown_same (World.grownBy_alloc _ _ _) (World.grownBy_alloc _ _ _)
  have hz : W0.heap.size = w.heap.size + 2 := by
    rw [← hW0, World.size_alloc, World.size_alloc]
  obtain ⟨q0, q1, q2, q3, q4⟩ := (hC.on e3).five hm
  rw [hF] at q0 q1 q2 q3 q4
  simp only [] at q0 q1 q2 q3 q4
  have hk0 := k0; have hk1 := k1
  obtain ⟨a0, a1⟩ := ok1 ra ha
  obtain ⟨b0, b1⟩ := ok1 rb hb
  have HG := shade (hg.below (below_of_grown e3) (wt_lt hg))
  have x0 := e1.look 0
  simp [stC] at x0
  have HW0 := shade hW0
  have E1 := shade e1; have E2 := shade e2; have E3 := shade e3; have HWd := shade hw; have HGL := shade (show 0 < w.heap.size from wt_lt hg)
  clear e1 e2 e3 hW0 hg hC hF hw ok1
  go_enter Tryd.func47, Tryd.ntmps47
  go_upto_region 1 with (fail)
  rw [HW0.out]
  clear HW0
  go_upto_region 4 with (fail)
  have e1 := E1.out.alloc (.cells #[.string op, .int .i64 rd, .int .i64 ra, .int .i64 rb, .int .i64 k] 37)
  have e2 := E2.out.alloc (.cells #[.string op, .int .i64 rd, .int .i64 ra, .int .i64 rb, .int .i64 k] 37)
  have e3 := grown_same E3.out (World.grownBy_alloc W0 (.cells #[.string op, .int .i64 rd, .int .i64 ra, .int .i64 rb, .int .i64 k] 37) none)
  have e4 := Holds5.fresh W0 37 #[.string op, .int .i64 rd, .int .i64 ra, .int .i64 rb, .int .i64 k]
  have hg1 := HG.out.alloc (.cells #[.string op, .int .i64 rd, .int .i64 ra, .int .i64 rb, .int .i64 k] 37)
  generalize W0.alloc (.cells #[.string op, .int .i64 rd, .int .i64 ra, .int .i64 rb, .int .i64 k] 37) = W1 at *
  clear E1 E2 E3 HG q0 q1 q2 q3 q4 x0
  rw [hz] at e4
  try simp only [hz]
  have x0 := e1.look 0; have xa := e1.look (1 + ra); have xb := e1.look (1 + rb); have xd := e1.look (1 + rd)
  rw [stC_get1 _ _ _ _ ha] at xa
  rw [stC_get1 _ _ _ _ hb] at xb
  rw [stC_get1 _ _ _ _ hd] at xd
  have y0 := e4.look 0; have y1 := e4.look 1; have y2 := e4.look 2; have y3 := e4.look 3; have y4 := e4.look 4
  simp at y0 y1 y2 y3 y4
  simp [stC] at x0
  have xf := e1.free 0
  have E1 := shade e1; have E2 := shade e2; have E3 := shade e3; have E4 := shade e4; have HG := shade hg1
  clear e1 e2 e3 e4 hg1 hz
  go_quiet (fail)
  go_upto_region 6 with (fail)
  have e1 := (E1.out.put 0 (.int .i64 ((m : Int) + 1)))
  have e2 := E2.out.far (r := w.heap.size) (by omega) 0 (.int .i64 ((m : Int) + 1))
  have e3 := grown_put E3.out (r := w.heap.size) (Nat.le_refl _) 0 (.int .i64 ((m : Int) + 1))
  have e4 := E4.out.far (r := w.heap.size) (by omega) 0 (.int .i64 ((m : Int) + 1))
  have hg1 := HG.out.far0 w.heap.size 0 (.int .i64 ((m : Int) + 1)) HGL.out
  replace e1 := e1.drewN nq
  replace e2 := e2.drewN nq
  replace e4 := e4.drewN nq
  replace e3 := grown_drewN e3 nq
  replace hg1 := hg1.drewN nq
  change Holds5 ((W1.drewN nq).setCell ⟨w.heap.size, 0, none⟩ (.int .i64 ((m : Int) + 1))) w.heap.size 60 (stC ((m : Int) + 1) f1 f2) at e1
  change Holds5 ((W1.drewN nq).setCell ⟨w.heap.size, 0, none⟩ (.int .i64 ((m : Int) + 1))) _ _ _ at e2
  change Holds5 ((W1.drewN nq).setCell ⟨w.heap.size, 0, none⟩ (.int .i64 ((m : Int) + 1))) _ _ _ at e4
  change w.grownBy ((W1.drewN nq).setCell ⟨w.heap.size, 0, none⟩ (.int .i64 ((m : Int) + 1))) none at e3
  change WT ((W1.drewN nq).setCell ⟨w.heap.size, 0, none⟩ (.int .i64 ((m : Int) + 1))) at hg1
  generalize (W1.drewN nq).setCell ⟨w.heap.size, 0, none⟩ (.int .i64 ((m : Int) + 1)) = W2 at *
  clear E1 E2 E3 E4 HG x0 xa xb xd y0 y1 y2 y3 y4 xf
  have x0 := e1.look 0; have xa := e1.look (1 + ra); have xb := e1.look (1 + rb); have xd := e1.look (1 + rd)
  rw [stC_get1 _ _ _ _ ha] at xa
  rw [stC_get1 _ _ _ _ hb] at xb
  rw [stC_get1 _ _ _ _ hd] at xd
  have y0 := e4.look 0; have y1 := e4.look 1; have y2 := e4.look 2; have y3 := e4.look 3; have y4 := e4.look 4
  simp at y0 y1 y2 y3 y4
  simp [stC] at x0
  have xf := e1.free 0; have xg := e1.free (1 + rd)
  have E1 := shade e1; have E2 := shade e2; have E3 := shade e3; have E4 := shade e4; have HG := shade hg1
  clear e1 e2 e3 e4 hg1
  have HWO := shade (fun W => workOut_any 1 (f1 ra) (f1 rb) W (by omega) a0 a1 b0 b1)
  go_upto_block 0 with (first | (go_at_call 29; refine (wordOf_any _ _ HG.out).mono ?_; rw [HWd.out]; rintro e w' ⟨rfl, rfl⟩))
  go_cut [] from 37 to 98 (fun wx => Holds5 wx w.heap.size 60 (stC ((m : Int) + 1) (upd f1 rd (opVal 1 (f1 ra) (f1 rb))) f2) ∧ Holds5 wx (w.heap.size + 1) 60 #[.int .i64 0, .int .i64 0, .int .i64 0, .int .i64 0, .int .i64 0, .int .i64 0, .int .i64 0, .int .i64 0, .int .i64 0, .int .i64 0, .int .i64 0, .int .i64 0, .int .i64 0] ∧ w.grownBy wx none)
  case first =>
    go_upto_region 16 with (fail)
    go_region_with (first | (go_at_call 57; refine (HWO.out _).mono ?_; rintro e w9 ⟨rfl, rfl⟩; have e1 := E1.out.drew; have e2 := E2.out.drew; have e3 := grown_same E3.out (grown_drew1 W2); have xg9 := e1.free (1 + rd); have h1 := e1.put (1 + rd) (.int .i64 (opVal 1 (f1 ra) (f1 rb))); rw [stC_set1 _ _ _ _ hd] at h1; have h2 := e2.far (r := w.heap.size) (by omega) (1 + rd) (.int .i64 (opVal 1 (f1 ra) (f1 rb))); have h3 := grown_put e3 (r := w.heap.size) (Nat.le_refl _) (1 + rd) (.int .i64 (opVal 1 (f1 ra) (f1 rb))); have F1 := shade h1; have F2 := shade h2; have F3 := shade h3; clear e1 e2 e3 h1 h2 h3))
    all_goals (go_wp2_with fail; go_meet; exact ⟨F1.out, F2.out, F3.out⟩)
  case rest =>
    clear E1 E2 E3 E4 HG x0 xa xb xd y0 y1 y2 y3 y4 xf xg
    obtain ⟨h1, h2, h3⟩ := hcut
    have E1 := shade h1; have E2 := shade h2; have E3 := shade h3
    clear h1 h2 h3
    have E4 := true; have HG := true; have x0 := true; have xa := true; have xb := true; have xd := true; have y0 := true; have y1 := true; have y2 := true; have y3 := true; have y4 := true; have xf := true; have xg := true
    go_upto_region 26 with (fail)
    clear x0 xa xb xd y0 y1 y2 y3 y4 xf xg
    have y0 := E1.out.look 0; have y1 := E1.out.look 1; have y2 := E1.out.look 2; have y3 := E1.out.look 3; have y4 := E1.out.look 4; have y5 := E1.out.look 5; have y6 := E1.out.look 6; have y7 := E1.out.look 7; have y8 := E1.out.look 8; have y9 := E1.out.look 9; have y10 := E1.out.look 10; have y11 := E1.out.look 11; have y12 := E1.out.look 12
    simp [stC] at y0 y1 y2 y3 y4 y5 y6 y7 y8 y9 y10 y11 y12
    have z0 := E2.out.look 0; have t0 := E2.out.free 0; have z1 := E2.out.look 1; have t1 := E2.out.free 1; have z2 := E2.out.look 2; have t2 := E2.out.free 2; have z3 := E2.out.look 3; have t3 := E2.out.free 3; have z4 := E2.out.look 4; have t4 := E2.out.free 4; have z5 := E2.out.look 5; have t5 := E2.out.free 5; have z6 := E2.out.look 6; have t6 := E2.out.free 6; have z7 := E2.out.look 7; have t7 := E2.out.free 7; have z8 := E2.out.look 8; have t8 := E2.out.free 8; have z9 := E2.out.look 9; have t9 := E2.out.free 9; have z10 := E2.out.look 10; have t10 := E2.out.free 10; have z11 := E2.out.look 11; have t11 := E2.out.free 11; have z12 := E2.out.look 12; have t12 := E2.out.free 12
    simp at z0 z1 z2 z3 z4 z5 z6 z7 z8 z9 z10 z11 z12
    have hP := (((((((((((((E2.out.put 0 (.int .i64 ((m : Int) + 1))).put 1 (.int .i64 ((upd f1 rd (opVal 1 (f1 ra) (f1 rb))) 0))).put 2 (.int .i64 ((upd f1 rd (opVal 1 (f1 ra) (f1 rb))) 1))).put 3 (.int .i64 ((upd f1 rd (opVal 1 (f1 ra) (f1 rb))) 2))).put 4 (.int .i64 ((upd f1 rd (opVal 1 (f1 ra) (f1 rb))) 3))).put 5 (.int .i64 (f2 0))).put 6 (.int .i64 (f2 1))).put 7 (.int .i64 (f2 2))).put 8 (.int .i64 (f2 3))).put 9 (.int .i64 (f2 4))).put 10 (.int .i64 (f2 5))).put 11 (.int .i64 (f2 6))).put 12 (.int .i64 (f2 7)))
    have hG := (grown_put (r := w.heap.size + 1) (grown_put (r := w.heap.size + 1) (grown_put (r := w.heap.size + 1) (grown_put (r := w.heap.size + 1) (grown_put (r := w.heap.size + 1) (grown_put (r := w.heap.size + 1) (grown_put (r := w.heap.size + 1) (grown_put (r := w.heap.size + 1) (grown_put (r := w.heap.size + 1) (grown_put (r := w.heap.size + 1) (grown_put (r := w.heap.size + 1) (grown_put (r := w.heap.size + 1) (grown_put (r := w.heap.size + 1) E3.out (by omega) 0 (.int .i64 ((m : Int) + 1))) (by omega) 1 (.int .i64 ((upd f1 rd (opVal 1 (f1 ra) (f1 rb))) 0))) (by omega) 2 (.int .i64 ((upd f1 rd (opVal 1 (f1 ra) (f1 rb))) 1))) (by omega) 3 (.int .i64 ((upd f1 rd (opVal 1 (f1 ra) (f1 rb))) 2))) (by omega) 4 (.int .i64 ((upd f1 rd (opVal 1 (f1 ra) (f1 rb))) 3))) (by omega) 5 (.int .i64 (f2 0))) (by omega) 6 (.int .i64 (f2 1))) (by omega) 7 (.int .i64 (f2 2))) (by omega) 8 (.int .i64 (f2 3))) (by omega) 9 (.int .i64 (f2 4))) (by omega) 10 (.int .i64 (f2 5))) (by omega) 11 (.int .i64 (f2 6))) (by omega) 12 (.int .i64 (f2 7)))
    simp at hP
    have HP := shade hP
    have HGF := shade hG
    clear hP hG E1 E4 HG
    go_wp2_with fail
    have hP := HP.out
    have q0 := hP.look 0; have q1 := hP.look 1; have q2 := hP.look 2; have q3 := hP.look 3; have q4 := hP.look 4; have q5 := hP.look 5; have q6 := hP.look 6; have q7 := hP.look 7; have q8 := hP.look 8; have q9 := hP.look 9; have q10 := hP.look 10; have q11 := hP.look 11; have q12 := hP.look 12
    simp at q0 q1 q2 q3 q4 q5 q6 q7 q8 q9 q10 q11 q12
    refine bodyPost_ret (v := .tuple #[SV ((m : Int) + 1) (upd f1 rd (opVal 1 (f1 ra) (f1 rb))) f2, .bool true]) (by simp [results, Tryd.results47, go_sem, q0, q1, q2, q3, q4, q5, q6, q7, q8, q9, q10, q11, q12]) rfl ⟨?_, HGF.out⟩
    simp [stepAt, stepRegs, stepMem, stepVal, opVal]


set_option maxRecDepth 100000 in
set_option maxHeartbeats 8000000 in
theorem step_2 (b off len cap m rd ra rb : Nat) (k : Int) (op : ByteArray) (F : Nat → Ins) (f1 f2 : Nat → Int) (w : World) (hg : WT w) (hC : Code w (some ⟨b, off, none⟩) len F) (hm : m < len) (hlen : len ≤ 40) (hF : F m = ⟨op, rd, ra, rb, k⟩) (hw : wordN op.toList = 2)
    (hd : rd < 4) (ha : ra < 4) (hb : rb < 4) (k0 : 0 ≤ k) (k1 : k ≤ 255) (ok1 : ∀ j, j < 4 → 0 ≤ f1 j ∧ f1 j ≤ 255) :
    Calls Tryd.prog 47 #[.slice (some ⟨b, off, none⟩) len cap, SV m f1 f2] w fun e w' => e = .returned (.tuple #[SV (stepAt 2 m ra k f1) (stepRegs 2 rd ra rb k f1 f2) (stepMem 2 rd ra k f1 f2), .bool true]) ∧ w.grownBy w' none := by
  obtain ⟨W0, hW0⟩ : ∃ W0, (w.alloc (.cells #[.int .i64 m, .int .i64 (f1 0), .int .i64 (f1 1), .int .i64 (f1 2), .int .i64 (f1 3), .int .i64 (f2 0), .int .i64 (f2 1), .int .i64 (f2 2), .int .i64 (f2 3), .int .i64 (f2 4), .int .i64 (f2 5), .int .i64 (f2 6), .int .i64 (f2 7)] 60)).alloc (.cells #[.int .i64 0, .int .i64 0, .int .i64 0, .int .i64 0, .int .i64 0, .int .i64 0, .int .i64 0, .int .i64 0, .int .i64 0, .int .i64 0, .int .i64 0, .int .i64 0, .int .i64 0] 60) = W0 := ⟨_, rfl⟩
  have e1 : Holds5 W0 w.heap.size 60 (stC m f1 f2) := by
    rw [← hW0]
    exact (Holds5.fresh w 60 #[.int .i64 m, .int .i64 (f1 0), .int .i64 (f1 1), .int .i64 (f1 2), .int .i64 (f1 3), .int .i64 (f2 0), .int .i64 (f2 1), .int .i64 (f2 2), .int .i64 (f2 3), .int .i64 (f2 4), .int .i64 (f2 5), .int .i64 (f2 6), .int .i64 (f2 7)]).alloc _
  have e2 : Holds5 W0 (w.heap.size + 1) 60 #[.int .i64 0, .int .i64 0, .int .i64 0, .int .i64 0, .int .i64 0, .int .i64 0, .int .i64 0, .int .i64 0, .int .i64 0, .int .i64 0, .int .i64 0, .int .i64 0, .int .i64 0] := by
    rw [← hW0]
    have := Holds5.fresh (w.alloc (.cells #[.int .i64 m, .int .i64 (f1 0), .int .i64 (f1 1), .int .i64 (f1 2), .int .i64 (f1 3), .int .i64 (f2 0), .int .i64 (f2 1), .int .i64 (f2 2), .int .i64 (f2 3), .int .i64 (f2 4), .int .i64 (f2 5), .int .i64 (f2 6), .int .i64 (f2 7)] 60)) 60 #[.int .i64 0, .int .i64 0, .int .i64 0, .int .i64 0, .int .i64 0, .int .i64 0, .int .i64 0, .int .i64 0, .int .i64 0, .int .i64 0, .int .i64 0, .int .i64 0, .int .i64 0]
    rwa [World.size_alloc] at this
  have e3 : w.grownBy W0 none := by
    rw [← hW0]
    exact grown_same (World.grownBy_alloc _ _ _) (World.grownBy_alloc _ _ _)
  have hz : W0.heap.size = w.heap.size + 2 := by
    rw [← hW0, World.size_alloc, World.size_alloc]
  obtain ⟨q0, q1, q2, q3, q4⟩ := (hC.on e3).five hm
  rw [hF] at q0 q1 q2 q3 q4
  simp only [] at q0 q1 q2 q3 q4
  have hk0 := k0; have hk1 := k1
  obtain ⟨a0, a1⟩ := ok1 ra ha
  obtain ⟨b0, b1⟩ := ok1 rb hb
  have HG := shade (hg.below (below_of_grown e3) (wt_lt hg))
  have x0 := e1.look 0
  simp [stC] at x0
  have HW0 := shade hW0
  have E1 := shade e1; have E2 := shade e2; have E3 := shade e3; have HWd := shade hw; have HGL := shade (show 0 < w.heap.size from wt_lt hg)
  clear e1 e2 e3 hW0 hg hC hF hw ok1
  go_enter Tryd.func47, Tryd.ntmps47
  go_upto_region 1 with (fail)
  rw [HW0.out]
  clear HW0
  go_upto_region 4 with (fail)
  have e1 := E1.out.alloc (.cells #[.string op, .int .i64 rd, .int .i64 ra, .int .i64 rb, .int .i64 k] 37)
  have e2 := E2.out.alloc (.cells #[.string op, .int .i64 rd, .int .i64 ra, .int .i64 rb, .int .i64 k] 37)
  have e3 := grown_same E3.out (World.grownBy_alloc W0 (.cells #[.string op, .int .i64 rd, .int .i64 ra, .int .i64 rb, .int .i64 k] 37) none)
  have e4 := Holds5.fresh W0 37 #[.string op, .int .i64 rd, .int .i64 ra, .int .i64 rb, .int .i64 k]
  have hg1 := HG.out.alloc (.cells #[.string op, .int .i64 rd, .int .i64 ra, .int .i64 rb, .int .i64 k] 37)
  generalize W0.alloc (.cells #[.string op, .int .i64 rd, .int .i64 ra, .int .i64 rb, .int .i64 k] 37) = W1 at *
  clear E1 E2 E3 HG q0 q1 q2 q3 q4 x0
  rw [hz] at e4
  try simp only [hz]
  have x0 := e1.look 0; have xa := e1.look (1 + ra); have xb := e1.look (1 + rb); have xd := e1.look (1 + rd)
  rw [stC_get1 _ _ _ _ ha] at xa
  rw [stC_get1 _ _ _ _ hb] at xb
  rw [stC_get1 _ _ _ _ hd] at xd
  have y0 := e4.look 0; have y1 := e4.look 1; have y2 := e4.look 2; have y3 := e4.look 3; have y4 := e4.look 4
  simp at y0 y1 y2 y3 y4
  simp [stC] at x0
  have xf := e1.free 0
  have E1 := shade e1; have E2 := shade e2; have E3 := shade e3; have E4 := shade e4; have HG := shade hg1
  clear e1 e2 e3 e4 hg1 hz
  go_quiet (fail)
  go_upto_region 6 with (fail)
  have e1 := (E1.out.put 0 (.int .i64 ((m : Int) + 1)))
  have e2 := E2.out.far (r := w.heap.size) (by omega) 0 (.int .i64 ((m : Int) + 1))
  have e3 := grown_put E3.out (r := w.heap.size) (Nat.le_refl _) 0 (.int .i64 ((m : Int) + 1))
  have e4 := E4.out.far (r := w.heap.size) (by omega) 0 (.int .i64 ((m : Int) + 1))
  have hg1 := HG.out.far0 w.heap.size 0 (.int .i64 ((m : Int) + 1)) HGL.out
  replace e1 := e1.drewN nq
  replace e2 := e2.drewN nq
  replace e4 := e4.drewN nq
  replace e3 := grown_drewN e3 nq
  replace hg1 := hg1.drewN nq
  change Holds5 ((W1.drewN nq).setCell ⟨w.heap.size, 0, none⟩ (.int .i64 ((m : Int) + 1))) w.heap.size 60 (stC ((m : Int) + 1) f1 f2) at e1
  change Holds5 ((W1.drewN nq).setCell ⟨w.heap.size, 0, none⟩ (.int .i64 ((m : Int) + 1))) _ _ _ at e2
  change Holds5 ((W1.drewN nq).setCell ⟨w.heap.size, 0, none⟩ (.int .i64 ((m : Int) + 1))) _ _ _ at e4
  change w.grownBy ((W1.drewN nq).setCell ⟨w.heap.size, 0, none⟩ (.int .i64 ((m : Int) + 1))) none at e3
  change WT ((W1.drewN nq).setCell ⟨w.heap.size, 0, none⟩ (.int .i64 ((m : Int) + 1))) at hg1
  generalize (W1.drewN nq).setCell ⟨w.heap.size, 0, none⟩ (.int .i64 ((m : Int) + 1)) = W2 at *
  clear E1 E2 E3 E4 HG x0 xa xb xd y0 y1 y2 y3 y4 xf
  have x0 := e1.look 0; have xa := e1.look (1 + ra); have xb := e1.look (1 + rb); have xd := e1.look (1 + rd)
  rw [stC_get1 _ _ _ _ ha] at xa
  rw [stC_get1 _ _ _ _ hb] at xb
  rw [stC_get1 _ _ _ _ hd] at xd
  have y0 := e4.look 0; have y1 := e4.look 1; have y2 := e4.look 2; have y3 := e4.look 3; have y4 := e4.look 4
  simp at y0 y1 y2 y3 y4
  simp [stC] at x0
  have xf := e1.free 0; have xg := e1.free (1 + rd)
  have E1 := shade e1; have E2 := shade e2; have E3 := shade e3; have E4 := shade e4; have HG := shade hg1
  clear e1 e2 e3 e4 hg1
  have HWO := shade (fun W => workOut_any 2 (f1 ra) (f1 rb) W (by omega) a0 a1 b0 b1)
  go_upto_block 0 with (first | (go_at_call 29; refine (wordOf_any _ _ HG.out).mono ?_; rw [HWd.out]; rintro e w' ⟨rfl, rfl⟩))
  go_cut [] from 37 to 98 (fun wx => Holds5 wx w.heap.size 60 (stC ((m : Int) + 1) (upd f1 rd (opVal 2 (f1 ra) (f1 rb))) f2) ∧ Holds5 wx (w.heap.size + 1) 60 #[.int .i64 0, .int .i64 0, .int .i64 0, .int .i64 0, .int .i64 0, .int .i64 0, .int .i64 0, .int .i64 0, .int .i64 0, .int .i64 0, .int .i64 0, .int .i64 0, .int .i64 0] ∧ w.grownBy wx none)
  case first =>
    go_upto_region 16 with (fail)
    go_region_with (first | (go_at_call 57; refine (HWO.out _).mono ?_; rintro e w9 ⟨rfl, rfl⟩; have e1 := E1.out.drew; have e2 := E2.out.drew; have e3 := grown_same E3.out (grown_drew1 W2); have xg9 := e1.free (1 + rd); have h1 := e1.put (1 + rd) (.int .i64 (opVal 2 (f1 ra) (f1 rb))); rw [stC_set1 _ _ _ _ hd] at h1; have h2 := e2.far (r := w.heap.size) (by omega) (1 + rd) (.int .i64 (opVal 2 (f1 ra) (f1 rb))); have h3 := grown_put e3 (r := w.heap.size) (Nat.le_refl _) (1 + rd) (.int .i64 (opVal 2 (f1 ra) (f1 rb))); have F1 := shade h1; have F2 := shade h2; have F3 := shade h3; clear e1 e2 e3 h1 h2 h3))
    all_goals (go_wp2_with fail; go_meet; exact ⟨F1.out, F2.out, F3.out⟩)
  case rest =>
    clear E1 E2 E3 E4 HG x0 xa xb xd y0 y1 y2 y3 y4 xf xg
    obtain ⟨h1, h2, h3⟩ := hcut
    have E1 := shade h1; have E2 := shade h2; have E3 := shade h3
    clear h1 h2 h3
    have E4 := true; have HG := true; have x0 := true; have xa := true; have xb := true; have xd := true; have y0 := true; have y1 := true; have y2 := true; have y3 := true; have y4 := true; have xf := true; have xg := true
    go_upto_region 26 with (fail)
    clear x0 xa xb xd y0 y1 y2 y3 y4 xf xg
    have y0 := E1.out.look 0; have y1 := E1.out.look 1; have y2 := E1.out.look 2; have y3 := E1.out.look 3; have y4 := E1.out.look 4; have y5 := E1.out.look 5; have y6 := E1.out.look 6; have y7 := E1.out.look 7; have y8 := E1.out.look 8; have y9 := E1.out.look 9; have y10 := E1.out.look 10; have y11 := E1.out.look 11; have y12 := E1.out.look 12
    simp [stC] at y0 y1 y2 y3 y4 y5 y6 y7 y8 y9 y10 y11 y12
    have z0 := E2.out.look 0; have t0 := E2.out.free 0; have z1 := E2.out.look 1; have t1 := E2.out.free 1; have z2 := E2.out.look 2; have t2 := E2.out.free 2; have z3 := E2.out.look 3; have t3 := E2.out.free 3; have z4 := E2.out.look 4; have t4 := E2.out.free 4; have z5 := E2.out.look 5; have t5 := E2.out.free 5; have z6 := E2.out.look 6; have t6 := E2.out.free 6; have z7 := E2.out.look 7; have t7 := E2.out.free 7; have z8 := E2.out.look 8; have t8 := E2.out.free 8; have z9 := E2.out.look 9; have t9 := E2.out.free 9; have z10 := E2.out.look 10; have t10 := E2.out.free 10; have z11 := E2.out.look 11; have t11 := E2.out.free 11; have z12 := E2.out.look 12; have t12 := E2.out.free 12
    simp at z0 z1 z2 z3 z4 z5 z6 z7 z8 z9 z10 z11 z12
    have hP := (((((((((((((E2.out.put 0 (.int .i64 ((m : Int) + 1))).put 1 (.int .i64 ((upd f1 rd (opVal 2 (f1 ra) (f1 rb))) 0))).put 2 (.int .i64 ((upd f1 rd (opVal 2 (f1 ra) (f1 rb))) 1))).put 3 (.int .i64 ((upd f1 rd (opVal 2 (f1 ra) (f1 rb))) 2))).put 4 (.int .i64 ((upd f1 rd (opVal 2 (f1 ra) (f1 rb))) 3))).put 5 (.int .i64 (f2 0))).put 6 (.int .i64 (f2 1))).put 7 (.int .i64 (f2 2))).put 8 (.int .i64 (f2 3))).put 9 (.int .i64 (f2 4))).put 10 (.int .i64 (f2 5))).put 11 (.int .i64 (f2 6))).put 12 (.int .i64 (f2 7)))
    have hG := (grown_put (r := w.heap.size + 1) (grown_put (r := w.heap.size + 1) (grown_put (r := w.heap.size + 1) (grown_put (r := w.heap.size + 1) (grown_put (r := w.heap.size + 1) (grown_put (r := w.heap.size + 1) (grown_put (r := w.heap.size + 1) (grown_put (r := w.heap.size + 1) (grown_put (r := w.heap.size + 1) (grown_put (r := w.heap.size + 1) (grown_put (r := w.heap.size + 1) (grown_put (r := w.heap.size + 1) (grown_put (r := w.heap.size + 1) E3.out (by omega) 0 (.int .i64 ((m : Int) + 1))) (by omega) 1 (.int .i64 ((upd f1 rd (opVal 2 (f1 ra) (f1 rb))) 0))) (by omega) 2 (.int .i64 ((upd f1 rd (opVal 2 (f1 ra) (f1 rb))) 1))) (by omega) 3 (.int .i64 ((upd f1 rd (opVal 2 (f1 ra) (f1 rb))) 2))) (by omega) 4 (.int .i64 ((upd f1 rd (opVal 2 (f1 ra) (f1 rb))) 3))) (by omega) 5 (.int .i64 (f2 0))) (by omega) 6 (.int .i64 (f2 1))) (by omega) 7 (.int .i64 (f2 2))) (by omega) 8 (.int .i64 (f2 3))) (by omega) 9 (.int .i64 (f2 4))) (by omega) 10 (.int .i64 (f2 5))) (by omega) 11 (.int .i64 (f2 6))) (by omega) 12 (.int .i64 (f2 7)))
    simp at hP
    have HP := shade hP
    have HGF := shade hG
    clear hP hG E1 E4 HG
    go_wp2_with fail
    have hP := HP.out
    have q0 := hP.look 0; have q1 := hP.look 1; have q2 := hP.look 2; have q3 := hP.look 3; have q4 := hP.look 4; have q5 := hP.look 5; have q6 := hP.look 6; have q7 := hP.look 7; have q8 := hP.look 8; have q9 := hP.look 9; have q10 := hP.look 10; have q11 := hP.look 11; have q12 := hP.look 12
    simp at q0 q1 q2 q3 q4 q5 q6 q7 q8 q9 q10 q11 q12
    refine bodyPost_ret (v := .tuple #[SV ((m : Int) + 1) (upd f1 rd (opVal 2 (f1 ra) (f1 rb))) f2, .bool true]) (by simp [results, Tryd.results47, go_sem, q0, q1, q2, q3, q4, q5, q6, q7, q8, q9, q10, q11, q12]) rfl ⟨?_, HGF.out⟩
    simp [stepAt, stepRegs, stepMem, stepVal, opVal]


set_option maxRecDepth 100000 in
set_option maxHeartbeats 8000000 in
theorem step_3 (b off len cap m rd ra rb : Nat) (k : Int) (op : ByteArray) (F : Nat → Ins) (f1 f2 : Nat → Int) (w : World) (hg : WT w) (hC : Code w (some ⟨b, off, none⟩) len F) (hm : m < len) (hlen : len ≤ 40) (hF : F m = ⟨op, rd, ra, rb, k⟩) (hw : wordN op.toList = 3)
    (hd : rd < 4) (ha : ra < 4) (hb : rb < 4) (k0 : 0 ≤ k) (k1 : k ≤ 255) (ok1 : ∀ j, j < 4 → 0 ≤ f1 j ∧ f1 j ≤ 255) :
    Calls Tryd.prog 47 #[.slice (some ⟨b, off, none⟩) len cap, SV m f1 f2] w fun e w' => e = .returned (.tuple #[SV (stepAt 3 m ra k f1) (stepRegs 3 rd ra rb k f1 f2) (stepMem 3 rd ra k f1 f2), .bool true]) ∧ w.grownBy w' none := by
  obtain ⟨W0, hW0⟩ : ∃ W0, (w.alloc (.cells #[.int .i64 m, .int .i64 (f1 0), .int .i64 (f1 1), .int .i64 (f1 2), .int .i64 (f1 3), .int .i64 (f2 0), .int .i64 (f2 1), .int .i64 (f2 2), .int .i64 (f2 3), .int .i64 (f2 4), .int .i64 (f2 5), .int .i64 (f2 6), .int .i64 (f2 7)] 60)).alloc (.cells #[.int .i64 0, .int .i64 0, .int .i64 0, .int .i64 0, .int .i64 0, .int .i64 0, .int .i64 0, .int .i64 0, .int .i64 0, .int .i64 0, .int .i64 0, .int .i64 0, .int .i64 0] 60) = W0 := ⟨_, rfl⟩
  have e1 : Holds5 W0 w.heap.size 60 (stC m f1 f2) := by
    rw [← hW0]
    exact (Holds5.fresh w 60 #[.int .i64 m, .int .i64 (f1 0), .int .i64 (f1 1), .int .i64 (f1 2), .int .i64 (f1 3), .int .i64 (f2 0), .int .i64 (f2 1), .int .i64 (f2 2), .int .i64 (f2 3), .int .i64 (f2 4), .int .i64 (f2 5), .int .i64 (f2 6), .int .i64 (f2 7)]).alloc _
  have e2 : Holds5 W0 (w.heap.size + 1) 60 #[.int .i64 0, .int .i64 0, .int .i64 0, .int .i64 0, .int .i64 0, .int .i64 0, .int .i64 0, .int .i64 0, .int .i64 0, .int .i64 0, .int .i64 0, .int .i64 0, .int .i64 0] := by
    rw [← hW0]
    have := Holds5.fresh (w.alloc (.cells #[.int .i64 m, .int .i64 (f1 0), .int .i64 (f1 1), .int .i64 (f1 2), .int .i64 (f1 3), .int .i64 (f2 0), .int .i64 (f2 1), .int .i64 (f2 2), .int .i64 (f2 3), .int .i64 (f2 4), .int .i64 (f2 5), .int .i64 (f2 6), .int .i64 (f2 7)] 60)) 60 #[.int .i64 0, .int .i64 0, .int .i64 0, .int .i64 0, .int .i64 0, .int .i64 0, .int .i64 0, .int .i64 0, .int .i64 0, .int .i64 0, .int .i64 0, .int .i64 0, .int .i64 0]
    rwa [World.size_alloc] at this
  have e3 : w.grownBy W0 none := by
    rw [← hW0]
    exact grown_same (World.grownBy_alloc _ _ _) (World.grownBy_alloc _ _ _)
  have hz : W0.heap.size = w.heap.size + 2 := by
    rw [← hW0, World.size_alloc, World.size_alloc]
  obtain ⟨q0, q1, q2, q3, q4⟩ := (hC.on e3).five hm
  rw [hF] at q0 q1 q2 q3 q4
  simp only [] at q0 q1 q2 q3 q4
  have hk0 := k0; have hk1 := k1
  obtain ⟨a0, a1⟩ := ok1 ra ha
  obtain ⟨b0, b1⟩ := ok1 rb hb
  have HG := shade (hg.below (below_of_grown e3) (wt_lt hg))
  have x0 := e1.look 0
  simp [stC] at x0
  have HW0 := shade hW0
  have E1 := shade e1; have E2 := shade e2; have E3 := shade e3; have HWd := shade hw; have HGL := shade (show 0 < w.heap.size from wt_lt hg)
  clear e1 e2 e3 hW0 hg hC hF hw ok1
  go_enter Tryd.func47, Tryd.ntmps47
  go_upto_region 1 with (fail)
  rw [HW0.out]
  clear HW0
  go_upto_region 4 with (fail)
  have e1 := E1.out.alloc (.cells #[.string op, .int .i64 rd, .int .i64 ra, .int .i64 rb, .int .i64 k] 37)
  have e2 := E2.out.alloc (.cells #[.string op, .int .i64 rd, .int .i64 ra, .int .i64 rb, .int .i64 k] 37)
  have e3 := grown_same E3.out (World.grownBy_alloc W0 (.cells #[.string op, .int .i64 rd, .int .i64 ra, .int .i64 rb, .int .i64 k] 37) none)
  have e4 := Holds5.fresh W0 37 #[.string op, .int .i64 rd, .int .i64 ra, .int .i64 rb, .int .i64 k]
  have hg1 := HG.out.alloc (.cells #[.string op, .int .i64 rd, .int .i64 ra, .int .i64 rb, .int .i64 k] 37)
  generalize W0.alloc (.cells #[.string op, .int .i64 rd, .int .i64 ra, .int .i64 rb, .int .i64 k] 37) = W1 at *
  clear E1 E2 E3 HG q0 q1 q2 q3 q4 x0
  rw [hz] at e4
  try simp only [hz]
  have x0 := e1.look 0; have xa := e1.look (1 + ra); have xb := e1.look (1 + rb); have xd := e1.look (1 + rd)
  rw [stC_get1 _ _ _ _ ha] at xa
  rw [stC_get1 _ _ _ _ hb] at xb
  rw [stC_get1 _ _ _ _ hd] at xd
  have y0 := e4.look 0; have y1 := e4.look 1; have y2 := e4.look 2; have y3 := e4.look 3; have y4 := e4.look 4
  simp at y0 y1 y2 y3 y4
  simp [stC] at x0
  have xf := e1.free 0
  have E1 := shade e1; have E2 := shade e2; have E3 := shade e3; have E4 := shade e4; have HG := shade hg1
  clear e1 e2 e3 e4 hg1 hz
  go_quiet (fail)
  go_upto_region 6 with (fail)
  have e1 := (E1.out.put 0 (.int .i64 ((m : Int) + 1)))
  have e2 := E2.out.far (r := w.heap.size) (by omega) 0 (.int .i64 ((m : Int) + 1))
  have e3 := grown_put E3.out (r := w.heap.size) (Nat.le_refl _) 0 (.int .i64 ((m : Int) + 1))
  have e4 := E4.out.far (r := w.heap.size) (by omega) 0 (.int .i64 ((m : Int) + 1))
  have hg1 := HG.out.far0 w.heap.size 0 (.int .i64 ((m : Int) + 1)) HGL.out
  replace e1 := e1.drewN nq
  replace e2 := e2.drewN nq
  replace e4 := e4.drewN nq
  replace e3 := grown_drewN e3 nq
  replace hg1 := hg1.drewN nq
  change Holds5 ((W1.drewN nq).setCell ⟨w.heap.size, 0, none⟩ (.int .i64 ((m : Int) + 1))) w.heap.size 60 (stC ((m : Int) + 1) f1 f2) at e1
  change Holds5 ((W1.drewN nq).setCell ⟨w.heap.size, 0, none⟩ (.int .i64 ((m : Int) + 1))) _ _ _ at e2
  change Holds5 ((W1.drewN nq).setCell ⟨w.heap.size, 0, none⟩ (.int .i64 ((m : Int) + 1))) _ _ _ at e4
  change w.grownBy ((W1.drewN nq).setCell ⟨w.heap.size, 0, none⟩ (.int .i64 ((m : Int) + 1))) none at e3
  change WT ((W1.drewN nq).setCell ⟨w.heap.size, 0, none⟩ (.int .i64 ((m : Int) + 1))) at hg1
  generalize (W1.drewN nq).setCell ⟨w.heap.size, 0, none⟩ (.int .i64 ((m : Int) + 1)) = W2 at *
  clear E1 E2 E3 E4 HG x0 xa xb xd y0 y1 y2 y3 y4 xf
  have x0 := e1.look 0; have xa := e1.look (1 + ra); have xb := e1.look (1 + rb); have xd := e1.look (1 + rd)
  rw [stC_get1 _ _ _ _ ha] at xa
  rw [stC_get1 _ _ _ _ hb] at xb
  rw [stC_get1 _ _ _ _ hd] at xd
  have y0 := e4.look 0; have y1 := e4.look 1; have y2 := e4.look 2; have y3 := e4.look 3; have y4 := e4.look 4
  simp at y0 y1 y2 y3 y4
  simp [stC] at x0
  have xf := e1.free 0; have xg := e1.free (1 + rd)
  have E1 := shade e1; have E2 := shade e2; have E3 := shade e3; have E4 := shade e4; have HG := shade hg1
  clear e1 e2 e3 e4 hg1
  have HWO := shade (fun W => workOut_any 3 (f1 ra) (f1 rb) W (by omega) a0 a1 b0 b1)
  go_upto_block 0 with (first | (go_at_call 29; refine (wordOf_any _ _ HG.out).mono ?_; rw [HWd.out]; rintro e w' ⟨rfl, rfl⟩))
  go_cut [] from 37 to 98 (fun wx => Holds5 wx w.heap.size 60 (stC ((m : Int) + 1) (upd f1 rd (opVal 3 (f1 ra) (f1 rb))) f2) ∧ Holds5 wx (w.heap.size + 1) 60 #[.int .i64 0, .int .i64 0, .int .i64 0, .int .i64 0, .int .i64 0, .int .i64 0, .int .i64 0, .int .i64 0, .int .i64 0, .int .i64 0, .int .i64 0, .int .i64 0, .int .i64 0] ∧ w.grownBy wx none)
  case first =>
    go_upto_region 16 with (fail)
    go_region_with (first | (go_at_call 57; refine (HWO.out _).mono ?_; rintro e w9 ⟨rfl, rfl⟩; have e1 := E1.out.drew; have e2 := E2.out.drew; have e3 := grown_same E3.out (grown_drew1 W2); have xg9 := e1.free (1 + rd); have h1 := e1.put (1 + rd) (.int .i64 (opVal 3 (f1 ra) (f1 rb))); rw [stC_set1 _ _ _ _ hd] at h1; have h2 := e2.far (r := w.heap.size) (by omega) (1 + rd) (.int .i64 (opVal 3 (f1 ra) (f1 rb))); have h3 := grown_put e3 (r := w.heap.size) (Nat.le_refl _) (1 + rd) (.int .i64 (opVal 3 (f1 ra) (f1 rb))); have F1 := shade h1; have F2 := shade h2; have F3 := shade h3; clear e1 e2 e3 h1 h2 h3))
    all_goals (go_wp2_with fail; go_meet; exact ⟨F1.out, F2.out, F3.out⟩)
  case rest =>
    clear E1 E2 E3 E4 HG x0 xa xb xd y0 y1 y2 y3 y4 xf xg
    obtain ⟨h1, h2, h3⟩ := hcut
    have E1 := shade h1; have E2 := shade h2; have E3 := shade h3
    clear h1 h2 h3
    have E4 := true; have HG := true; have x0 := true; have xa := true; have xb := true; have xd := true; have y0 := true; have y1 := true; have y2 := true; have y3 := true; have y4 := true; have xf := true; have xg := true
    go_upto_region 26 with (fail)
    clear x0 xa xb xd y0 y1 y2 y3 y4 xf xg
    have y0 := E1.out.look 0; have y1 := E1.out.look 1; have y2 := E1.out.look 2; have y3 := E1.out.look 3; have y4 := E1.out.look 4; have y5 := E1.out.look 5; have y6 := E1.out.look 6; have y7 := E1.out.look 7; have y8 := E1.out.look 8; have y9 := E1.out.look 9; have y10 := E1.out.look 10; have y11 := E1.out.look 11; have y12 := E1.out.look 12
    simp [stC] at y0 y1 y2 y3 y4 y5 y6 y7 y8 y9 y10 y11 y12
    have z0 := E2.out.look 0; have t0 := E2.out.free 0; have z1 := E2.out.look 1; have t1 := E2.out.free 1; have z2 := E2.out.look 2; have t2 := E2.out.free 2; have z3 := E2.out.look 3; have t3 := E2.out.free 3; have z4 := E2.out.look 4; have t4 := E2.out.free 4; have z5 := E2.out.look 5; have t5 := E2.out.free 5; have z6 := E2.out.look 6; have t6 := E2.out.free 6; have z7 := E2.out.look 7; have t7 := E2.out.free 7; have z8 := E2.out.look 8; have t8 := E2.out.free 8; have z9 := E2.out.look 9; have t9 := E2.out.free 9; have z10 := E2.out.look 10; have t10 := E2.out.free 10; have z11 := E2.out.look 11; have t11 := E2.out.free 11; have z12 := E2.out.look 12; have t12 := E2.out.free 12
    simp at z0 z1 z2 z3 z4 z5 z6 z7 z8 z9 z10 z11 z12
    have hP := (((((((((((((E2.out.put 0 (.int .i64 ((m : Int) + 1))).put 1 (.int .i64 ((upd f1 rd (opVal 3 (f1 ra) (f1 rb))) 0))).put 2 (.int .i64 ((upd f1 rd (opVal 3 (f1 ra) (f1 rb))) 1))).put 3 (.int .i64 ((upd f1 rd (opVal 3 (f1 ra) (f1 rb))) 2))).put 4 (.int .i64 ((upd f1 rd (opVal 3 (f1 ra) (f1 rb))) 3))).put 5 (.int .i64 (f2 0))).put 6 (.int .i64 (f2 1))).put 7 (.int .i64 (f2 2))).put 8 (.int .i64 (f2 3))).put 9 (.int .i64 (f2 4))).put 10 (.int .i64 (f2 5))).put 11 (.int .i64 (f2 6))).put 12 (.int .i64 (f2 7)))
    have hG := (grown_put (r := w.heap.size + 1) (grown_put (r := w.heap.size + 1) (grown_put (r := w.heap.size + 1) (grown_put (r := w.heap.size + 1) (grown_put (r := w.heap.size + 1) (grown_put (r := w.heap.size + 1) (grown_put (r := w.heap.size + 1) (grown_put (r := w.heap.size + 1) (grown_put (r := w.heap.size + 1) (grown_put (r := w.heap.size + 1) (grown_put (r := w.heap.size + 1) (grown_put (r := w.heap.size + 1) (grown_put (r := w.heap.size + 1) E3.out (by omega) 0 (.int .i64 ((m : Int) + 1))) (by omega) 1 (.int .i64 ((upd f1 rd (opVal 3 (f1 ra) (f1 rb))) 0))) (by omega) 2 (.int .i64 ((upd f1 rd (opVal 3 (f1 ra) (f1 rb))) 1))) (by omega) 3 (.int .i64 ((upd f1 rd (opVal 3 (f1 ra) (f1 rb))) 2))) (by omega) 4 (.int .i64 ((upd f1 rd (opVal 3 (f1 ra) (f1 rb))) 3))) (by omega) 5 (.int .i64 (f2 0))) (by omega) 6 (.int .i64 (f2 1))) (by omega) 7 (.int .i64 (f2 2))) (by omega) 8 (.int .i64 (f2 3))) (by omega) 9 (.int .i64 (f2 4))) (by omega) 10 (.int .i64 (f2 5))) (by omega) 11 (.int .i64 (f2 6))) (by omega) 12 (.int .i64 (f2 7)))
    simp at hP
    have HP := shade hP
    have HGF := shade hG
    clear hP hG E1 E4 HG
    go_wp2_with fail
    have hP := HP.out
    have q0 := hP.look 0; have q1 := hP.look 1; have q2 := hP.look 2; have q3 := hP.look 3; have q4 := hP.look 4; have q5 := hP.look 5; have q6 := hP.look 6; have q7 := hP.look 7; have q8 := hP.look 8; have q9 := hP.look 9; have q10 := hP.look 10; have q11 := hP.look 11; have q12 := hP.look 12
    simp at q0 q1 q2 q3 q4 q5 q6 q7 q8 q9 q10 q11 q12
    refine bodyPost_ret (v := .tuple #[SV ((m : Int) + 1) (upd f1 rd (opVal 3 (f1 ra) (f1 rb))) f2, .bool true]) (by simp [results, Tryd.results47, go_sem, q0, q1, q2, q3, q4, q5, q6, q7, q8, q9, q10, q11, q12]) rfl ⟨?_, HGF.out⟩
    simp [stepAt, stepRegs, stepMem, stepVal, opVal]


set_option maxRecDepth 100000 in
set_option maxHeartbeats 8000000 in
theorem step_4 (b off len cap m rd ra rb : Nat) (k : Int) (op : ByteArray) (F : Nat → Ins) (f1 f2 : Nat → Int) (w : World) (hg : WT w) (hC : Code w (some ⟨b, off, none⟩) len F) (hm : m < len) (hlen : len ≤ 40) (hF : F m = ⟨op, rd, ra, rb, k⟩) (hw : wordN op.toList = 4)
    (hd : rd < 4) (ha : ra < 4) (hb : rb < 4) (k0 : 0 ≤ k) (k1 : k ≤ 255) (ok1 : ∀ j, j < 4 → 0 ≤ f1 j ∧ f1 j ≤ 255) :
    Calls Tryd.prog 47 #[.slice (some ⟨b, off, none⟩) len cap, SV m f1 f2] w fun e w' => e = .returned (.tuple #[SV (stepAt 4 m ra k f1) (stepRegs 4 rd ra rb k f1 f2) (stepMem 4 rd ra k f1 f2), .bool true]) ∧ w.grownBy w' none := by
  obtain ⟨W0, hW0⟩ : ∃ W0, (w.alloc (.cells #[.int .i64 m, .int .i64 (f1 0), .int .i64 (f1 1), .int .i64 (f1 2), .int .i64 (f1 3), .int .i64 (f2 0), .int .i64 (f2 1), .int .i64 (f2 2), .int .i64 (f2 3), .int .i64 (f2 4), .int .i64 (f2 5), .int .i64 (f2 6), .int .i64 (f2 7)] 60)).alloc (.cells #[.int .i64 0, .int .i64 0, .int .i64 0, .int .i64 0, .int .i64 0, .int .i64 0, .int .i64 0, .int .i64 0, .int .i64 0, .int .i64 0, .int .i64 0, .int .i64 0, .int .i64 0] 60) = W0 := ⟨_, rfl⟩
  have e1 : Holds5 W0 w.heap.size 60 (stC m f1 f2) := by
    rw [← hW0]
    exact (Holds5.fresh w 60 #[.int .i64 m, .int .i64 (f1 0), .int .i64 (f1 1), .int .i64 (f1 2), .int .i64 (f1 3), .int .i64 (f2 0), .int .i64 (f2 1), .int .i64 (f2 2), .int .i64 (f2 3), .int .i64 (f2 4), .int .i64 (f2 5), .int .i64 (f2 6), .int .i64 (f2 7)]).alloc _
  have e2 : Holds5 W0 (w.heap.size + 1) 60 #[.int .i64 0, .int .i64 0, .int .i64 0, .int .i64 0, .int .i64 0, .int .i64 0, .int .i64 0, .int .i64 0, .int .i64 0, .int .i64 0, .int .i64 0, .int .i64 0, .int .i64 0] := by
    rw [← hW0]
    have := Holds5.fresh (w.alloc (.cells #[.int .i64 m, .int .i64 (f1 0), .int .i64 (f1 1), .int .i64 (f1 2), .int .i64 (f1 3), .int .i64 (f2 0), .int .i64 (f2 1), .int .i64 (f2 2), .int .i64 (f2 3), .int .i64 (f2 4), .int .i64 (f2 5), .int .i64 (f2 6), .int .i64 (f2 7)] 60)) 60 #[.int .i64 0, .int .i64 0, .int .i64 0, .int .i64 0, .int .i64 0, .int .i64 0, .int .i64 0, .int .i64 0, .int .i64 0, .int .i64 0, .int .i64 0, .int .i64 0, .int .i64 0]
    rwa [World.size_alloc] at this
  have e3 : w.grownBy W0 none := by
    rw [← hW0]
    exact grown_same (World.grownBy_alloc _ _ _) (World.grownBy_alloc _ _ _)
  have hz : W0.heap.size = w.heap.size + 2 := by
    rw [← hW0, World.size_alloc, World.size_alloc]
  obtain ⟨q0, q1, q2, q3, q4⟩ := (hC.on e3).five hm
  rw [hF] at q0 q1 q2 q3 q4
  simp only [] at q0 q1 q2 q3 q4
  have hk0 := k0; have hk1 := k1
  obtain ⟨a0, a1⟩ := ok1 ra ha
  obtain ⟨b0, b1⟩ := ok1 rb hb
  have HG := shade (hg.below (below_of_grown e3) (wt_lt hg))
  have x0 := e1.look 0
  simp [stC] at x0
  have HW0 := shade hW0
  have E1 := shade e1; have E2 := shade e2; have E3 := shade e3; have HWd := shade hw; have HGL := shade (show 0 < w.heap.size from wt_lt hg)
  clear e1 e2 e3 hW0 hg hC hF hw ok1
  go_enter Tryd.func47, Tryd.ntmps47
  go_upto_region 1 with (fail)
  rw [HW0.out]
  clear HW0
  go_upto_region 4 with (fail)
  have e1 := E1.out.alloc (.cells #[.string op, .int .i64 rd, .int .i64 ra, .int .i64 rb, .int .i64 k] 37)
  have e2 := E2.out.alloc (.cells #[.string op, .int .i64 rd, .int .i64 ra, .int .i64 rb, .int .i64 k] 37)
  have e3 := grown_same E3.out (World.grownBy_alloc W0 (.cells #[.string op, .int .i64 rd, .int .i64 ra, .int .i64 rb, .int .i64 k] 37) none)
  have e4 := Holds5.fresh W0 37 #[.string op, .int .i64 rd, .int .i64 ra, .int .i64 rb, .int .i64 k]
  have hg1 := HG.out.alloc (.cells #[.string op, .int .i64 rd, .int .i64 ra, .int .i64 rb, .int .i64 k] 37)
  generalize W0.alloc (.cells #[.string op, .int .i64 rd, .int .i64 ra, .int .i64 rb, .int .i64 k] 37) = W1 at *
  clear E1 E2 E3 HG q0 q1 q2 q3 q4 x0
  rw [hz] at e4
  try simp only [hz]
  have x0 := e1.look 0; have xa := e1.look (1 + ra); have xb := e1.look (1 + rb); have xd := e1.look (1 + rd)
  rw [stC_get1 _ _ _ _ ha] at xa
  rw [stC_get1 _ _ _ _ hb] at xb
  rw [stC_get1 _ _ _ _ hd] at xd
  have y0 := e4.look 0; have y1 := e4.look 1; have y2 := e4.look 2; have y3 := e4.look 3; have y4 := e4.look 4
  simp at y0 y1 y2 y3 y4
  simp [stC] at x0
  have xf := e1.free 0
  have E1 := shade e1; have E2 := shade e2; have E3 := shade e3; have E4 := shade e4; have HG := shade hg1
  clear e1 e2 e3 e4 hg1 hz
  go_quiet (fail)
  go_upto_region 6 with (fail)
  have e1 := (E1.out.put 0 (.int .i64 ((m : Int) + 1)))
  have e2 := E2.out.far (r := w.heap.size) (by omega) 0 (.int .i64 ((m : Int) + 1))
  have e3 := grown_put E3.out (r := w.heap.size) (Nat.le_refl _) 0 (.int .i64 ((m : Int) + 1))
  have e4 := E4.out.far (r := w.heap.size) (by omega) 0 (.int .i64 ((m : Int) + 1))
  have hg1 := HG.out.far0 w.heap.size 0 (.int .i64 ((m : Int) + 1)) HGL.out
  replace e1 := e1.drewN nq
  replace e2 := e2.drewN nq
  replace e4 := e4.drewN nq
  replace e3 := grown_drewN e3 nq
  replace hg1 := hg1.drewN nq
  change Holds5 ((W1.drewN nq).setCell ⟨w.heap.size, 0, none⟩ (.int .i64 ((m : Int) + 1))) w.heap.size 60 (stC ((m : Int) + 1) f1 f2) at e1
  change Holds5 ((W1.drewN nq).setCell ⟨w.heap.size, 0, none⟩ (.int .i64 ((m : Int) + 1))) _ _ _ at e2
  change Holds5 ((W1.drewN nq).setCell ⟨w.heap.size, 0, none⟩ (.int .i64 ((m : Int) + 1))) _ _ _ at e4
  change w.grownBy ((W1.drewN nq).setCell ⟨w.heap.size, 0, none⟩ (.int .i64 ((m : Int) + 1))) none at e3
  change WT ((W1.drewN nq).setCell ⟨w.heap.size, 0, none⟩ (.int .i64 ((m : Int) + 1))) at hg1
  generalize (W1.drewN nq).setCell ⟨w.heap.size, 0, none⟩ (.int .i64 ((m : Int) + 1)) = W2 at *
  clear E1 E2 E3 E4 HG x0 xa xb xd y0 y1 y2 y3 y4 xf
  have x0 := e1.look 0; have xa := e1.look (1 + ra); have xb := e1.look (1 + rb); have xd := e1.look (1 + rd)
  rw [stC_get1 _ _ _ _ ha] at xa
  rw [stC_get1 _ _ _ _ hb] at xb
  rw [stC_get1 _ _ _ _ hd] at xd
  have y0 := e4.look 0; have y1 := e4.look 1; have y2 := e4.look 2; have y3 := e4.look 3; have y4 := e4.look 4
  simp at y0 y1 y2 y3 y4
  simp [stC] at x0
  have xf := e1.free 0; have xg := e1.free (1 + rd)
  have E1 := shade e1; have E2 := shade e2; have E3 := shade e3; have E4 := shade e4; have HG := shade hg1
  clear e1 e2 e3 e4 hg1
  have HWO := shade (fun W => workOut_any 4 (f1 ra) (f1 rb) W (by omega) a0 a1 b0 b1)
  go_upto_block 0 with (first | (go_at_call 29; refine (wordOf_any _ _ HG.out).mono ?_; rw [HWd.out]; rintro e w' ⟨rfl, rfl⟩))
  go_cut [] from 37 to 98 (fun wx => Holds5 wx w.heap.size 60 (stC ((m : Int) + 1) (upd f1 rd (opVal 4 (f1 ra) (f1 rb))) f2) ∧ Holds5 wx (w.heap.size + 1) 60 #[.int .i64 0, .int .i64 0, .int .i64 0, .int .i64 0, .int .i64 0, .int .i64 0, .int .i64 0, .int .i64 0, .int .i64 0, .int .i64 0, .int .i64 0, .int .i64 0, .int .i64 0] ∧ w.grownBy wx none)
  case first =>
    go_upto_region 16 with (fail)
    go_region_with (first | (go_at_call 57; refine (HWO.out _).mono ?_; rintro e w9 ⟨rfl, rfl⟩; have e1 := E1.out.drew; have e2 := E2.out.drew; have e3 := grown_same E3.out (grown_drew1 W2); have xg9 := e1.free (1 + rd); have h1 := e1.put (1 + rd) (.int .i64 (opVal 4 (f1 ra) (f1 rb))); rw [stC_set1 _ _ _ _ hd] at h1; have h2 := e2.far (r := w.heap.size) (by omega) (1 + rd) (.int .i64 (opVal 4 (f1 ra) (f1 rb))); have h3 := grown_put e3 (r := w.heap.size) (Nat.le_refl _) (1 + rd) (.int .i64 (opVal 4 (f1 ra) (f1 rb))); have F1 := shade h1; have F2 := shade h2; have F3 := shade h3; clear e1 e2 e3 h1 h2 h3))
    all_goals (go_wp2_with fail; go_meet; exact ⟨F1.out, F2.out, F3.out⟩)
  case rest =>
    clear E1 E2 E3 E4 HG x0 xa xb xd y0 y1 y2 y3 y4 xf xg
    obtain ⟨h1, h2, h3⟩ := hcut
    have E1 := shade h1; have E2 := shade h2; have E3 := shade h3
    clear h1 h2 h3
    have E4 := true; have HG := true; have x0 := true; have xa := true; have xb := true; have xd := true; have y0 := true; have y1 := true; have y2 := true; have y3 := true; have y4 := true; have xf := true; have xg := true
    go_upto_region 26 with (fail)
    clear x0 xa xb xd y0 y1 y2 y3 y4 xf xg
    have y0 := E1.out.look 0; have y1 := E1.out.look 1; have y2 := E1.out.look 2; have y3 := E1.out.look 3; have y4 := E1.out.look 4; have y5 := E1.out.look 5; have y6 := E1.out.look 6; have y7 := E1.out.look 7; have y8 := E1.out.look 8; have y9 := E1.out.look 9; have y10 := E1.out.look 10; have y11 := E1.out.look 11; have y12 := E1.out.look 12
    simp [stC] at y0 y1 y2 y3 y4 y5 y6 y7 y8 y9 y10 y11 y12
    have z0 := E2.out.look 0; have t0 := E2.out.free 0; have z1 := E2.out.look 1; have t1 := E2.out.free 1; have z2 := E2.out.look 2; have t2 := E2.out.free 2; have z3 := E2.out.look 3; have t3 := E2.out.free 3; have z4 := E2.out.look 4; have t4 := E2.out.free 4; have z5 := E2.out.look 5; have t5 := E2.out.free 5; have z6 := E2.out.look 6; have t6 := E2.out.free 6; have z7 := E2.out.look 7; have t7 := E2.out.free 7; have z8 := E2.out.look 8; have t8 := E2.out.free 8; have z9 := E2.out.look 9; have t9 := E2.out.free 9; have z10 := E2.out.look 10; have t10 := E2.out.free 10; have z11 := E2.out.look 11; have t11 := E2.out.free 11; have z12 := E2.out.look 12; have t12 := E2.out.free 12
    simp at z0 z1 z2 z3 z4 z5 z6 z7 z8 z9 z10 z11 z12
    have hP := (((((((((((((E2.out.put 0 (.int .i64 ((m : Int) + 1))).put 1 (.int .i64 ((upd f1 rd (opVal 4 (f1 ra) (f1 rb))) 0))).put 2 (.int .i64 ((upd f1 rd (opVal 4 (f1 ra) (f1 rb))) 1))).put 3 (.int .i64 ((upd f1 rd (opVal 4 (f1 ra) (f1 rb))) 2))).put 4 (.int .i64 ((upd f1 rd (opVal 4 (f1 ra) (f1 rb))) 3))).put 5 (.int .i64 (f2 0))).put 6 (.int .i64 (f2 1))).put 7 (.int .i64 (f2 2))).put 8 (.int .i64 (f2 3))).put 9 (.int .i64 (f2 4))).put 10 (.int .i64 (f2 5))).put 11 (.int .i64 (f2 6))).put 12 (.int .i64 (f2 7)))
    have hG := (grown_put (r := w.heap.size + 1) (grown_put (r := w.heap.size + 1) (grown_put (r := w.heap.size + 1) (grown_put (r := w.heap.size + 1) (grown_put (r := w.heap.size + 1) (grown_put (r := w.heap.size + 1) (grown_put (r := w.heap.size + 1) (grown_put (r := w.heap.size + 1) (grown_put (r := w.heap.size + 1) (grown_put (r := w.heap.size + 1) (grown_put (r := w.heap.size + 1) (grown_put (r := w.heap.size + 1) (grown_put (r := w.heap.size + 1) E3.out (by omega) 0 (.int .i64 ((m : Int) + 1))) (by omega) 1 (.int .i64 ((upd f1 rd (opVal 4 (f1 ra) (f1 rb))) 0))) (by omega) 2 (.int .i64 ((upd f1 rd (opVal 4 (f1 ra) (f1 rb))) 1))) (by omega) 3 (.int .i64 ((upd f1 rd (opVal 4 (f1 ra) (f1 rb))) 2))) (by omega) 4 (.int .i64 ((upd f1 rd (opVal 4 (f1 ra) (f1 rb))) 3))) (by omega) 5 (.int .i64 (f2 0))) (by omega) 6 (.int .i64 (f2 1))) (by omega) 7 (.int .i64 (f2 2))) (by omega) 8 (.int .i64 (f2 3))) (by omega) 9 (.int .i64 (f2 4))) (by omega) 10 (.int .i64 (f2 5))) (by omega) 11 (.int .i64 (f2 6))) (by omega) 12 (.int .i64 (f2 7)))
    simp at hP
    have HP := shade hP
    have HGF := shade hG
    clear hP hG E1 E4 HG
    go_wp2_with fail
    have hP := HP.out
    have q0 := hP.look 0; have q1 := hP.look 1; have q2 := hP.look 2; have q3 := hP.look 3; have q4 := hP.look 4; have q5 := hP.look 5; have q6 := hP.look 6; have q7 := hP.look 7; have q8 := hP.look 8; have q9 := hP.look 9; have q10 := hP.look 10; have q11 := hP.look 11; have q12 := hP.look 12
    simp at q0 q1 q2 q3 q4 q5 q6 q7 q8 q9 q10 q11 q12
    refine bodyPost_ret (v := .tuple #[SV ((m : Int) + 1) (upd f1 rd (opVal 4 (f1 ra) (f1 rb))) f2, .bool true]) (by simp [results, Tryd.results47, go_sem, q0, q1, q2, q3, q4, q5, q6, q7, q8, q9, q10, q11, q12]) rfl ⟨?_, HGF.out⟩
    simp [stepAt, stepRegs, stepMem, stepVal, opVal]


set_option maxRecDepth 100000 in
set_option maxHeartbeats 8000000 in
theorem step_7 (b off len cap m rd ra rb : Nat) (k : Int) (op : ByteArray) (F : Nat → Ins) (f1 f2 : Nat → Int) (w : World) (hg : WT w) (hC : Code w (some ⟨b, off, none⟩) len F) (hm : m < len) (hlen : len ≤ 40) (hF : F m = ⟨op, rd, ra, rb, k⟩) (hw : wordN op.toList = 7)
    (_hd : rd < 4) (ha : ra < 4) (hb : rb < 4) (k0 : 0 ≤ k) (k1 : k ≤ 255) (ok1 : ∀ j, j < 4 → 0 ≤ f1 j ∧ f1 j ≤ 255) :
    Calls Tryd.prog 47 #[.slice (some ⟨b, off, none⟩) len cap, SV m f1 f2] w fun e w' => e = .returned (.tuple #[SV (stepAt 7 m ra k f1) (stepRegs 7 rd ra rb k f1 f2) (stepMem 7 rd ra k f1 f2), .bool true]) ∧ w.grownBy w' none := by
  obtain ⟨W0, hW0⟩ : ∃ W0, (w.alloc (.cells #[.int .i64 m, .int .i64 (f1 0), .int .i64 (f1 1), .int .i64 (f1 2), .int .i64 (f1 3), .int .i64 (f2 0), .int .i64 (f2 1), .int .i64 (f2 2), .int .i64 (f2 3), .int .i64 (f2 4), .int .i64 (f2 5), .int .i64 (f2 6), .int .i64 (f2 7)] 60)).alloc (.cells #[.int .i64 0, .int .i64 0, .int .i64 0, .int .i64 0, .int .i64 0, .int .i64 0, .int .i64 0, .int .i64 0, .int .i64 0, .int .i64 0, .int .i64 0, .int .i64 0, .int .i64 0] 60) = W0 := ⟨_, rfl⟩
  have e1 : Holds5 W0 w.heap.size 60 (stC m f1 f2) := by
    rw [← hW0]
    exact (Holds5.fresh w 60 #[.int .i64 m, .int .i64 (f1 0), .int .i64 (f1 1), .int .i64 (f1 2), .int .i64 (f1 3), .int .i64 (f2 0), .int .i64 (f2 1), .int .i64 (f2 2), .int .i64 (f2 3), .int .i64 (f2 4), .int .i64 (f2 5), .int .i64 (f2 6), .int .i64 (f2 7)]).alloc _
  have e2 : Holds5 W0 (w.heap.size + 1) 60 #[.int .i64 0, .int .i64 0, .int .i64 0, .int .i64 0, .int .i64 0, .int .i64 0, .int .i64 0, .int .i64 0, .int .i64 0, .int .i64 0, .int .i64 0, .int .i64 0, .int .i64 0] := by
    rw [← hW0]
    have := Holds5.fresh (w.alloc (.cells #[.int .i64 m, .int .i64 (f1 0), .int .i64 (f1 1), .int .i64 (f1 2), .int .i64 (f1 3), .int .i64 (f2 0), .int .i64 (f2 1), .int .i64 (f2 2), .int .i64 (f2 3), .int .i64 (f2 4), .int .i64 (f2 5), .int .i64 (f2 6), .int .i64 (f2 7)] 60)) 60 #[.int .i64 0, .int .i64 0, .int .i64 0, .int .i64 0, .int .i64 0, .int .i64 0, .int .i64 0, .int .i64 0, .int .i64 0, .int .i64 0, .int .i64 0, .int .i64 0, .int .i64 0]
    rwa [World.size_alloc] at this
  have e3 : w.grownBy W0 none := by
    rw [← hW0]
    exact grown_same (World.grownBy_alloc _ _ _) (World.grownBy_alloc _ _ _)
  have hz : W0.heap.size = w.heap.size + 2 := by
    rw [← hW0, World.size_alloc, World.size_alloc]
  obtain ⟨q0, q1, q2, q3, q4⟩ := (hC.on e3).five hm
  rw [hF] at q0 q1 q2 q3 q4
  simp only [] at q0 q1 q2 q3 q4
  have hk0 := k0; have hk1 := k1
  obtain ⟨a0, a1⟩ := ok1 ra ha
  obtain ⟨b0, b1⟩ := ok1 rb hb
  have HG := shade (hg.below (below_of_grown e3) (wt_lt hg))
  have x0 := e1.look 0
  simp [stC] at x0
  have HW0 := shade hW0
  have E1 := shade e1; have E2 := shade e2; have E3 := shade e3; have HWd := shade hw; have HGL := shade (show 0 < w.heap.size from wt_lt hg)
  clear e1 e2 e3 hW0 hg hC hF hw ok1
  go_enter Tryd.func47, Tryd.ntmps47
  go_upto_region 1 with (fail)
  rw [HW0.out]
  clear HW0
  go_upto_region 4 with (fail)
  have e1 := E1.out.alloc (.cells #[.string op, .int .i64 rd, .int .i64 ra, .int .i64 rb, .int .i64 k] 37)
  have e2 := E2.out.alloc (.cells #[.string op, .int .i64 rd, .int .i64 ra, .int .i64 rb, .int .i64 k] 37)
  have e3 := grown_same E3.out (World.grownBy_alloc W0 (.cells #[.string op, .int .i64 rd, .int .i64 ra, .int .i64 rb, .int .i64 k] 37) none)
  have e4 := Holds5.fresh W0 37 #[.string op, .int .i64 rd, .int .i64 ra, .int .i64 rb, .int .i64 k]
  have hg1 := HG.out.alloc (.cells #[.string op, .int .i64 rd, .int .i64 ra, .int .i64 rb, .int .i64 k] 37)
  generalize W0.alloc (.cells #[.string op, .int .i64 rd, .int .i64 ra, .int .i64 rb, .int .i64 k] 37) = W1 at *
  clear E1 E2 E3 HG q0 q1 q2 q3 q4 x0
  rw [hz] at e4
  try simp only [hz]
  have x0 := e1.look 0; have xa := e1.look (1 + ra); have xb := e1.look (1 + rb); have xd := e1.look (1 + rd)
  rw [stC_get1 _ _ _ _ ha] at xa
  rw [stC_get1 _ _ _ _ hb] at xb
  rw [stC_get1 _ _ _ _ _hd] at xd
  have y0 := e4.look 0; have y1 := e4.look 1; have y2 := e4.look 2; have y3 := e4.look 3; have y4 := e4.look 4
  simp at y0 y1 y2 y3 y4
  simp [stC] at x0
  have xf := e1.free 0
  have E1 := shade e1; have E2 := shade e2; have E3 := shade e3; have E4 := shade e4; have HG := shade hg1
  clear e1 e2 e3 e4 hg1 hz
  go_quiet (fail)
  go_upto_region 6 with (fail)
  have e1 := (E1.out.put 0 (.int .i64 ((m : Int) + 1)))
  have e2 := E2.out.far (r := w.heap.size) (by omega) 0 (.int .i64 ((m : Int) + 1))
  have e3 := grown_put E3.out (r := w.heap.size) (Nat.le_refl _) 0 (.int .i64 ((m : Int) + 1))
  have e4 := E4.out.far (r := w.heap.size) (by omega) 0 (.int .i64 ((m : Int) + 1))
  have hg1 := HG.out.far0 w.heap.size 0 (.int .i64 ((m : Int) + 1)) HGL.out
  replace e1 := e1.drewN nq
  replace e2 := e2.drewN nq
  replace e4 := e4.drewN nq
  replace e3 := grown_drewN e3 nq
  replace hg1 := hg1.drewN nq
  change Holds5 ((W1.drewN nq).setCell ⟨w.heap.size, 0, none⟩ (.int .i64 ((m : Int) + 1))) w.heap.size 60 (stC ((m : Int) + 1) f1 f2) at e1
  change Holds5 ((W1.drewN nq).setCell ⟨w.heap.size, 0, none⟩ (.int .i64 ((m : Int) + 1))) _ _ _ at e2
  change Holds5 ((W1.drewN nq).setCell ⟨w.heap.size, 0, none⟩ (.int .i64 ((m : Int) + 1))) _ _ _ at e4
  change w.grownBy ((W1.drewN nq).setCell ⟨w.heap.size, 0, none⟩ (.int .i64 ((m : Int) + 1))) none at e3
  change WT ((W1.drewN nq).setCell ⟨w.heap.size, 0, none⟩ (.int .i64 ((m : Int) + 1))) at hg1
  generalize (W1.drewN nq).setCell ⟨w.heap.size, 0, none⟩ (.int .i64 ((m : Int) + 1)) = W2 at *
  clear E1 E2 E3 E4 HG x0 xa xb xd y0 y1 y2 y3 y4 xf
  have x0 := e1.look 0; have xa := e1.look (1 + ra); have xb := e1.look (1 + rb); have xd := e1.look (1 + rd)
  rw [stC_get1 _ _ _ _ ha] at xa
  rw [stC_get1 _ _ _ _ hb] at xb
  rw [stC_get1 _ _ _ _ _hd] at xd
  have y0 := e4.look 0; have y1 := e4.look 1; have y2 := e4.look 2; have y3 := e4.look 3; have y4 := e4.look 4
  simp at y0 y1 y2 y3 y4
  simp [stC] at x0
  have xf := e1.free 0; have xg := e1.free (1 + rd)
  have E1 := shade e1; have E2 := shade e2; have E3 := shade e3; have E4 := shade e4; have HG := shade hg1
  clear e1 e2 e3 e4 hg1
  by_cases hz : f1 ra = 0
  · go_upto_region 26 with (first | (go_at_call 29; refine (wordOf_any _ _ HG.out).mono ?_; rw [HWd.out]; rintro e w' ⟨rfl, rfl⟩))
    have h1 := E1.out.put 0 (.int .i64 k)
    have h2 := E2.out.far (r := w.heap.size) (by omega) 0 (.int .i64 k)
    have h3 := grown_put E3.out (r := w.heap.size) (Nat.le_refl _) 0 (.int .i64 k)
    change Holds5 _ w.heap.size 60 (stC k f1 f2) at h1
    generalize W2.setCell ⟨w.heap.size, 0, none⟩ (.int .i64 k) = W3 at *
    clear E1 E2 E3 E4 HG
    have E1 := shade h1; have E2 := shade h2; have E3 := shade h3; have E4 := true; have HG := true
    clear h1 h2 h3
    clear x0 xa xb xd y0 y1 y2 y3 y4 xf xg
    have y0 := E1.out.look 0; have y1 := E1.out.look 1; have y2 := E1.out.look 2; have y3 := E1.out.look 3; have y4 := E1.out.look 4; have y5 := E1.out.look 5; have y6 := E1.out.look 6; have y7 := E1.out.look 7; have y8 := E1.out.look 8; have y9 := E1.out.look 9; have y10 := E1.out.look 10; have y11 := E1.out.look 11; have y12 := E1.out.look 12
    simp [stC] at y0 y1 y2 y3 y4 y5 y6 y7 y8 y9 y10 y11 y12
    have z0 := E2.out.look 0; have t0 := E2.out.free 0; have z1 := E2.out.look 1; have t1 := E2.out.free 1; have z2 := E2.out.look 2; have t2 := E2.out.free 2; have z3 := E2.out.look 3; have t3 := E2.out.free 3; have z4 := E2.out.look 4; have t4 := E2.out.free 4; have z5 := E2.out.look 5; have t5 := E2.out.free 5; have z6 := E2.out.look 6; have t6 := E2.out.free 6; have z7 := E2.out.look 7; have t7 := E2.out.free 7; have z8 := E2.out.look 8; have t8 := E2.out.free 8; have z9 := E2.out.look 9; have t9 := E2.out.free 9; have z10 := E2.out.look 10; have t10 := E2.out.free 10; have z11 := E2.out.look 11; have t11 := E2.out.free 11; have z12 := E2.out.look 12; have t12 := E2.out.free 12
    simp at z0 z1 z2 z3 z4 z5 z6 z7 z8 z9 z10 z11 z12
    have hP := (((((((((((((E2.out.put 0 (.int .i64 k)).put 1 (.int .i64 (f1 0))).put 2 (.int .i64 (f1 1))).put 3 (.int .i64 (f1 2))).put 4 (.int .i64 (f1 3))).put 5 (.int .i64 (f2 0))).put 6 (.int .i64 (f2 1))).put 7 (.int .i64 (f2 2))).put 8 (.int .i64 (f2 3))).put 9 (.int .i64 (f2 4))).put 10 (.int .i64 (f2 5))).put 11 (.int .i64 (f2 6))).put 12 (.int .i64 (f2 7)))
    have hG := (grown_put (r := w.heap.size + 1) (grown_put (r := w.heap.size + 1) (grown_put (r := w.heap.size + 1) (grown_put (r := w.heap.size + 1) (grown_put (r := w.heap.size + 1) (grown_put (r := w.heap.size + 1) (grown_put (r := w.heap.size + 1) (grown_put (r := w.heap.size + 1) (grown_put (r := w.heap.size + 1) (grown_put (r := w.heap.size + 1) (grown_put (r := w.heap.size + 1) (grown_put (r := w.heap.size + 1) (grown_put (r := w.heap.size + 1) E3.out (by omega) 0 (.int .i64 k)) (by omega) 1 (.int .i64 (f1 0))) (by omega) 2 (.int .i64 (f1 1))) (by omega) 3 (.int .i64 (f1 2))) (by omega) 4 (.int .i64 (f1 3))) (by omega) 5 (.int .i64 (f2 0))) (by omega) 6 (.int .i64 (f2 1))) (by omega) 7 (.int .i64 (f2 2))) (by omega) 8 (.int .i64 (f2 3))) (by omega) 9 (.int .i64 (f2 4))) (by omega) 10 (.int .i64 (f2 5))) (by omega) 11 (.int .i64 (f2 6))) (by omega) 12 (.int .i64 (f2 7)))
    simp at hP
    have HP := shade hP
    have HGF := shade hG
    clear hP hG E1 E4 HG
    go_wp2_with fail
    have hP := HP.out
    have q0 := hP.look 0; have q1 := hP.look 1; have q2 := hP.look 2; have q3 := hP.look 3; have q4 := hP.look 4; have q5 := hP.look 5; have q6 := hP.look 6; have q7 := hP.look 7; have q8 := hP.look 8; have q9 := hP.look 9; have q10 := hP.look 10; have q11 := hP.look 11; have q12 := hP.look 12
    simp at q0 q1 q2 q3 q4 q5 q6 q7 q8 q9 q10 q11 q12
    refine bodyPost_ret (v := .tuple #[SV k f1 f2, .bool true]) (by simp [results, Tryd.results47, go_sem, q0, q1, q2, q3, q4, q5, q6, q7, q8, q9, q10, q11, q12]) rfl ⟨?_, HGF.out⟩
    simp [stepAt, stepRegs, stepMem, stepVal, hz]
  · have hz2 : (f1 ra == 0) = false := by rw [beq_eq_false_iff_ne]; exact hz
    go_upto_region 26 with (first | (go_at_call 29; refine (wordOf_any _ _ HG.out).mono ?_; rw [HWd.out]; rintro e w' ⟨rfl, rfl⟩))
    clear hz2
    clear x0 xa xb xd y0 y1 y2 y3 y4 xf xg
    have y0 := E1.out.look 0; have y1 := E1.out.look 1; have y2 := E1.out.look 2; have y3 := E1.out.look 3; have y4 := E1.out.look 4; have y5 := E1.out.look 5; have y6 := E1.out.look 6; have y7 := E1.out.look 7; have y8 := E1.out.look 8; have y9 := E1.out.look 9; have y10 := E1.out.look 10; have y11 := E1.out.look 11; have y12 := E1.out.look 12
    simp [stC] at y0 y1 y2 y3 y4 y5 y6 y7 y8 y9 y10 y11 y12
    have z0 := E2.out.look 0; have t0 := E2.out.free 0; have z1 := E2.out.look 1; have t1 := E2.out.free 1; have z2 := E2.out.look 2; have t2 := E2.out.free 2; have z3 := E2.out.look 3; have t3 := E2.out.free 3; have z4 := E2.out.look 4; have t4 := E2.out.free 4; have z5 := E2.out.look 5; have t5 := E2.out.free 5; have z6 := E2.out.look 6; have t6 := E2.out.free 6; have z7 := E2.out.look 7; have t7 := E2.out.free 7; have z8 := E2.out.look 8; have t8 := E2.out.free 8; have z9 := E2.out.look 9; have t9 := E2.out.free 9; have z10 := E2.out.look 10; have t10 := E2.out.free 10; have z11 := E2.out.look 11; have t11 := E2.out.free 11; have z12 := E2.out.look 12; have t12 := E2.out.free 12
    simp at z0 z1 z2 z3 z4 z5 z6 z7 z8 z9 z10 z11 z12
    have hP := (((((((((((((E2.out.put 0 (.int .i64 ((m : Int) + 1))).put 1 (.int .i64 (f1 0))).put 2 (.int .i64 (f1 1))).put 3 (.int .i64 (f1 2))).put 4 (.int .i64 (f1 3))).put 5 (.int .i64 (f2 0))).put 6 (.int .i64 (f2 1))).put 7 (.int .i64 (f2 2))).put 8 (.int .i64 (f2 3))).put 9 (.int .i64 (f2 4))).put 10 (.int .i64 (f2 5))).put 11 (.int .i64 (f2 6))).put 12 (.int .i64 (f2 7)))
    have hG := (grown_put (r := w.heap.size + 1) (grown_put (r := w.heap.size + 1) (grown_put (r := w.heap.size + 1) (grown_put (r := w.heap.size + 1) (grown_put (r := w.heap.size + 1) (grown_put (r := w.heap.size + 1) (grown_put (r := w.heap.size + 1) (grown_put (r := w.heap.size + 1) (grown_put (r := w.heap.size + 1) (grown_put (r := w.heap.size + 1) (grown_put (r := w.heap.size + 1) (grown_put (r := w.heap.size + 1) (grown_put (r := w.heap.size + 1) E3.out (by omega) 0 (.int .i64 ((m : Int) + 1))) (by omega) 1 (.int .i64 (f1 0))) (by omega) 2 (.int .i64 (f1 1))) (by omega) 3 (.int .i64 (f1 2))) (by omega) 4 (.int .i64 (f1 3))) (by omega) 5 (.int .i64 (f2 0))) (by omega) 6 (.int .i64 (f2 1))) (by omega) 7 (.int .i64 (f2 2))) (by omega) 8 (.int .i64 (f2 3))) (by omega) 9 (.int .i64 (f2 4))) (by omega) 10 (.int .i64 (f2 5))) (by omega) 11 (.int .i64 (f2 6))) (by omega) 12 (.int .i64 (f2 7)))
    simp at hP
    have HP := shade hP
    have HGF := shade hG
    clear hP hG E1 E4 HG
    go_wp2_with fail
    have hP := HP.out
    have q0 := hP.look 0; have q1 := hP.look 1; have q2 := hP.look 2; have q3 := hP.look 3; have q4 := hP.look 4; have q5 := hP.look 5; have q6 := hP.look 6; have q7 := hP.look 7; have q8 := hP.look 8; have q9 := hP.look 9; have q10 := hP.look 10; have q11 := hP.look 11; have q12 := hP.look 12
    simp at q0 q1 q2 q3 q4 q5 q6 q7 q8 q9 q10 q11 q12
    refine bodyPost_ret (v := .tuple #[SV ((m : Int) + 1) f1 f2, .bool true]) (by simp [results, Tryd.results47, go_sem, q0, q1, q2, q3, q4, q5, q6, q7, q8, q9, q10, q11, q12]) rfl ⟨?_, HGF.out⟩
    simp [stepAt, stepRegs, stepMem, stepVal, hz]


set_option maxRecDepth 100000 in
set_option maxHeartbeats 8000000 in
theorem step_8 (b off len cap m rd ra rb : Nat) (k : Int) (op : ByteArray) (F : Nat → Ins) (f1 f2 : Nat → Int) (w : World) (hg : WT w) (hC : Code w (some ⟨b, off, none⟩) len F) (hm : m < len) (hlen : len ≤ 40) (hF : F m = ⟨op, rd, ra, rb, k⟩) (hw : wordN op.toList = 8)
    (_hd : rd < 4) (ha : ra < 4) (hb : rb < 4) (k0 : 0 ≤ k) (k1 : k ≤ 255) (ok1 : ∀ j, j < 4 → 0 ≤ f1 j ∧ f1 j ≤ 255) :
    Calls Tryd.prog 47 #[.slice (some ⟨b, off, none⟩) len cap, SV m f1 f2] w fun e w' => e = .returned (.tuple #[SV (stepAt 8 m ra k f1) (stepRegs 8 rd ra rb k f1 f2) (stepMem 8 rd ra k f1 f2), .bool true]) ∧ w.grownBy w' none := by
  obtain ⟨W0, hW0⟩ : ∃ W0, (w.alloc (.cells #[.int .i64 m, .int .i64 (f1 0), .int .i64 (f1 1), .int .i64 (f1 2), .int .i64 (f1 3), .int .i64 (f2 0), .int .i64 (f2 1), .int .i64 (f2 2), .int .i64 (f2 3), .int .i64 (f2 4), .int .i64 (f2 5), .int .i64 (f2 6), .int .i64 (f2 7)] 60)).alloc (.cells #[.int .i64 0, .int .i64 0, .int .i64 0, .int .i64 0, .int .i64 0, .int .i64 0, .int .i64 0, .int .i64 0, .int .i64 0, .int .i64 0, .int .i64 0, .int .i64 0, .int .i64 0] 60) = W0 := ⟨_, rfl⟩
  have e1 : Holds5 W0 w.heap.size 60 (stC m f1 f2) := by
    rw [← hW0]
    exact (Holds5.fresh w 60 #[.int .i64 m, .int .i64 (f1 0), .int .i64 (f1 1), .int .i64 (f1 2), .int .i64 (f1 3), .int .i64 (f2 0), .int .i64 (f2 1), .int .i64 (f2 2), .int .i64 (f2 3), .int .i64 (f2 4), .int .i64 (f2 5), .int .i64 (f2 6), .int .i64 (f2 7)]).alloc _
  have e2 : Holds5 W0 (w.heap.size + 1) 60 #[.int .i64 0, .int .i64 0, .int .i64 0, .int .i64 0, .int .i64 0, .int .i64 0, .int .i64 0, .int .i64 0, .int .i64 0, .int .i64 0, .int .i64 0, .int .i64 0, .int .i64 0] := by
    rw [← hW0]
    have := Holds5.fresh (w.alloc (.cells #[.int .i64 m, .int .i64 (f1 0), .int .i64 (f1 1), .int .i64 (f1 2), .int .i64 (f1 3), .int .i64 (f2 0), .int .i64 (f2 1), .int .i64 (f2 2), .int .i64 (f2 3), .int .i64 (f2 4), .int .i64 (f2 5), .int .i64 (f2 6), .int .i64 (f2 7)] 60)) 60 #[.int .i64 0, .int .i64 0, .int .i64 0, .int .i64 0, .int .i64 0, .int .i64 0, .int .i64 0, .int .i64 0, .int .i64 0, .int .i64 0, .int .i64 0, .int .i64 0, .int .i64 0]
    rwa [World.size_alloc] at this
  have e3 : w.grownBy W0 none := by
    rw [← hW0]
    exact grown_same (World.grownBy_alloc _ _ _) (World.grownBy_alloc _ _ _)
  have hz : W0.heap.size = w.heap.size + 2 := by
    rw [← hW0, World.size_alloc, World.size_alloc]
  obtain ⟨q0, q1, q2, q3, q4⟩ := (hC.on e3).five hm
  rw [hF] at q0 q1 q2 q3 q4
  simp only [] at q0 q1 q2 q3 q4
  have hk0 := k0; have hk1 := k1
  obtain ⟨a0, a1⟩ := ok1 ra ha
  obtain ⟨b0, b1⟩ := ok1 rb hb
  have HG := shade (hg.below (below_of_grown e3) (wt_lt hg))
  have x0 := e1.look 0
  simp [stC] at x0
  have HW0 := shade hW0
  have E1 := shade e1; have E2 := shade e2; have E3 := shade e3; have HWd := shade hw; have HGL := shade (show 0 < w.heap.size from wt_lt hg)
  clear e1 e2 e3 hW0 hg hC hF hw ok1
  go_enter Tryd.func47, Tryd.ntmps47
  go_upto_region 1 with (fail)
  rw [HW0.out]
  clear HW0
  go_upto_region 4 with (fail)
  have e1 := E1.out.alloc (.cells #[.string op, .int .i64 rd, .int .i64 ra, .int .i64 rb, .int .i64 k] 37)
  have e2 := E2.out.alloc (.cells #[.string op, .int .i64 rd, .int .i64 ra, .int .i64 rb, .int .i64 k] 37)
  have e3 := grown_same E3.out (World.grownBy_alloc W0 (.cells #[.string op, .int .i64 rd, .int .i64 ra, .int .i64 rb, .int .i64 k] 37) none)
  have e4 := Holds5.fresh W0 37 #[.string op, .int .i64 rd, .int .i64 ra, .int .i64 rb, .int .i64 k]
  have hg1 := HG.out.alloc (.cells #[.string op, .int .i64 rd, .int .i64 ra, .int .i64 rb, .int .i64 k] 37)
  generalize W0.alloc (.cells #[.string op, .int .i64 rd, .int .i64 ra, .int .i64 rb, .int .i64 k] 37) = W1 at *
  clear E1 E2 E3 HG q0 q1 q2 q3 q4 x0
  rw [hz] at e4
  try simp only [hz]
  have x0 := e1.look 0; have xa := e1.look (1 + ra); have xb := e1.look (1 + rb); have xd := e1.look (1 + rd)
  rw [stC_get1 _ _ _ _ ha] at xa
  rw [stC_get1 _ _ _ _ hb] at xb
  rw [stC_get1 _ _ _ _ _hd] at xd
  have y0 := e4.look 0; have y1 := e4.look 1; have y2 := e4.look 2; have y3 := e4.look 3; have y4 := e4.look 4
  simp at y0 y1 y2 y3 y4
  simp [stC] at x0
  have xf := e1.free 0
  have E1 := shade e1; have E2 := shade e2; have E3 := shade e3; have E4 := shade e4; have HG := shade hg1
  clear e1 e2 e3 e4 hg1 hz
  go_quiet (fail)
  go_upto_region 6 with (fail)
  have e1 := (E1.out.put 0 (.int .i64 ((m : Int) + 1)))
  have e2 := E2.out.far (r := w.heap.size) (by omega) 0 (.int .i64 ((m : Int) + 1))
  have e3 := grown_put E3.out (r := w.heap.size) (Nat.le_refl _) 0 (.int .i64 ((m : Int) + 1))
  have e4 := E4.out.far (r := w.heap.size) (by omega) 0 (.int .i64 ((m : Int) + 1))
  have hg1 := HG.out.far0 w.heap.size 0 (.int .i64 ((m : Int) + 1)) HGL.out
  replace e1 := e1.drewN nq
  replace e2 := e2.drewN nq
  replace e4 := e4.drewN nq
  replace e3 := grown_drewN e3 nq
  replace hg1 := hg1.drewN nq
  change Holds5 ((W1.drewN nq).setCell ⟨w.heap.size, 0, none⟩ (.int .i64 ((m : Int) + 1))) w.heap.size 60 (stC ((m : Int) + 1) f1 f2) at e1
  change Holds5 ((W1.drewN nq).setCell ⟨w.heap.size, 0, none⟩ (.int .i64 ((m : Int) + 1))) _ _ _ at e2
  change Holds5 ((W1.drewN nq).setCell ⟨w.heap.size, 0, none⟩ (.int .i64 ((m : Int) + 1))) _ _ _ at e4
  change w.grownBy ((W1.drewN nq).setCell ⟨w.heap.size, 0, none⟩ (.int .i64 ((m : Int) + 1))) none at e3
  change WT ((W1.drewN nq).setCell ⟨w.heap.size, 0, none⟩ (.int .i64 ((m : Int) + 1))) at hg1
  generalize (W1.drewN nq).setCell ⟨w.heap.size, 0, none⟩ (.int .i64 ((m : Int) + 1)) = W2 at *
  clear E1 E2 E3 E4 HG x0 xa xb xd y0 y1 y2 y3 y4 xf
  have x0 := e1.look 0; have xa := e1.look (1 + ra); have xb := e1.look (1 + rb); have xd := e1.look (1 + rd)
  rw [stC_get1 _ _ _ _ ha] at xa
  rw [stC_get1 _ _ _ _ hb] at xb
  rw [stC_get1 _ _ _ _ _hd] at xd
  have y0 := e4.look 0; have y1 := e4.look 1; have y2 := e4.look 2; have y3 := e4.look 3; have y4 := e4.look 4
  simp at y0 y1 y2 y3 y4
  simp [stC] at x0
  have xf := e1.free 0; have xg := e1.free (1 + rd)
  have E1 := shade e1; have E2 := shade e2; have E3 := shade e3; have E4 := shade e4; have HG := shade hg1
  clear e1 e2 e3 e4 hg1
  go_upto_region 26 with (first | (go_at_call 29; refine (wordOf_any _ _ HG.out).mono ?_; rw [HWd.out]; rintro e w' ⟨rfl, rfl⟩))
  have h1 := E1.out.put 0 (.int .i64 k)
  have h2 := E2.out.far (r := w.heap.size) (by omega) 0 (.int .i64 k)
  have h3 := grown_put E3.out (r := w.heap.size) (Nat.le_refl _) 0 (.int .i64 k)
  change Holds5 _ w.heap.size 60 (stC k f1 f2) at h1
  generalize W2.setCell ⟨w.heap.size, 0, none⟩ (.int .i64 k) = W3 at *
  clear E1 E2 E3 E4 HG
  have E1 := shade h1; have E2 := shade h2; have E3 := shade h3; have E4 := true; have HG := true
  clear h1 h2 h3
  clear x0 xa xb xd y0 y1 y2 y3 y4 xf xg
  have y0 := E1.out.look 0; have y1 := E1.out.look 1; have y2 := E1.out.look 2; have y3 := E1.out.look 3; have y4 := E1.out.look 4; have y5 := E1.out.look 5; have y6 := E1.out.look 6; have y7 := E1.out.look 7; have y8 := E1.out.look 8; have y9 := E1.out.look 9; have y10 := E1.out.look 10; have y11 := E1.out.look 11; have y12 := E1.out.look 12
  simp [stC] at y0 y1 y2 y3 y4 y5 y6 y7 y8 y9 y10 y11 y12
  have z0 := E2.out.look 0; have t0 := E2.out.free 0; have z1 := E2.out.look 1; have t1 := E2.out.free 1; have z2 := E2.out.look 2; have t2 := E2.out.free 2; have z3 := E2.out.look 3; have t3 := E2.out.free 3; have z4 := E2.out.look 4; have t4 := E2.out.free 4; have z5 := E2.out.look 5; have t5 := E2.out.free 5; have z6 := E2.out.look 6; have t6 := E2.out.free 6; have z7 := E2.out.look 7; have t7 := E2.out.free 7; have z8 := E2.out.look 8; have t8 := E2.out.free 8; have z9 := E2.out.look 9; have t9 := E2.out.free 9; have z10 := E2.out.look 10; have t10 := E2.out.free 10; have z11 := E2.out.look 11; have t11 := E2.out.free 11; have z12 := E2.out.look 12; have t12 := E2.out.free 12
  simp at z0 z1 z2 z3 z4 z5 z6 z7 z8 z9 z10 z11 z12
  have hP := (((((((((((((E2.out.put 0 (.int .i64 k)).put 1 (.int .i64 (f1 0))).put 2 (.int .i64 (f1 1))).put 3 (.int .i64 (f1 2))).put 4 (.int .i64 (f1 3))).put 5 (.int .i64 (f2 0))).put 6 (.int .i64 (f2 1))).put 7 (.int .i64 (f2 2))).put 8 (.int .i64 (f2 3))).put 9 (.int .i64 (f2 4))).put 10 (.int .i64 (f2 5))).put 11 (.int .i64 (f2 6))).put 12 (.int .i64 (f2 7)))
  have hG := (grown_put (r := w.heap.size + 1) (grown_put (r := w.heap.size + 1) (grown_put (r := w.heap.size + 1) (grown_put (r := w.heap.size + 1) (grown_put (r := w.heap.size + 1) (grown_put (r := w.heap.size + 1) (grown_put (r := w.heap.size + 1) (grown_put (r := w.heap.size + 1) (grown_put (r := w.heap.size + 1) (grown_put (r := w.heap.size + 1) (grown_put (r := w.heap.size + 1) (grown_put (r := w.heap.size + 1) (grown_put (r := w.heap.size + 1) E3.out (by omega) 0 (.int .i64 k)) (by omega) 1 (.int .i64 (f1 0))) (by omega) 2 (.int .i64 (f1 1))) (by omega) 3 (.int .i64 (f1 2))) (by omega) 4 (.int .i64 (f1 3))) (by omega) 5 (.int .i64 (f2 0))) (by omega) 6 (.int .i64 (f2 1))) (by omega) 7 (.int .i64 (f2 2))) (by omega) 8 (.int .i64 (f2 3))) (by omega) 9 (.int .i64 (f2 4))) (by omega) 10 (.int .i64 (f2 5))) (by omega) 11 (.int .i64 (f2 6))) (by omega) 12 (.int .i64 (f2 7)))
  simp at hP
  have HP := shade hP
  have HGF := shade hG
  clear hP hG E1 E4 HG
  go_wp2_with fail
  have hP := HP.out
  have q0 := hP.look 0; have q1 := hP.look 1; have q2 := hP.look 2; have q3 := hP.look 3; have q4 := hP.look 4; have q5 := hP.look 5; have q6 := hP.look 6; have q7 := hP.look 7; have q8 := hP.look 8; have q9 := hP.look 9; have q10 := hP.look 10; have q11 := hP.look 11; have q12 := hP.look 12
  simp at q0 q1 q2 q3 q4 q5 q6 q7 q8 q9 q10 q11 q12
  refine bodyPost_ret (v := .tuple #[SV k f1 f2, .bool true]) (by simp [results, Tryd.results47, go_sem, q0, q1, q2, q3, q4, q5, q6, q7, q8, q9, q10, q11, q12]) rfl ⟨?_, HGF.out⟩
  simp [stepAt, stepRegs, stepMem, stepVal]



end Go.Proofs.YtcfnoihjpiklhaaDoor
