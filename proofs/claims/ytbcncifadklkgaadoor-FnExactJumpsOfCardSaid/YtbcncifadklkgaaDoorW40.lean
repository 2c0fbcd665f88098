/- toMachine copies a machine, for every machine whose numbers can be read. -/
import Derived.Test.YtbcncifadklkgaaDoorW39
namespace Go.Proofs.YtbcncifadklkgaaDoor
open Go.RowKit
set_option maxHeartbeats 4000000 in
theorem toMachine_any (at' : Int) (A1 A2 : Option Addr) (n1 n2 c1 c2 : Nat) (f1 f2 : Nat → Int) (w : World) (hn1 : n1 ≤ 1048576) (hn2 : n2 ≤ 1048576) (h1 : Nums w A1 n1 f1) (h2 : Nums w A2 n2 f2) :
    Calls Tryd.prog 36 #[MV at' A1 n1 c1 A2 n2 c2] w (MachOk w at' n1 n2 f1 f2) := by
  obtain ⟨W1, hW1⟩ : ∃ W1 : World, ((w.alloc (.cells #[.int .i64 at', .slice A1 n1 c1, .slice A2 n2 c2] 49)).alloc (.cells #[.int .i64 0, .slice none 0 0, .slice none 0 0] 31)).alloc (.cells #[.int .i64 at', .slice none 0 0, .slice none 0 0] 31) = W1 := ⟨_, rfl⟩
  have e1 := ((Holds5.fresh w 49 #[.int .i64 at', .slice A1 n1 c1, .slice A2 n2 c2]).alloc (.cells #[.int .i64 0, .slice none 0 0, .slice none 0 0] 31)).alloc (.cells #[.int .i64 at', .slice none 0 0, .slice none 0 0] 31)
  have e2 := (Holds5.fresh (w.alloc (.cells #[.int .i64 at', .slice A1 n1 c1, .slice A2 n2 c2] 49)) 31 #[.int .i64 0, .slice none 0 0, .slice none 0 0]).alloc (.cells #[.int .i64 at', .slice none 0 0, .slice none 0 0] 31)
  have e3 := Holds5.fresh ((w.alloc (.cells #[.int .i64 at', .slice A1 n1 c1, .slice A2 n2 c2] 49)).alloc (.cells #[.int .i64 0, .slice none 0 0, .slice none 0 0] 31)) 31 #[.int .i64 at', .slice none 0 0, .slice none 0 0]
  have e4 := grown_same (grown_same (World.grownBy_alloc w (.cells #[.int .i64 at', .slice A1 n1 c1, .slice A2 n2 c2] 49) none) (World.grownBy_alloc _ (.cells #[.int .i64 0, .slice none 0 0, .slice none 0 0] 31) none)) (World.grownBy_alloc _ (.cells #[.int .i64 at', .slice none 0 0, .slice none 0 0] 31) none)
  have e5 := ((h1.alloc (.cells #[.int .i64 at', .slice A1 n1 c1, .slice A2 n2 c2] 49)).alloc (.cells #[.int .i64 0, .slice none 0 0, .slice none 0 0] 31)).alloc (.cells #[.int .i64 at', .slice none 0 0, .slice none 0 0] 31)
  have e6 := ((h2.alloc (.cells #[.int .i64 at', .slice A1 n1 c1, .slice A2 n2 c2] 49)).alloc (.cells #[.int .i64 0, .slice none 0 0, .slice none 0 0] 31)).alloc (.cells #[.int .i64 at', .slice none 0 0, .slice none 0 0] 31)
  rw [World.size_alloc] at e2 e3
  rw [World.size_alloc] at e3
  rw [hW1] at e1 e2 e3 e4 e5 e6
  have L2 : n2 = 0 ∨ ∀ b off, A2 = some ⟨b, off, none⟩ → b < w.heap.size := by
    rcases h2 with h | ⟨b', off', hA, hb, _⟩
    · exact .inl h
    · exact .inr (fun b off e => by
        rw [hA] at e
        injection e with e
        injection e with e
        omega)
  have HW1 := shade hW1
  have E1 := shade e1; have E2 := shade e2; have E3 := shade e3; have E4 := shade e4; have E5 := shade e5; have E6 := shade e6
  have HL2 := shade L2
  have z3 := e3.inside
  clear e1 e2 e3 e4 e5 e6 hW1 h1 h2 L2
  go_enter Tryd.func36, Tryd.ntmps36
  go_wp2_with fail
  rw [HW1.out]
  refine (toIntS_any A1 n1 c1 f1 W1 hn1 E5.out).mono ?_
  rintro e w1 ⟨rfl, ho1, hgr1⟩
  have x1 := E1.out.grown hgr1 (by intro e; cases e)
  have x2 := E2.out.grown hgr1 (by intro e; cases e)
  have x3 := E3.out.grown hgr1 (by intro e; cases e)
  have x6 := E6.out.grown hgr1 (by intro _ _ _ e; cases e)
  have x4 := grown_same E4.out hgr1
  have y0 := x1.look 0; have y1 := x1.look 1; have y2 := x1.look 2
  have q0 := x3.look 0; have q1 := x3.look 1; have q2 := x3.look 2; have t0 := x3.free 0; have t1 := x3.free 1; have t2 := x3.free 2
  simp at y0 y1 y2 q0 q1 q2
  have X1 := shade x1; have X2 := shade x2; have X3 := shade x3; have X4 := shade x4; have X6 := shade x6; have HO1 := shade ho1
  clear x1 x2 x3 x4 x6 ho1 hgr1 HW1 E1 E2 E3 E4 E5 E6
  go_wp2_with fail
  have g4 := grown_put (r := w.heap.size + 1 + 1) X4.out (by omega) 1 (.slice (some ⟨W1.heap.size, 0, none⟩) n1 n1)
  have k6 : Nums (w1.setCell ⟨w.heap.size + 1 + 1, 1, none⟩ (.slice (some ⟨W1.heap.size, 0, none⟩) n1 n1)) A2 n2 f2 := by
    rcases HL2.out with h | h
    · exact .inl h
    · exact X6.out.far (fun b off e => by have := h b off e; omega) _ _
  refine (toIntS_any A2 n2 c2 f2 _ hn2 k6).mono ?_
  rintro e w2 ⟨rfl, ho2, hgr2⟩
  rw [show (w1.setCell ⟨w.heap.size + 1 + 1, 1, none⟩ (.slice (some ⟨W1.heap.size, 0, none⟩) n1 n1)).heap.size = w1.heap.size from by simp] at ho2 ⊢
  have l1 := HO1.out.lt
  have l2 := ho2.lt
  have x1 := (X1.out.far (r := w.heap.size + 1 + 1) (by omega) 1 (.slice (some ⟨W1.heap.size, 0, none⟩) n1 n1)).grown hgr2 (by intro e; cases e)
  have x2 := (X2.out.far (r := w.heap.size + 1 + 1) (by omega) 1 (.slice (some ⟨W1.heap.size, 0, none⟩) n1 n1)).grown hgr2 (by intro e; cases e)
  have x3 := (X3.out.put 1 (.slice (some ⟨W1.heap.size, 0, none⟩) n1 n1)).grown hgr2 (by intro e; cases e)
  have x4 := grown_same g4 hgr2
  have xo1 := (HO1.out.far (r := w.heap.size + 1 + 1) (by omega) 1 (.slice (some ⟨W1.heap.size, 0, none⟩) n1 n1)).on hgr2
  simp at x3
  clear y0 y1 y2 q0 q1 q2 t0 t1 t2 g4 k6 X1 X2 X3 X4 X6 HO1 HL2 hgr2
  have q0 := x3.look 0; have q1 := x3.look 1; have q2 := x3.look 2; have t0 := x3.free 0; have t1 := x3.free 1; have t2 := x3.free 2
  have p0 := x2.look 0; have p1 := x2.look 1; have p2 := x2.look 2; have u0 := x2.free 0; have u1 := x2.free 1; have u2 := x2.free 2
  simp at q0 q1 q2 p0 p1 p2
  have X2 := shade x2; have X4 := shade x4; have HO1 := shade xo1; have HO2 := shade ho2
  clear x1 x2 x3 x4 xo1 ho2
  go_wp2_with fail
  have hH := (((X2.out.far (r := w.heap.size + 1 + 1) (by omega) 2 (.slice (some ⟨w1.heap.size, 0, none⟩) n2 n2)).put 0 (.int .i64 at')).put 1 (.slice (some ⟨W1.heap.size, 0, none⟩) n1 n1)).put 2 (.slice (some ⟨w1.heap.size, 0, none⟩) n2 n2)
  simp at hH
  refine bodyPost_ret (results_cell_row rfl _ _ _ _ _ (0, 0) _ rfl hH Tryd.underlying31 rfl (by kernel_rfl)) rfl ?_
  refine ⟨W1.heap.size, n1, w1.heap.size, n2, rfl, by omega, ?_, ?_, ?_⟩
  · exact ((((HO1.out.lower (B' := w.heap.size) (by omega)).far (r := w.heap.size + 1 + 1) (by omega) 2 (.slice (some ⟨w1.heap.size, 0, none⟩) n2 n2)).far (r := w.heap.size + 1) (by omega) 0 (.int .i64 at')).far (r := w.heap.size + 1) (by omega) 1 (.slice (some ⟨W1.heap.size, 0, none⟩) n1 n1)).far (r := w.heap.size + 1) (by omega) 2 (.slice (some ⟨w1.heap.size, 0, none⟩) n2 n2)
  · exact ((((HO2.out.lower (B' := w.heap.size) (by omega)).far (r := w.heap.size + 1 + 1) (by omega) 2 (.slice (some ⟨w1.heap.size, 0, none⟩) n2 n2)).far (r := w.heap.size + 1) (by omega) 0 (.int .i64 at')).far (r := w.heap.size + 1) (by omega) 1 (.slice (some ⟨W1.heap.size, 0, none⟩) n1 n1)).far (r := w.heap.size + 1) (by omega) 2 (.slice (some ⟨w1.heap.size, 0, none⟩) n2 n2)
  · exact grown_put (grown_put (grown_put (grown_put X4.out (by omega) _ _) (by omega) _ _) (by omega) _ _) (by omega) _ _

end Go.Proofs.YtbcncifadklkgaaDoor