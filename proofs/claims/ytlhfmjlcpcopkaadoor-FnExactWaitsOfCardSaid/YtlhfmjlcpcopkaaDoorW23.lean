/- The model's someInstr returns an instruction and changes nothing but the reader, for a reader of at most 2000 bytes that has been asked fewer than a million times. -/
import Derived.Test.YtlhfmjlcpcopkaaDoorW22
namespace Go.Proofs.YtlhfmjlcpcopkaaDoor
open Go.RowKit
/-- What someInstr leaves. -/
def SomeOk2 (w : World) (g : Nat) (A : Option Addr) (n cap : Nat) (zs : List Int) (p : Nat) (e : Ending) (w' : World) : Prop :=
  ∃ (op : ByteArray) (d a b k : Int) (q : Nat), q ≤ p + 20 ∧ e = .returned (IV op d a b k) ∧ Rd w' g A n cap zs q ∧ w.grownBy w' (some g)


set_option maxHeartbeats 8000000 in
theorem someInstr_any {A : Option Addr} {n cap g : Nat} {zs : List Int} {p : Nat} {w : World} (h : Rd w g A n cap zs p) (hp : p + 40 < 1000000) :
    Calls Tryd.prog 82 #[.pointer (some ⟨g, 0, none⟩)] w (SomeOk2 w g A n cap zs p) := by
  have hg := h.blk.inside
  have HL := shade (fun b off (hA : A = some ⟨b, off, none⟩) (hn : 0 < n) => h.low hA hn)
  have hT := only_refl w g
  have HC := shade (goodInstr_any 12 (by omega) (by omega) (h.alloc (.cells #[.string ⟨#[]⟩, .int .i64 0, .int .i64 0, .int .i64 0, .int .i64 0] 33)) (by omega))
  clear h
  go_enter Tryd.func82, Tryd.ntmps82
  go_wp2_with fail
  refine HC.out.mono ?_
  rintro e w1 ⟨op, d, a, b, k, q, hq, rfl, hR, hG⟩
  have hZ := (Holds5.fresh w 33 #[.string ⟨#[]⟩, .int .i64 0, .int .i64 0, .int .i64 0, .int .i64 0]).grown hG (by intro e; injection e with e; omega)
  replace hT := only_trans (only_alloc hT _) hG
  clear hG HC
  have hsz : w.heap.size < w1.heap.size := hZ.inside
  go_wp2_with fail
  refine (pick_rel _ (hR.alloc _) (by omega)).mono ?_
  clear hR
  rintro e w2 ⟨v, ⟨v0, v1, v2⟩, rfl, hR, hG⟩
  replace hT := only_trans (only_alloc hT _) hG
  replace hZ := (hZ.alloc _).grown hG (by intro e; injection e with e; omega)
  have hC := (Holds5.fresh w1 33 #[.string op, .int .i64 d, .int .i64 a, .int .i64 b, .int .i64 k]).grown hG (by intro e; injection e with e; omega)
  clear hG
  have r0 := hZ.look 0; have r1 := hZ.look 1; have r2 := hZ.look 2; have r3 := hZ.look 3; have r4 := hZ.look 4
  have f0 := hZ.free 0; have f1 := hZ.free 1; have f2 := hZ.free 2; have f3 := hZ.free 3; have f4 := hZ.free 4
  have c0 := hC.look 0; have c1 := hC.look 1; have c2 := hC.look 2; have c3 := hC.look 3; have c4 := hC.look 4
  have g0 := hC.free 0; have g1 := hC.free 1; have g2 := hC.free 2; have g3 := hC.free 3; have g4 := hC.free 4
  simp at r0 r1 r2 r3 r4 c0 c1 c2 c3 c4
  go_wp2_with (first
    | (go_at_call 93
       refine (one_rel (fun _ => True) (hR.alloc _) (by omega) _ _ _ (by omega) (by omega) (by omega) (by have := hR.blk.inside; omega) (by intro j hj; rw [World.cell?_alloc_new]; first | (rcases (show j = 0 ∨ j = 1 ∨ j = 2 ∨ j = 3 by omega) with rfl | rfl | rfl | rfl <;> exact ⟨_, trivial, rfl⟩) | (rcases (show j = 0 ∨ j = 1 ∨ j = 2 by omega) with rfl | rfl | rfl <;> exact ⟨_, trivial, rfl⟩) | (rcases (show j = 0 ∨ j = 1 by omega) with rfl | rfl <;> exact ⟨_, trivial, rfl⟩))).mono ?_
       clear hR
       rintro e wk ⟨x, _, rfl, hR, hG⟩
       replace hT := only_trans (only_alloc hT _) hG
       replace hZ := (hZ.alloc _).grown hG (by intro e; injection e with e; omega)
       replace hC := (hC.alloc _).grown hG (by intro e; injection e with e; omega)
       clear hG r0 r1 r2 r3 r4 f0 f1 f2 f3 f4 c0 c1 c2 c3 c4 g0 g1 g2 g3 g4
       have r0 := hZ.look 0; have r1 := hZ.look 1; have r2 := hZ.look 2; have r3 := hZ.look 3; have r4 := hZ.look 4
       have f0 := hZ.free 0; have f1 := hZ.free 1; have f2 := hZ.free 2; have f3 := hZ.free 3; have f4 := hZ.free 4
       have c0 := hC.look 0; have c1 := hC.look 1; have c2 := hC.look 2; have c3 := hC.look 3; have c4 := hC.look 4
       have g0 := hC.free 0; have g1 := hC.free 1; have g2 := hC.free 2; have g3 := hC.free 3; have g4 := hC.free 4
       simp at r0 r1 r2 r3 r4 c0 c1 c2 c3 c4)
    | (go_at_call 96
       refine (of_rel (fun _ => True) (hR.alloc _) (by omega) _ _ _ (by omega) (by omega) (by omega) (by have := hR.blk.inside; omega) (by intro j hj; rw [World.cell?_alloc_new]; first | (rcases (show j = 0 ∨ j = 1 ∨ j = 2 ∨ j = 3 by omega) with rfl | rfl | rfl | rfl <;> exact ⟨_, trivial, rfl⟩) | (rcases (show j = 0 ∨ j = 1 ∨ j = 2 by omega) with rfl | rfl | rfl <;> exact ⟨_, trivial, rfl⟩) | (rcases (show j = 0 ∨ j = 1 by omega) with rfl | rfl <;> exact ⟨_, trivial, rfl⟩))).mono ?_
       clear hR
       rintro e wk ⟨x, _, rfl, hR, hG⟩
       replace hT := only_trans (only_alloc hT _) hG
       replace hZ := (hZ.alloc _).grown hG (by intro e; injection e with e; omega)
       replace hC := (hC.alloc _).grown hG (by intro e; injection e with e; omega)
       clear hG r0 r1 r2 r3 r4 f0 f1 f2 f3 f4 c0 c1 c2 c3 c4 g0 g1 g2 g3 g4
       have r0 := hZ.look 0; have r1 := hZ.look 1; have r2 := hZ.look 2; have r3 := hZ.look 3; have r4 := hZ.look 4
       have f0 := hZ.free 0; have f1 := hZ.free 1; have f2 := hZ.free 2; have f3 := hZ.free 3; have f4 := hZ.free 4
       have c0 := hC.look 0; have c1 := hC.look 1; have c2 := hC.look 2; have c3 := hC.look 3; have c4 := hC.look 4
       have g0 := hC.free 0; have g1 := hC.free 1; have g2 := hC.free 2; have g3 := hC.free 3; have g4 := hC.free 4
       simp at r0 r1 r2 r3 r4 c0 c1 c2 c3 c4))
  · have hne : w.heap.size ≠ w1.heap.size := by omega
    have hfr : g ≠ w1.heap.size := by have := hT.size; omega
    have hZ2 := fun o u => hZ.other (p := ⟨w1.heap.size, o, none⟩) hne u
    have hR2 := fun o u => hR.far (q := ⟨w1.heap.size, o, none⟩) u hfr (fun b off hA hn => by have := HL.out b off hA hn; show b ≠ w1.heap.size; omega)
    have hT2 := fun o u => only_put hT (p := ⟨w1.heap.size, o, none⟩) (.inl (by show w.heap.size ≤ w1.heap.size; omega)) u
    refine bodyPost_ret (results_cell_row rfl _ _ _ _ _ (0, 0) _ rfl (Holds5.five (hZ2 _ _) _ _ _ _ _) Tryd.underlying33 rfl (by kernel_rfl)) rfl ?_
    exact ⟨_, _, _, _, _, _, by omega, rfl, (hR2 _ _).five w.heap.size (by omega) (fun b off hA hn => Nat.ne_of_lt (HL.out b off hA hn)), only_five (hT2 _ _) (Nat.le_refl _) _ _ _ _ _⟩
  · have hne : w.heap.size ≠ w1.heap.size := by omega
    have hfr : g ≠ w1.heap.size := by have := hT.size; omega
    have hZ2 := fun o u => hZ.other (p := ⟨w1.heap.size, o, none⟩) hne u
    have hR2 := fun o u => hR.far (q := ⟨w1.heap.size, o, none⟩) u hfr (fun b off hA hn => by have := HL.out b off hA hn; show b ≠ w1.heap.size; omega)
    have hT2 := fun o u => only_put hT (p := ⟨w1.heap.size, o, none⟩) (.inl (by show w.heap.size ≤ w1.heap.size; omega)) u
    refine bodyPost_ret (results_cell_row rfl _ _ _ _ _ (0, 0) _ rfl (Holds5.five (hZ2 _ _) _ _ _ _ _) Tryd.underlying33 rfl (by kernel_rfl)) rfl ?_
    exact ⟨_, _, _, _, _, _, by omega, rfl, (hR2 _ _).five w.heap.size (by omega) (fun b off hA hn => Nat.ne_of_lt (HL.out b off hA hn)), only_five (hT2 _ _) (Nat.le_refl _) _ _ _ _ _⟩
  · have hne : w.heap.size ≠ w1.heap.size := by omega
    have hfr : g ≠ w1.heap.size := by have := hT.size; omega
    have hZ2 := fun o u => hZ.other (p := ⟨w1.heap.size, o, none⟩) hne u
    have hR2 := fun o u => hR.far (q := ⟨w1.heap.size, o, none⟩) u hfr (fun b off hA hn => by have := HL.out b off hA hn; show b ≠ w1.heap.size; omega)
    have hT2 := fun o u => only_put hT (p := ⟨w1.heap.size, o, none⟩) (.inl (by show w.heap.size ≤ w1.heap.size; omega)) u
    refine bodyPost_ret (results_cell_row rfl _ _ _ _ _ (0, 0) _ rfl (Holds5.five (hZ2 _ _) _ _ _ _ _) Tryd.underlying33 rfl (by kernel_rfl)) rfl ?_
    exact ⟨_, _, _, _, _, _, by omega, rfl, (hR2 _ _).five w.heap.size (by omega) (fun b off hA hn => Nat.ne_of_lt (HL.out b off hA hn)), only_five (hT2 _ _) (Nat.le_refl _) _ _ _ _ _⟩
  · refine bodyPost_ret (results_cell_row rfl _ _ _ _ _ (0, 0) _ rfl (Holds5.five hZ _ _ _ _ _) Tryd.underlying33 rfl (by kernel_rfl)) rfl ?_
    exact ⟨_, _, _, _, _, _, by omega, rfl, hR.five w.heap.size (by omega) (fun b off hA hn => Nat.ne_of_lt (HL.out b off hA hn)), only_five hT (Nat.le_refl _) _ _ _ _ _⟩
end Go.Proofs.YtlhfmjlcpcopkaaDoor