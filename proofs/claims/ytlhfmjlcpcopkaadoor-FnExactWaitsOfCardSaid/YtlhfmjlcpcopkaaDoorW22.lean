/- The model's goodInstr and someInstr return an instruction and change nothing but the reader, for a reader of at most 2000 bytes that has been asked fewer than a million times. -/
import Derived.Test.YtlhfmjlcpcopkaaDoorW21
import Derived.Test.YtlhfmjlcpcopkaaDoorW2
namespace Go.Proofs.YtlhfmjlcpcopkaaDoor
open Go.RowKit
/-- What is drawn: some instruction; the reader has gone on by at most ten places. -/
def SomeOk (w : World) (g : Nat) (A : Option Addr) (n cap : Nat) (zs : List Int) (p : Nat) (e : Ending) (w' : World) : Prop :=
  ∃ (op : ByteArray) (d a b k : Int) (q : Nat), q ≤ p + 10 ∧ e = .returned (IV op d a b k) ∧ Rd w' g A n cap zs q ∧ w.grownBy w' (some g)


theorem Rd.five {w : World} {g : Nat} {A : Option Addr} {n cap : Nat} {zs : List Int} {p : Nat} (h : Rd w g A n cap zs p) (k : Nat) (hk : g ≠ k) (hb : ∀ b off, A = some ⟨b, off, none⟩ → 0 < n → b ≠ k) {u0 u1 u2 u3 u4 : Value} :
    Rd (((((w.setCell ⟨k, 0, none⟩ u0).setCell ⟨k, 1, none⟩ u1).setCell ⟨k, 2, none⟩ u2).setCell ⟨k, 3, none⟩ u3).setCell ⟨k, 4, none⟩ u4) g A n cap zs p :=
  ((((h.far u0 hk hb).far u1 hk hb).far u2 hk hb).far u3 hk hb).far u4 hk hb
theorem only_five {a w : World} {g k : Nat} (h : a.grownBy w (some g)) (hk : a.heap.size ≤ k) (u0 u1 u2 u3 u4 : Value) :
    a.grownBy (((((w.setCell ⟨k, 0, none⟩ u0).setCell ⟨k, 1, none⟩ u1).setCell ⟨k, 2, none⟩ u2).setCell ⟨k, 3, none⟩ u3).setCell ⟨k, 4, none⟩ u4) (some g) :=
  only_put (only_put (only_put (only_put (only_put h (p := ⟨k, 0, none⟩) (.inl hk) u0) (p := ⟨k, 1, none⟩) (.inl hk) u1) (p := ⟨k, 2, none⟩) (.inl hk) u2) (p := ⟨k, 3, none⟩) (.inl hk) u3) (p := ⟨k, 4, none⟩) (.inl hk) u4


set_option maxHeartbeats 16000000 in
theorem goodInstr_any {A : Option Addr} {n cap g : Nat} {zs : List Int} {p : Nat} (most : Int) (hm0 : 0 ≤ most) (hm1 : most ≤ 1000) {w : World} (h : Rd w g A n cap zs p) (hp : p + 20 < 1000000) :
    Calls Tryd.prog 94 #[.pointer (some ⟨g, 0, none⟩), .int .i64 most] w (SomeOk w g A n cap zs p) := by
  have hg := h.blk.inside
  have hR := h
  have HL := shade (fun b off (hA : A = some ⟨b, off, none⟩) (hn : 0 < n) => h.low hA hn)
  clear h
  have hT := only_refl w g
  have hZ := Holds5.fresh w 33 #[.string ⟨#[]⟩, .int .i64 0, .int .i64 0, .int .i64 0, .int .i64 0]
  have r0 := true; have r1 := true; have r2 := true; have r3 := true; have r4 := true
  have f0 := true; have f1 := true; have f2 := true; have f3 := true; have f4 := true
  go_enter Tryd.func94, Tryd.ntmps94
  go_wp2_with (first
    | (go_at_call 95
       refine (pick_rel _ (by first | exact hR | exact hR.alloc _) (by omega)).mono ?_
       clear hR
       rintro e wk ⟨v, ⟨v0, v1, v2⟩, rfl, hR, hG⟩
       replace hT := only_trans (by first | exact hT | exact only_alloc hT _) hG
       replace hZ := (show Holds5 _ w.heap.size 33 _ by first | exact hZ | exact hZ.alloc _).grown hG (by intro e; injection e with e; omega)
       clear hG r0 r1 r2 r3 r4 f0 f1 f2 f3 f4
       have r0 := hZ.look 0; have r1 := hZ.look 1; have r2 := hZ.look 2; have r3 := hZ.look 3; have r4 := hZ.look 4
       have f0 := hZ.free 0; have f1 := hZ.free 1; have f2 := hZ.free 2; have f3 := hZ.free 3; have f4 := hZ.free 4
       simp at r0 r1 r2 r3 r4)
    | (go_at_call 93
       refine (one_rel (fun _ => True) (by first | exact hR | exact hR.alloc _) (by omega) _ _ _ (by omega) (by omega) (by omega) (by have := hR.blk.inside; omega) (by intro j hj; rw [World.cell?_alloc_new]; first | (rcases (show j = 0 ∨ j = 1 ∨ j = 2 ∨ j = 3 by omega) with rfl | rfl | rfl | rfl <;> exact ⟨_, trivial, rfl⟩) | (rcases (show j = 0 ∨ j = 1 ∨ j = 2 by omega) with rfl | rfl | rfl <;> exact ⟨_, trivial, rfl⟩) | (rcases (show j = 0 ∨ j = 1 by omega) with rfl | rfl <;> exact ⟨_, trivial, rfl⟩))).mono ?_
       clear hR
       rintro e wk ⟨v, _, rfl, hR, hG⟩
       replace hT := only_trans (by first | exact hT | exact only_alloc hT _) hG
       replace hZ := (show Holds5 _ w.heap.size 33 _ by first | exact hZ | exact hZ.alloc _).grown hG (by intro e; injection e with e; omega)
       clear hG r0 r1 r2 r3 r4 f0 f1 f2 f3 f4
       have r0 := hZ.look 0; have r1 := hZ.look 1; have r2 := hZ.look 2; have r3 := hZ.look 3; have r4 := hZ.look 4
       have f0 := hZ.free 0; have f1 := hZ.free 1; have f2 := hZ.free 2; have f3 := hZ.free 3; have f4 := hZ.free 4
       simp at r0 r1 r2 r3 r4)
    | (go_at_call 96
       refine (of_rel (fun _ => True) (by first | exact hR | exact hR.alloc _) (by omega) _ _ _ (by omega) (by omega) (by omega) (by have := hR.blk.inside; omega) (by intro j hj; rw [World.cell?_alloc_new]; first | (rcases (show j = 0 ∨ j = 1 ∨ j = 2 ∨ j = 3 by omega) with rfl | rfl | rfl | rfl <;> exact ⟨_, trivial, rfl⟩) | (rcases (show j = 0 ∨ j = 1 ∨ j = 2 by omega) with rfl | rfl | rfl <;> exact ⟨_, trivial, rfl⟩) | (rcases (show j = 0 ∨ j = 1 by omega) with rfl | rfl <;> exact ⟨_, trivial, rfl⟩))).mono ?_
       clear hR
       rintro e wk ⟨v, _, rfl, hR, hG⟩
       replace hT := only_trans (by first | exact hT | exact only_alloc hT _) hG
       replace hZ := (show Holds5 _ w.heap.size 33 _ by first | exact hZ | exact hZ.alloc _).grown hG (by intro e; injection e with e; omega)
       clear hG r0 r1 r2 r3 r4 f0 f1 f2 f3 f4
       have r0 := hZ.look 0; have r1 := hZ.look 1; have r2 := hZ.look 2; have r3 := hZ.look 3; have r4 := hZ.look 4
       have f0 := hZ.free 0; have f1 := hZ.free 1; have f2 := hZ.free 2; have f3 := hZ.free 3; have f4 := hZ.free 4
       simp at r0 r1 r2 r3 r4))
  all_goals
    refine bodyPost_ret (results_cell_row rfl _ _ _ _ _ (0, 0) _ rfl (Holds5.five hZ _ _ _ _ _) Tryd.underlying33 rfl (by kernel_rfl)) rfl ?_
    exact ⟨_, _, _, _, _, _, by omega, rfl, hR.five w.heap.size (by omega) (fun b off hA hn => Nat.ne_of_lt (HL.out b off hA hn)), only_five hT (Nat.le_refl _) _ _ _ _ _⟩
end Go.Proofs.YtlhfmjlcpcopkaaDoor