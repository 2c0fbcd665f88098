/- The model's goodInstr returns a valid instruction and changes nothing but the reader. -/
import Derived.Test.YtjbbmnmbcdohiaaDoorW22
import Derived.Test.YtjbbmnmbcdohiaaDoorW4
namespace Go.Proofs.YtjbbmnmbcdohiaaDoor
open Go.RowKit
/-- What is drawn: a valid instruction; the reader has gone on by at most ten places. -/
def GoodOk (w : World) (g : Nat) (A : Option Addr) (n cap : Nat) (zs : List Int) (p : Nat) (e : Ending) (w' : World) : Prop :=
  ∃ (op : ByteArray) (d a b k : Int) (q : Nat), q ≤ p + 10 ∧ e = .returned (IV op d a b k) ∧ Rd w' g A n cap zs q ∧ w.grownBy w' (some g) ∧ vB op.toList d a b k = true
/-- Words out of the two lists. -/
def lpB (ln : Nat) (s : ByteArray) : Bool := (ln == 4 && decide (1 ≤ wordN s.toList) && decide (wordN s.toList ≤ 4)) || (ln == 2 && (wordN s.toList == 2 || wordN s.toList == 9))
theorem of_relL {A : Option Addr} {n cap g : Nat} {zs : List Int} {p : Nat} {w : World} (h : Rd w g A n cap zs p) (hp : p + 1 < 1000000)
    (lb ln lc : Nat) (hl : 0 < ln) (hln : ln ≤ 1000) (hlc : ln ≤ lc) (hlb : lb ≠ g) (hx : ∀ j, j < ln → ∃ x : ByteArray, lpB ln x = true ∧ w.cell? ⟨lb, j, none⟩ = some (.string x)) :
    Calls Tryd.prog 55 #[.pointer (some ⟨g, 0, none⟩), .slice (some ⟨lb, 0, none⟩) ln lc] w (OfOk (fun x => lpB ln x = true) w g A n cap zs p) := of_rel (fun x => lpB ln x = true) h hp lb ln lc hl hln hlc hlb hx
theorem vi_set {d k : Int} (h0 : 0 ≤ d) (h1 : d < 4) (h2 : 0 ≤ k) (h3 : k ≤ 255) : VI (⟨#[115, 101, 116]⟩ : ByteArray).toList d 0 0 k := by
  have hw : wordN (⟨#[115, 101, 116]⟩ : ByteArray).toList = 0 := by decide +kernel
  unfold VI
  omega
theorem vi_ld {d a k : Int} (h0 : 0 ≤ d) (h1 : d < 4) (h2 : 0 ≤ a) (h3 : a < 4) (h4 : 0 ≤ k) (h5 : k < 8) : VI (⟨#[108, 100]⟩ : ByteArray).toList d a 0 k := by
  have hw : wordN (⟨#[108, 100]⟩ : ByteArray).toList = 5 := by decide +kernel
  unfold VI
  omega
theorem vi_st {d a k : Int} (h0 : 0 ≤ d) (h1 : d < 4) (h2 : 0 ≤ a) (h3 : a < 4) (h4 : 0 ≤ k) (h5 : k < 8) : VI (⟨#[115, 116]⟩ : ByteArray).toList d a 0 k := by
  have hw : wordN (⟨#[115, 116]⟩ : ByteArray).toList = 6 := by decide +kernel
  unfold VI
  omega
theorem vi_bz {a k : Int} (h2 : 0 ≤ a) (h3 : a < 4) (h4 : 0 ≤ k) (h5 : k ≤ 40) : VI (⟨#[98, 122]⟩ : ByteArray).toList 0 a 0 k := by
  have hw : wordN (⟨#[98, 122]⟩ : ByteArray).toList = 7 := by decide +kernel
  unfold VI
  omega
theorem vi_jmp {k : Int} (h4 : 0 ≤ k) (h5 : k ≤ 40) : VI (⟨#[106, 109, 112]⟩ : ByteArray).toList 0 0 0 k := by
  have hw : wordN (⟨#[106, 109, 112]⟩ : ByteArray).toList = 8 := by decide +kernel
  unfold VI
  omega
set_option maxRecDepth 100000 in
set_option maxHeartbeats 16000000 in
theorem goodInstr_ok {A : Option Addr} {n cap g : Nat} {zs : List Int} {p : Nat} (most : Int) (hm0 : 0 ≤ most) (hm1 : most ≤ 40) {w : World} (h : Rd w g A n cap zs p) (hp : p + 20 < 1000000) :
    Calls Tryd.prog 41 #[.pointer (some ⟨g, 0, none⟩), .int .i64 most] w (GoodOk w g A n cap zs p) := by
  have hg := h.blk.inside
  have hR := h
  have HL := shade (fun b off (hA : A = some ⟨b, off, none⟩) (hn : 0 < n) => h.low hA hn)
  clear h
  have hT := only_refl w g
  have hZ := Holds5.fresh w 24 #[.string ⟨#[]⟩, .int .i64 0, .int .i64 0, .int .i64 0, .int .i64 0]
  have r0 := true; have r1 := true; have r2 := true; have r3 := true; have r4 := true
  have f0 := true; have f1 := true; have f2 := true; have f3 := true; have f4 := true
  go_enter Tryd.func41, Tryd.ntmps41
  go_wp2_with (first
    | (go_at_call 42
       refine (pick_rel _ (by first | exact hR | exact hR.alloc _) (by omega)).mono ?_
       clear hR
       rintro e wk ⟨v, ⟨v0, v1, v2⟩, rfl, hR, hG⟩
       replace v1 := v1 (by omega)
       clear v2
       replace hT := only_trans (by first | exact hT | exact only_alloc hT _) hG
       replace hZ := (show Holds5 _ w.heap.size 24 _ by first | exact hZ | exact hZ.alloc _).grown hG (by intro e; injection e with e; omega)
       clear hG r0 r1 r2 r3 r4 f0 f1 f2 f3 f4
       have r0 := hZ.look 0; have r1 := hZ.look 1; have r2 := hZ.look 2; have r3 := hZ.look 3; have r4 := hZ.look 4
       have f0 := hZ.free 0; have f1 := hZ.free 1; have f2 := hZ.free 2; have f3 := hZ.free 3; have f4 := hZ.free 4
       simp at r0 r1 r2 r3 r4)
    | (go_at_call 54
       refine (one_rel (fun x => 0 ≤ x ∧ x ≤ 255) (by first | exact hR | exact hR.alloc _) (by omega) _ _ _ (by omega) (by omega) (by omega) (by have := hR.blk.inside; omega) (by intro j hj; rw [World.cell?_alloc_new]; first | (rcases (show j = 0 ∨ j = 1 ∨ j = 2 ∨ j = 3 by omega) with rfl | rfl | rfl | rfl <;> exact ⟨_, by omega, rfl⟩) | (rcases (show j = 0 ∨ j = 1 ∨ j = 2 by omega) with rfl | rfl | rfl <;> exact ⟨_, by omega, rfl⟩) | (rcases (show j = 0 ∨ j = 1 by omega) with rfl | rfl <;> exact ⟨_, by omega, rfl⟩))).mono ?_
       clear hR
       rintro e wk ⟨v, ⟨v0, v1⟩, rfl, hR, hG⟩
       replace hT := only_trans (by first | exact hT | exact only_alloc hT _) hG
       replace hZ := (show Holds5 _ w.heap.size 24 _ by first | exact hZ | exact hZ.alloc _).grown hG (by intro e; injection e with e; omega)
       clear hG r0 r1 r2 r3 r4 f0 f1 f2 f3 f4
       have r0 := hZ.look 0; have r1 := hZ.look 1; have r2 := hZ.look 2; have r3 := hZ.look 3; have r4 := hZ.look 4
       have f0 := hZ.free 0; have f1 := hZ.free 1; have f2 := hZ.free 2; have f3 := hZ.free 3; have f4 := hZ.free 4
       simp at r0 r1 r2 r3 r4)
    | (go_at_call 55
       (refine (of_relL (by first | exact hR | exact hR.alloc _) (by omega) _ _ _ (by omega) (by omega) (by omega) (by have := hR.blk.inside; omega) (by intro j hj; rw [World.cell?_alloc_new]; first | (rcases (show j = 0 ∨ j = 1 ∨ j = 2 ∨ j = 3 by omega) with rfl | rfl | rfl | rfl <;> exact ⟨_, by decide +kernel, rfl⟩) | (rcases (show j = 0 ∨ j = 1 by omega) with rfl | rfl <;> exact ⟨_, by decide +kernel, rfl⟩))).mono ?_)
       clear hR
       rintro e wk ⟨v, hw, rfl, hR, hG⟩
       have HWo := shade hw
       clear hw
       replace hT := only_trans (by first | exact hT | exact only_alloc hT _) hG
       replace hZ := (show Holds5 _ w.heap.size 24 _ by first | exact hZ | exact hZ.alloc _).grown hG (by intro e; injection e with e; omega)
       clear hG r0 r1 r2 r3 r4 f0 f1 f2 f3 f4
       have r0 := hZ.look 0; have r1 := hZ.look 1; have r2 := hZ.look 2; have r3 := hZ.look 3; have r4 := hZ.look 4
       have f0 := hZ.free 0; have f1 := hZ.free 1; have f2 := hZ.free 2; have f3 := hZ.free 3; have f4 := hZ.free 4
       simp at r0 r1 r2 r3 r4))
  all_goals
    refine bodyPost_ret (results_cell_row rfl _ _ _ _ _ (0, 0) _ rfl (Holds5.five hZ _ _ _ _ _) Tryd.underlying24 rfl (by kernel_rfl)) rfl ?_
    refine ⟨_, _, _, _, _, _, by omega, rfl, hR.five w.heap.size (by omega) (fun b off hA hn => Nat.ne_of_lt (HL.out b off hA hn)), only_five hT (Nat.le_refl _) _ _ _ _ _, vB_true.2 ?_⟩
    first
      | (refine vi_set ?_ ?_ ?_ ?_ <;> omega)
      | (refine vi_ld ?_ ?_ ?_ ?_ ?_ ?_ <;> omega)
      | (refine vi_st ?_ ?_ ?_ ?_ ?_ ?_ <;> omega)
      | (refine vi_bz ?_ ?_ ?_ ?_ <;> omega)
      | (refine vi_jmp ?_ ?_ <;> omega)
      | (have hw := HWo.out; simp [lpB] at hw; unfold VI; omega)
end Go.Proofs.YtjbbmnmbcdohiaaDoor