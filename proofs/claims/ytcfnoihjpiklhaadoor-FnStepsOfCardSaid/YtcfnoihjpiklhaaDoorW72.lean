/- The model's step: what it answers for each word, for a valid instruction and a machine of words. -/
import Derived.Test.YtcfnoihjpiklhaaDoorW70
namespace Go.Proofs.YtcfnoihjpiklhaaDoor
open Go.RowKit
set_option linter.unusedSimpArgs false


set_option maxRecDepth 100000 in
set_option maxHeartbeats 8000000 in
theorem specStep_0 (b off len cap m rd ra rb : Nat) (k : Int) (F : Nat → Ins) (b1 o1 c1 b2 o2 c2 : Nat) (f1 f2 : Nat → Int) (w : World) (hC : Code w (some ⟨b, off, none⟩) len F) (hm : m < len) (hlen : len ≤ 40) (hF : F m = ⟨⟨#[115, 101, 116]⟩, rd, ra, rb, k⟩)
    (hd : rd < 4) (ha : ra < 4) (hb : rb < 4) (k0 : 0 ≤ k) (k1 : k ≤ 255) (ok1 : ∀ j, j < 4 → 0 ≤ f1 j ∧ f1 j ≤ 255) (h1 : Nums w (some ⟨b1, o1, none⟩) 4 f1) (h2 : Nums w (some ⟨b2, o2, none⟩) 8 f2) :
    Calls Tryd.prog 53 #[.slice (some ⟨b, off, none⟩) len cap, MV m (some ⟨b1, o1, none⟩) 4 c1 (some ⟨b2, o2, none⟩) 8 c2] w (MachOk w (stepAt 0 m ra k f1) 4 8 (stepRegs 0 rd ra rb k f1 f2) (stepMem 0 rd ra k f1 f2)) := by
  have hk0 := k0; have hk1 := k1
  have iA : (ra : Int) < 4 := by omega
  have iB : (rb : Int) < 4 := by omega
  have iD : (rd : Int) < 4 := by omega
  have iA0 : (0 : Int) ≤ (ra : Int) := by omega
  have iB0 : (0 : Int) ≤ (rb : Int) := by omega
  have iD0 : (0 : Int) ≤ (rd : Int) := by omega
  have hB1 : b1 < w.heap.size := World.block_lt_of_cell? w _ (h1.cell (j := 0) (by omega))
  have hB2 : b2 < w.heap.size := World.block_lt_of_cell? w _ (h2.cell (j := 0) (by omega))
  obtain ⟨W0, hW0⟩ : ∃ W0, (w.alloc (.cells #[.int .i64 m, .slice (some ⟨b1, o1, none⟩) 4 c1, .slice (some ⟨b2, o2, none⟩) 8 c2] 26)).alloc (.cells #[.int .i64 0, .slice none 0 0, .slice none 0 0] 26) = W0 := ⟨_, rfl⟩
  have e1 : Holds5 W0 w.heap.size 26 #[.int .i64 m, .slice (some ⟨b1, o1, none⟩) 4 c1, .slice (some ⟨b2, o2, none⟩) 8 c2] := by
    rw [← hW0]
    exact (Holds5.fresh w 26 #[.int .i64 m, .slice (some ⟨b1, o1, none⟩) 4 c1, .slice (some ⟨b2, o2, none⟩) 8 c2]).alloc _
  have e2 : Holds5 W0 (w.heap.size + 1) 26 #[.int .i64 0, .slice none 0 0, .slice none 0 0] := by
    rw [← hW0]
    have := Holds5.fresh (w.alloc (.cells #[.int .i64 m, .slice (some ⟨b1, o1, none⟩) 4 c1, .slice (some ⟨b2, o2, none⟩) 8 c2] 26)) 26 #[.int .i64 0, .slice none 0 0, .slice none 0 0]
    rwa [World.size_alloc] at this
  have e3 : w.grownBy W0 none := by
    rw [← hW0]
    exact grown_same (World.grownBy_alloc _ _ _) (World.grownBy_alloc _ _ _)
  have hz : W0.heap.size = w.heap.size + 2 := by
    rw [← hW0, World.size_alloc, World.size_alloc]
  obtain ⟨q0, q1, q2, q3, q4⟩ := (hC.on e3).five hm
  rw [hF] at q0 q1 q2 q3 q4
  simp only [] at q0 q1 q2 q3 q4
  obtain ⟨a0, a1⟩ := ok1 ra ha
  obtain ⟨b0, b1'⟩ := ok1 rb hb
  have x0 := e1.look 0
  simp at x0
  have HW0 := shade hW0
  have N1 := shade (h1.grown e3 (by intro _ _ _ e; cases e)); have N2 := shade (h2.grown e3 (by intro _ _ _ e; cases e))
  have E1 := shade e1; have E2 := shade e2; have E3 := shade e3; have HZ := shade hz
  clear e1 e2 e3 hW0 hC hF ok1 h1 h2 hz
  obtain ⟨i0, hi, hz0, hz1, hz2⟩ := info_parts info3
  go_enter Tryd.func53, Tryd.ntmps53
  go_upto_region 1 with (fail)
  rw [HW0.out]
  clear HW0
  go_upto_region 2 with (fail)
  have e1 := E1.out.alloc (.cells #[.string ⟨#[115, 101, 116]⟩, .int .i64 rd, .int .i64 ra, .int .i64 rb, .int .i64 k] 37)
  have e2 := E2.out.alloc (.cells #[.string ⟨#[115, 101, 116]⟩, .int .i64 rd, .int .i64 ra, .int .i64 rb, .int .i64 k] 37)
  have e3 := grown_same E3.out (World.grownBy_alloc W0 (.cells #[.string ⟨#[115, 101, 116]⟩, .int .i64 rd, .int .i64 ra, .int .i64 rb, .int .i64 k] 37) none)
  have e4 := Holds5.fresh W0 37 #[.string ⟨#[115, 101, 116]⟩, .int .i64 rd, .int .i64 ra, .int .i64 rb, .int .i64 k]
  have n1 := N1.out.alloc (.cells #[.string ⟨#[115, 101, 116]⟩, .int .i64 rd, .int .i64 ra, .int .i64 rb, .int .i64 k] 37)
  have n2 := N2.out.alloc (.cells #[.string ⟨#[115, 101, 116]⟩, .int .i64 rd, .int .i64 ra, .int .i64 rb, .int .i64 k] 37)
  rw [HZ.out] at e4
  try simp only [HZ.out]
  have hz3 : (W0.alloc (.cells #[.string ⟨#[115, 101, 116]⟩, .int .i64 rd, .int .i64 ra, .int .i64 rb, .int .i64 k] 37)).heap.size = w.heap.size + 3 := by
    rw [World.size_alloc, HZ.out]
  generalize W0.alloc (.cells #[.string ⟨#[115, 101, 116]⟩, .int .i64 rd, .int .i64 ra, .int .i64 rb, .int .i64 k] 37) = W1 at *
  clear E1 E2 E3 N1 N2 q0 q1 q2 q3 q4 x0 HZ
  have x0 := e1.look 0; have x1 := e1.look 1; have x2 := e1.look 2
  simp at x0 x1 x2
  have E1 := shade e1; have E2 := shade e2; have E3 := shade e3; have E4 := shade e4; have N1 := shade n1; have N2 := shade n2; have HZ := shade hz3
  clear e1 e2 e3 e4 n1 n2 hz3
  have hbs : w.heap.size ≤ W1.heap.size := E3.out.size
  have hzl : w.heap.size < W1.heap.size := by have := HZ.out; omega
  have hzn : w.heap.size ≠ W1.heap.size := by omega
  go_upto_region 3 with (first
    | (at_builtin; refine wpList_append_own _ rfl (.tmp 15) (.tmp 17) 24 rfl W1.heap.size 3 i0 (.int .i64 0) 1 8 Tryd.underlying24 hi hz0 hz1 hz2 rfl (by decide) (.slice (some ⟨W1.heap.size, 0, none⟩) 0 0) 0 [] rfl (World.ownsRow_lit _ #[] 0 (Nat.le_refl _) (by decide) rfl) ⟨b1, o1, none⟩ 4 c1 (numL 4 f1) rfl (by simp [numL_len]) ((N1.out.alloc _).cells) (numL_oneCell 4 f1) (by unfold maxLen; omega) (by omega) (by simp) ?_; intro v6 w6 hown6 hgr6 hnil6))
  obtain ⟨g6, c6, rfl⟩ : ∃ g6 c6, v6 = .slice (some ⟨g6, 0, none⟩) 4 c6 := by
    rcases hown6.2 with ⟨_, h0⟩ | ⟨g6, c6, _, e, _⟩
    · omega
    · exact ⟨g6, c6, e⟩
  have o6 : Own w6 W1.heap.size (some ⟨g6, 0, none⟩) 4 c6 f1 := hown6
  have hW : W1.grownBy w6 none := grown_row (World.grownBy_alloc W1 (.cells #[] 3) none) hgr6 (fun j e => by
    have e2 : some W1.heap.size = some j := e
    injection e2 with e2
    omega)
  have e1 := E1.out.grown hW (by intro e; cases e)
  have e2 := E2.out.grown hW (by intro e; cases e)
  have e3 := grown_same E3.out hW
  have e4 := E4.out.grown hW (by intro e; cases e)
  have n1 := N1.out.grown hW (by intro _ _ _ e; cases e)
  have n2 := N2.out.grown hW (by intro _ _ _ e; cases e)
  have l6 := o6.lt
  have hzm := HZ.out
  clear E1 E2 E3 E4 N1 N2 x0 x1 x2 hown6 hgr6 hnil6 hW hbs hzl hzn HZ
  have x0 := e1.look 0; have x1 := e1.look 1; have x2 := e1.look 2
  simp at x0 x1 x2
  have E1 := shade e1; have E2 := shade e2; have E3 := shade e3; have E4 := shade e4; have N1 := shade n1; have N2 := shade n2; have O6 := shade o6
  clear e1 e2 e3 e4 n1 n2 o6
  have hzl : w.heap.size < w6.heap.size := by omega
  go_upto_region 4 with (first
    | (at_builtin; refine wpList_append_own _ rfl (.tmp 19) (.tmp 21) 24 rfl w6.heap.size 3 i0 (.int .i64 0) 1 8 Tryd.underlying24 hi hz0 hz1 hz2 rfl (by decide) (.slice (some ⟨w6.heap.size, 0, none⟩) 0 0) 0 [] rfl (World.ownsRow_lit _ #[] 0 (Nat.le_refl _) (by decide) rfl) ⟨b2, o2, none⟩ 8 c2 (numL 8 f2) rfl (by simp [numL_len]) ((N2.out.alloc _).cells) (numL_oneCell 8 f2) (by unfold maxLen; omega) (by omega) (by simp) ?_; intro v7 w7 hown7 hgr7 hnil7))
  obtain ⟨g7, c7, rfl⟩ : ∃ g7 c7, v7 = .slice (some ⟨g7, 0, none⟩) 8 c7 := by
    rcases hown7.2 with ⟨_, h0⟩ | ⟨g7, c7, _, e, _⟩
    · omega
    · exact ⟨g7, c7, e⟩
  have o7 : Own w7 w6.heap.size (some ⟨g7, 0, none⟩) 8 c7 f2 := hown7
  have hW : w6.grownBy w7 none := grown_row (World.grownBy_alloc w6 (.cells #[] 3) none) hgr7 (fun j e => by
    have e2 : some w6.heap.size = some j := e
    injection e2 with e2
    omega)
  have o6 := O6.out.on hW
  have e1 := E1.out.grown hW (by intro e; cases e)
  have e2 := E2.out.grown hW (by intro e; cases e)
  have e3 := grown_same E3.out hW
  have e4 := E4.out.grown hW (by intro e; cases e)
  have n1 := N1.out.grown hW (by intro _ _ _ e; cases e)
  have n2 := N2.out.grown hW (by intro _ _ _ e; cases e)
  have l7 := o7.lt
  clear E1 E2 E3 E4 N1 N2 O6 x0 x1 x2 hown7 hgr7 hnil7 hW hi hz0 hz1 hz2
  have x0 := e1.look 0; have x1 := e1.look 1; have x2 := e1.look 2
  have y0 := e4.look 0; have y1 := e4.look 1; have y2 := e4.look 2; have y3 := e4.look 3; have y4 := e4.look 4
  simp at x0 x1 x2 y0 y1 y2 y3 y4
  have xa := n1.cell ha; have xb := n1.cell hb; have xd := n1.cell hd
  have xp := n2.cell (placeN_lt f1 ra k)
  have hpl := placeN_lt f1 ra k
  have hpI : ((placeN f1 ra k : Nat) : Int) < 8 := by omega
  have hpI0 : (0 : Int) ≤ ((placeN f1 ra k : Nat) : Int) := by omega
  have hp : (f1 ra + k) % 8 = ((placeN f1 ra k : Nat) : Int) := by
    unfold placeN
    omega
  have HP := shade hp
  have ra6 := o6.nums.cell hd; have rf6 := World.ownsRow.frozenAt o6 rd
  have ra7 := o7.nums.cell (placeN_lt f1 ra k); have rf7 := World.ownsRow.frozenAt o7 (placeN f1 ra k)
  rw [Nat.zero_add] at ra6 ra7
  have E2 := shade e2; have E3 := shade e3; have O6 := shade o6; have O7 := shade o7
  have r0 := e2.look 0; have r1 := e2.look 1; have r2 := e2.look 2; have t0 := e2.free 0; have t1 := e2.free 1; have t2 := e2.free 2
  simp at r0 r1 r2
  clear e1 e2 e3 e4 n1 n2 o6 o7 hp
  have hneS : g6 ≠ w.heap.size + 1 := by omega
  have hneT : g7 ≠ w.heap.size + 1 := by omega
  have hne67 : g6 ≠ g7 := by omega
  go_upto_region 5 with (fail)
  go_quiet (fail)
  go_upto_region 6 with (fail)
  try simp only [HP.out]
  go_upto_region 23 with (fail)
  clear r0 r1 r2 t0 t1 t2
  have hd7 : w7.grownBy (w7.drewN nq) none := grown_drewN (grown_refl _ _) nq
  have h6 := (World.ownsRow.stored (O6.out.on hd7) rd (.int .i64 k)).1
  rw [numL_set 4 f1 (upd f1 rd k) rd k (by simp [upd]) (fun j _ hne => by simp [upd, hne])] at h6
  have h7 := (O7.out.on hd7).far (r := g6) (by omega) rd (.int .i64 k)
  have h2 := (E2.out.grown hd7 (by intro e; cases e)).far (r := g6) (by omega) rd (.int .i64 k)
  have h3 := grown_put (grown_same E3.out hd7) (r := g6) (by omega) rd (.int .i64 k)
  generalize (w7.drewN nq).setCell ⟨g6, rd, none⟩ (.int .i64 k) = w8 at *
  have r0 := h2.look 0; have r1 := h2.look 1; have r2 := h2.look 2; have t0 := h2.free 0; have t1 := h2.free 1; have t2 := h2.free 2
  simp at r0 r1 r2
  have hH := ((h2.put 0 (.int .i64 ((m : Int) + 1))).put 1 (.slice (some ⟨g6, 0, none⟩) 4 c6)).put 2 (.slice (some ⟨g7, 0, none⟩) 8 c7)
  simp at hH
  have HH := shade hH
  have HG := shade (grown_put (r := w.heap.size + 1) (grown_put (r := w.heap.size + 1) (grown_put (r := w.heap.size + 1) h3 (by omega) 0 (.int .i64 ((m : Int) + 1))) (by omega) 1 (.slice (some ⟨g6, 0, none⟩) 4 c6)) (by omega) 2 (.slice (some ⟨g7, 0, none⟩) 8 c7))
  have H6 := shade ((((Own.lower (B' := w.heap.size) h6 (by omega)).far hneS 0 (.int .i64 ((m : Int) + 1))).far hneS 1 (.slice (some ⟨g6, 0, none⟩) 4 c6)).far hneS 2 (.slice (some ⟨g7, 0, none⟩) 8 c7))
  have H7 := shade ((((Own.lower (B' := w.heap.size) h7 (by omega)).far hneT 0 (.int .i64 ((m : Int) + 1))).far hneT 1 (.slice (some ⟨g6, 0, none⟩) 4 c6)).far hneT 2 (.slice (some ⟨g7, 0, none⟩) 8 c7))
  clear h2 h3 h6 h7 hH
  go_wp2_with fail
  refine bodyPost_ret (results_cell_row rfl _ _ _ _ _ (0, 0) _ rfl HH.out Tryd.underlying26 rfl (by kernel_rfl)) rfl ?_
  refine ⟨g6, c6, g7, c7, ?_, hne67, ?_, ?_, HG.out⟩
  · simp [stepAt]
  · rw [show stepRegs 0 rd ra rb k f1 f2 = (upd f1 rd k) from by simp [stepRegs, stepVal]]
    exact H6.out
  · rw [show stepMem 0 rd ra k f1 f2 = f2 from by simp [stepMem]]
    exact H7.out


set_option maxHeartbeats 1000000 in
theorem compute_1 (a b : Int) (w : World) (a0 : 0 ≤ a) (a1 : a ≤ 255) (b0 : 0 ≤ b) (b1 : b ≤ 255) : Calls Tryd.prog 62 #[.string ⟨#[97, 100, 100]⟩, .int .i64 a, .int .i64 b] w fun e w' => e = .returned (.int .i64 ((a + b) % 256)) ∧ w = w' := by
  have hh := a0; have hh1 := a1; have hh2 := b0; have hh3 := b1
  go_enter Tryd.func62, Tryd.ntmps62
  go_wp2
  go_ret
  exact ⟨rfl, rfl⟩


set_option maxRecDepth 100000 in
set_option maxHeartbeats 8000000 in
theorem specStep_1 (b off len cap m rd ra rb : Nat) (k : Int) (F : Nat → Ins) (b1 o1 c1 b2 o2 c2 : Nat) (f1 f2 : Nat → Int) (w : World) (hC : Code w (some ⟨b, off, none⟩) len F) (hm : m < len) (hlen : len ≤ 40) (hF : F m = ⟨⟨#[97, 100, 100]⟩, rd, ra, rb, k⟩)
    (hd : rd < 4) (ha : ra < 4) (hb : rb < 4) (k0 : 0 ≤ k) (k1 : k ≤ 255) (ok1 : ∀ j, j < 4 → 0 ≤ f1 j ∧ f1 j ≤ 255) (h1 : Nums w (some ⟨b1, o1, none⟩) 4 f1) (h2 : Nums w (some ⟨b2, o2, none⟩) 8 f2) :
    Calls Tryd.prog 53 #[.slice (some ⟨b, off, none⟩) len cap, MV m (some ⟨b1, o1, none⟩) 4 c1 (some ⟨b2, o2, none⟩) 8 c2] w (MachOk w (stepAt 1 m ra k f1) 4 8 (stepRegs 1 rd ra rb k f1 f2) (stepMem 1 rd ra k f1 f2)) := by
  have hk0 := k0; have hk1 := k1
  have iA : (ra : Int) < 4 := by omega
  have iB : (rb : Int) < 4 := by omega
  have iD : (rd : Int) < 4 := by omega
  have iA0 : (0 : Int) ≤ (ra : Int) := by omega
  have iB0 : (0 : Int) ≤ (rb : Int) := by omega
  have iD0 : (0 : Int) ≤ (rd : Int) := by omega
  have hB1 : b1 < w.heap.size := World.block_lt_of_cell? w _ (h1.cell (j := 0) (by omega))
  have hB2 : b2 < w.heap.size := World.block_lt_of_cell? w _ (h2.cell (j := 0) (by omega))
  obtain ⟨W0, hW0⟩ : ∃ W0, (w.alloc (.cells #[.int .i64 m, .slice (some ⟨b1, o1, none⟩) 4 c1, .slice (some ⟨b2, o2, none⟩) 8 c2] 26)).alloc (.cells #[.int .i64 0, .slice none 0 0, .slice none 0 0] 26) = W0 := ⟨_, rfl⟩
  have e1 : Holds5 W0 w.heap.size 26 #[.int .i64 m, .slice (some ⟨b1, o1, none⟩) 4 c1, .slice (some ⟨b2, o2, none⟩) 8 c2] := by
    rw [← hW0]
    exact (Holds5.fresh w 26 #[.int .i64 m, .slice (some ⟨b1, o1, none⟩) 4 c1, .slice (some ⟨b2, o2, none⟩) 8 c2]).alloc _
  have e2 : Holds5 W0 (w.heap.size + 1) 26 #[.int .i64 0, .slice none 0 0, .slice none 0 0] := by
    rw [← hW0]
    have := Holds5.fresh (w.alloc (.cells #[.int .i64 m, .slice (some ⟨b1, o1, none⟩) 4 c1, .slice (some ⟨b2, o2, none⟩) 8 c2] 26)) 26 #[.int .i64 0, .slice none 0 0, .slice none 0 0]
    rwa [World.size_alloc] at this
  have e3 : w.grownBy W0 none := by
    rw [← hW0]
    exact grown_same (World.grownBy_alloc _ _ _) (World.grownBy_alloc _ _ _)
  have hz : W0.heap.size = w.heap.size + 2 := by
    rw [← hW0, World.size_alloc, World.size_alloc]
  obtain ⟨q0, q1, q2, q3, q4⟩ := (hC.on e3).five hm
  rw [hF] at q0 q1 q2 q3 q4
  simp only [] at q0 q1 q2 q3 q4
  obtain ⟨a0, a1⟩ := ok1 ra ha
  obtain ⟨b0, b1'⟩ := ok1 rb hb
  have x0 := e1.look 0
  simp at x0
  have HW0 := shade hW0
  have N1 := shade (h1.grown e3 (by intro _ _ _ e; cases e)); have N2 := shade (h2.grown e3 (by intro _ _ _ e; cases e))
  have E1 := shade e1; have E2 := shade e2; have E3 := shade e3; have HZ := shade hz
  clear e1 e2 e3 hW0 hC hF ok1 h1 h2 hz
  obtain ⟨i0, hi, hz0, hz1, hz2⟩ := info_parts info3
  go_enter Tryd.func53, Tryd.ntmps53
  go_upto_region 1 with (fail)
  rw [HW0.out]
  clear HW0
  go_upto_region 2 with (fail)
  have e1 := E1.out.alloc (.cells #[.string ⟨#[97, 100, 100]⟩, .int .i64 rd, .int .i64 ra, .int .i64 rb, .int .i64 k] 37)
  have e2 := E2.out.alloc (.cells #[.string ⟨#[97, 100, 100]⟩, .int .i64 rd, .int .i64 ra, .int .i64 rb, .int .i64 k] 37)
  have e3 := grown_same E3.out (World.grownBy_alloc W0 (.cells #[.string ⟨#[97, 100, 100]⟩, .int .i64 rd, .int .i64 ra, .int .i64 rb, .int .i64 k] 37) none)
  have e4 := Holds5.fresh W0 37 #[.string ⟨#[97, 100, 100]⟩, .int .i64 rd, .int .i64 ra, .int .i64 rb, .int .i64 k]
  have n1 := N1.out.alloc (.cells #[.string ⟨#[97, 100, 100]⟩, .int .i64 rd, .int .i64 ra, .int .i64 rb, .int .i64 k] 37)
  have n2 := N2.out.alloc (.cells #[.string ⟨#[97, 100, 100]⟩, .int .i64 rd, .int .i64 ra, .int .i64 rb, .int .i64 k] 37)
  rw [HZ.out] at e4
  try simp only [HZ.out]
  have hz3 : (W0.alloc (.cells #[.string ⟨#[97, 100, 100]⟩, .int .i64 rd, .int .i64 ra, .int .i64 rb, .int .i64 k] 37)).heap.size = w.heap.size + 3 := by
    rw [World.size_alloc, HZ.out]
  generalize W0.alloc (.cells #[.string ⟨#[97, 100, 100]⟩, .int .i64 rd, .int .i64 ra, .int .i64 rb, .int .i64 k] 37) = W1 at *
  clear E1 E2 E3 N1 N2 q0 q1 q2 q3 q4 x0 HZ
  have x0 := e1.look 0; have x1 := e1.look 1; have x2 := e1.look 2
  simp at x0 x1 x2
  have E1 := shade e1; have E2 := shade e2; have E3 := shade e3; have E4 := shade e4; have N1 := shade n1; have N2 := shade n2; have HZ := shade hz3
  clear e1 e2 e3 e4 n1 n2 hz3
  have hbs : w.heap.size ≤ W1.heap.size := E3.out.size
  have hzl : w.heap.size < W1.heap.size := by have := HZ.out; omega
  have hzn : w.heap.size ≠ W1.heap.size := by omega
  go_upto_region 3 with (first
    | (at_builtin; refine wpList_append_own _ rfl (.tmp 15) (.tmp 17) 24 rfl W1.heap.size 3 i0 (.int .i64 0) 1 8 Tryd.underlying24 hi hz0 hz1 hz2 rfl (by decide) (.slice (some ⟨W1.heap.size, 0, none⟩) 0 0) 0 [] rfl (World.ownsRow_lit _ #[] 0 (Nat.le_refl _) (by decide) rfl) ⟨b1, o1, none⟩ 4 c1 (numL 4 f1) rfl (by simp [numL_len]) ((N1.out.alloc _).cells) (numL_oneCell 4 f1) (by unfold maxLen; omega) (by omega) (by simp) ?_; intro v6 w6 hown6 hgr6 hnil6))
  obtain ⟨g6, c6, rfl⟩ : ∃ g6 c6, v6 = .slice (some ⟨g6, 0, none⟩) 4 c6 := by
    rcases hown6.2 with ⟨_, h0⟩ | ⟨g6, c6, _, e, _⟩
    · omega
    · exact ⟨g6, c6, e⟩
  have o6 : Own w6 W1.heap.size (some ⟨g6, 0, none⟩) 4 c6 f1 := hown6
  have hW : W1.grownBy w6 none := grown_row (World.grownBy_alloc W1 (.cells #[] 3) none) hgr6 (fun j e => by
    have e2 : some W1.heap.size = some j := e
    injection e2 with e2
    omega)
  have e1 := E1.out.grown hW (by intro e; cases e)
  have e2 := E2.out.grown hW (by intro e; cases e)
  have e3 := grown_same E3.out hW
  have e4 := E4.out.grown hW (by intro e; cases e)
  have n1 := N1.out.grown hW (by intro _ _ _ e; cases e)
  have n2 := N2.out.grown hW (by intro _ _ _ e; cases e)
  have l6 := o6.lt
  have hzm := HZ.out
  clear E1 E2 E3 E4 N1 N2 x0 x1 x2 hown6 hgr6 hnil6 hW hbs hzl hzn HZ
  have x0 := e1.look 0; have x1 := e1.look 1; have x2 := e1.look 2
  simp at x0 x1 x2
  have E1 := shade e1; have E2 := shade e2; have E3 := shade e3; have E4 := shade e4; have N1 := shade n1; have N2 := shade n2; have O6 := shade o6
  clear e1 e2 e3 e4 n1 n2 o6
  have hzl : w.heap.size < w6.heap.size := by omega
  go_upto_region 4 with (first
    | (at_builtin; refine wpList_append_own _ rfl (.tmp 19) (.tmp 21) 24 rfl w6.heap.size 3 i0 (.int .i64 0) 1 8 Tryd.underlying24 hi hz0 hz1 hz2 rfl (by decide) (.slice (some ⟨w6.heap.size, 0, none⟩) 0 0) 0 [] rfl (World.ownsRow_lit _ #[] 0 (Nat.le_refl _) (by decide) rfl) ⟨b2, o2, none⟩ 8 c2 (numL 8 f2) rfl (by simp [numL_len]) ((N2.out.alloc _).cells) (numL_oneCell 8 f2) (by unfold maxLen; omega) (by omega) (by simp) ?_; intro v7 w7 hown7 hgr7 hnil7))
  obtain ⟨g7, c7, rfl⟩ : ∃ g7 c7, v7 = .slice (some ⟨g7, 0, none⟩) 8 c7 := by
    rcases hown7.2 with ⟨_, h0⟩ | ⟨g7, c7, _, e, _⟩
    · omega
    · exact ⟨g7, c7, e⟩
  have o7 : Own w7 w6.heap.size (some ⟨g7, 0, none⟩) 8 c7 f2 := hown7
  have hW : w6.grownBy w7 none := grown_row (World.grownBy_alloc w6 (.cells #[] 3) none) hgr7 (fun j e => by
    have e2 : some w6.heap.size = some j := e
    injection e2 with e2
    omega)
  have o6 := O6.out.on hW
  have e1 := E1.out.grown hW (by intro e; cases e)
  have e2 := E2.out.grown hW (by intro e; cases e)
  have e3 := grown_same E3.out hW
  have e4 := E4.out.grown hW (by intro e; cases e)
  have n1 := N1.out.grown hW (by intro _ _ _ e; cases e)
  have n2 := N2.out.grown hW (by intro _ _ _ e; cases e)
  have l7 := o7.lt
  clear E1 E2 E3 E4 N1 N2 O6 x0 x1 x2 hown7 hgr7 hnil7 hW hi hz0 hz1 hz2
  have x0 := e1.look 0; have x1 := e1.look 1; have x2 := e1.look 2
  have y0 := e4.look 0; have y1 := e4.look 1; have y2 := e4.look 2; have y3 := e4.look 3; have y4 := e4.look 4
  simp at x0 x1 x2 y0 y1 y2 y3 y4
  have xa := n1.cell ha; have xb := n1.cell hb; have xd := n1.cell hd
  have xp := n2.cell (placeN_lt f1 ra k)
  have hpl := placeN_lt f1 ra k
  have hpI : ((placeN f1 ra k : Nat) : Int) < 8 := by omega
  have hpI0 : (0 : Int) ≤ ((placeN f1 ra k : Nat) : Int) := by omega
  have hp : (f1 ra + k) % 8 = ((placeN f1 ra k : Nat) : Int) := by
    unfold placeN
    omega
  have HP := shade hp
  have ra6 := o6.nums.cell hd; have rf6 := World.ownsRow.frozenAt o6 rd
  have ra7 := o7.nums.cell (placeN_lt f1 ra k); have rf7 := World.ownsRow.frozenAt o7 (placeN f1 ra k)
  rw [Nat.zero_add] at ra6 ra7
  have E2 := shade e2; have E3 := shade e3; have O6 := shade o6; have O7 := shade o7
  have r0 := e2.look 0; have r1 := e2.look 1; have r2 := e2.look 2; have t0 := e2.free 0; have t1 := e2.free 1; have t2 := e2.free 2
  simp at r0 r1 r2
  clear e1 e2 e3 e4 n1 n2 o6 o7 hp
  have hneS : g6 ≠ w.heap.size + 1 := by omega
  have hneT : g7 ≠ w.heap.size + 1 := by omega
  have hne67 : g6 ≠ g7 := by omega
  go_upto_region 5 with (fail)
  go_quiet (fail)
  go_upto_region 6 with (fail)
  try simp only [HP.out]
  go_upto_region 13 with (fail)
  go_region_held3 (fun w' => w'.cell? ⟨w.heap.size + 2, 0, none⟩ = some (.string ⟨#[97, 100, 100]⟩) ∧ w'.cell? ⟨w.heap.size + 2, 1, none⟩ = some (.int .i64 rd) ∧ w'.cell? ⟨w.heap.size + 2, 2, none⟩ = some (.int .i64 ra) ∧ w'.cell? ⟨w.heap.size + 2, 3, none⟩ = some (.int .i64 rb) ∧ w'.cell? ⟨w.heap.size, 1, none⟩ = some (.slice (some ⟨b1, o1, none⟩) 4 c1) ∧ w'.cell? ⟨b1, o1 + ra, none⟩ = some (.int .i64 (f1 ra)) ∧ w'.cell? ⟨b1, o1 + rb, none⟩ = some (.int .i64 (f1 rb))) (first | exact ⟨cell_drew y0, cell_drew y1, cell_drew y2, cell_drew y3, cell_drew x1, cell_drew xa, cell_drew xb⟩ | exact ⟨(World.cell?_setCell_far _ _ _ _ (by show g6 ≠ w.heap.size + 2; omega)).trans (cell_drew y0), (World.cell?_setCell_far _ _ _ _ (by show g6 ≠ w.heap.size + 2; omega)).trans (cell_drew y1), (World.cell?_setCell_far _ _ _ _ (by show g6 ≠ w.heap.size + 2; omega)).trans (cell_drew y2), (World.cell?_setCell_far _ _ _ _ (by show g6 ≠ w.heap.size + 2; omega)).trans (cell_drew y3), (World.cell?_setCell_far _ _ _ _ (by show g6 ≠ w.heap.size; omega)).trans (cell_drew x1), (World.cell?_setCell_far _ _ _ _ (by show g6 ≠ b1; omega)).trans (cell_drew xa), (World.cell?_setCell_far _ _ _ _ (by show g6 ≠ b1; omega)).trans (cell_drew xb)⟩)
    ((go_at_call 62; refine (compute_1 _ _ _ a0 a1 b0 b1').mono ?_; rintro e w' ⟨rfl, rfl⟩))
  rename_i hHeld
  clear hHeld
  go_upto_region 23 with (fail)
  clear r0 r1 r2 t0 t1 t2
  have hd7 : w7.grownBy (w7.drewN (nq + 1)) none := grown_drewN (grown_refl _ _) (nq + 1)
  have h6 := (World.ownsRow.stored (O6.out.on hd7) rd (.int .i64 ((f1 ra + f1 rb) % 256))).1
  rw [numL_set 4 f1 (upd f1 rd ((f1 ra + f1 rb) % 256)) rd ((f1 ra + f1 rb) % 256) (by simp [upd]) (fun j _ hne => by simp [upd, hne])] at h6
  have h7 := (O7.out.on hd7).far (r := g6) (by omega) rd (.int .i64 ((f1 ra + f1 rb) % 256))
  have h2 := (E2.out.grown hd7 (by intro e; cases e)).far (r := g6) (by omega) rd (.int .i64 ((f1 ra + f1 rb) % 256))
  have h3 := grown_put (grown_same E3.out hd7) (r := g6) (by omega) rd (.int .i64 ((f1 ra + f1 rb) % 256))
  generalize (w7.drewN (nq + 1)).setCell ⟨g6, rd, none⟩ (.int .i64 ((f1 ra + f1 rb) % 256)) = w8 at *
  have r0 := h2.look 0; have r1 := h2.look 1; have r2 := h2.look 2; have t0 := h2.free 0; have t1 := h2.free 1; have t2 := h2.free 2
  simp at r0 r1 r2
  have hH := ((h2.put 0 (.int .i64 ((m : Int) + 1))).put 1 (.slice (some ⟨g6, 0, none⟩) 4 c6)).put 2 (.slice (some ⟨g7, 0, none⟩) 8 c7)
  simp at hH
  have HH := shade hH
  have HG := shade (grown_put (r := w.heap.size + 1) (grown_put (r := w.heap.size + 1) (grown_put (r := w.heap.size + 1) h3 (by omega) 0 (.int .i64 ((m : Int) + 1))) (by omega) 1 (.slice (some ⟨g6, 0, none⟩) 4 c6)) (by omega) 2 (.slice (some ⟨g7, 0, none⟩) 8 c7))
  have H6 := shade ((((Own.lower (B' := w.heap.size) h6 (by omega)).far hneS 0 (.int .i64 ((m : Int) + 1))).far hneS 1 (.slice (some ⟨g6, 0, none⟩) 4 c6)).far hneS 2 (.slice (some ⟨g7, 0, none⟩) 8 c7))
  have H7 := shade ((((Own.lower (B' := w.heap.size) h7 (by omega)).far hneT 0 (.int .i64 ((m : Int) + 1))).far hneT 1 (.slice (some ⟨g6, 0, none⟩) 4 c6)).far hneT 2 (.slice (some ⟨g7, 0, none⟩) 8 c7))
  clear h2 h3 h6 h7 hH
  go_wp2_with fail
  refine bodyPost_ret (results_cell_row rfl _ _ _ _ _ (0, 0) _ rfl HH.out Tryd.underlying26 rfl (by kernel_rfl)) rfl ?_
  refine ⟨g6, c6, g7, c7, ?_, hne67, ?_, ?_, HG.out⟩
  · simp [stepAt]
  · rw [show stepRegs 1 rd ra rb k f1 f2 = (upd f1 rd ((f1 ra + f1 rb) % 256)) from by simp [stepRegs, stepVal]]
    exact H6.out
  · rw [show stepMem 1 rd ra k f1 f2 = f2 from by simp [stepMem]]
    exact H7.out


set_option maxHeartbeats 1000000 in
theorem compute_2 (a b : Int) (w : World) (a0 : 0 ≤ a) (a1 : a ≤ 255) (b0 : 0 ≤ b) (b1 : b ≤ 255) : Calls Tryd.prog 62 #[.string ⟨#[115, 117, 98]⟩, .int .i64 a, .int .i64 b] w fun e w' => e = .returned (.int .i64 ((a - b) % 256)) ∧ w = w' := by
  have hh := a0; have hh1 := a1; have hh2 := b0; have hh3 := b1
  have hq : (a - b + 256) % 256 = (a - b) % 256 := by omega
  have HQ := shade hq
  clear hq
  go_enter Tryd.func62, Tryd.ntmps62
  go_wp2
  refine bodyPost_ret (results_tmp rfl _ _ _) rfl ⟨?_, rfl⟩
  rw [← HQ.out]
  rfl


set_option maxRecDepth 100000 in
set_option maxHeartbeats 8000000 in
theorem specStep_2 (b off len cap m rd ra rb : Nat) (k : Int) (F : Nat → Ins) (b1 o1 c1 b2 o2 c2 : Nat) (f1 f2 : Nat → Int) (w : World) (hC : Code w (some ⟨b, off, none⟩) len F) (hm : m < len) (hlen : len ≤ 40) (hF : F m = ⟨⟨#[115, 117, 98]⟩, rd, ra, rb, k⟩)
    (hd : rd < 4) (ha : ra < 4) (hb : rb < 4) (k0 : 0 ≤ k) (k1 : k ≤ 255) (ok1 : ∀ j, j < 4 → 0 ≤ f1 j ∧ f1 j ≤ 255) (h1 : Nums w (some ⟨b1, o1, none⟩) 4 f1) (h2 : Nums w (some ⟨b2, o2, none⟩) 8 f2) :
    Calls Tryd.prog 53 #[.slice (some ⟨b, off, none⟩) len cap, MV m (some ⟨b1, o1, none⟩) 4 c1 (some ⟨b2, o2, none⟩) 8 c2] w (MachOk w (stepAt 2 m ra k f1) 4 8 (stepRegs 2 rd ra rb k f1 f2) (stepMem 2 rd ra k f1 f2)) := by
  have hk0 := k0; have hk1 := k1
  have iA : (ra : Int) < 4 := by omega
  have iB : (rb : Int) < 4 := by omega
  have iD : (rd : Int) < 4 := by omega
  have iA0 : (0 : Int) ≤ (ra : Int) := by omega
  have iB0 : (0 : Int) ≤ (rb : Int) := by omega
  have iD0 : (0 : Int) ≤ (rd : Int) := by omega
  have hB1 : b1 < w.heap.size := World.block_lt_of_cell? w _ (h1.cell (j := 0) (by omega))
  have hB2 : b2 < w.heap.size := World.block_lt_of_cell? w _ (h2.cell (j := 0) (by omega))
  obtain ⟨W0, hW0⟩ : ∃ W0, (w.alloc (.cells #[.int .i64 m, .slice (some ⟨b1, o1, none⟩) 4 c1, .slice (some ⟨b2, o2, none⟩) 8 c2] 26)).alloc (.cells #[.int .i64 0, .slice none 0 0, .slice none 0 0] 26) = W0 := ⟨_, rfl⟩
  have e1 : Holds5 W0 w.heap.size 26 #[.int .i64 m, .slice (some ⟨b1, o1, none⟩) 4 c1, .slice (some ⟨b2, o2, none⟩) 8 c2] := by
    rw [← hW0]
    exact (Holds5.fresh w 26 #[.int .i64 m, .slice (some ⟨b1, o1, none⟩) 4 c1, .slice (some ⟨b2, o2, none⟩) 8 c2]).alloc _
  have e2 : Holds5 W0 (w.heap.size + 1) 26 #[.int .i64 0, .slice none 0 0, .slice none 0 0] := by
    rw [← hW0]
    have := Holds5.fresh (w.alloc (.cells #[.int .i64 m, .slice (some ⟨b1, o1, none⟩) 4 c1, .slice (some ⟨b2, o2, none⟩) 8 c2] 26)) 26 #[.int .i64 0, .slice none 0 0, .slice none 0 0]
    rwa [World.size_alloc] at this
  have e3 : w.grownBy W0 none := by
    rw [← hW0]
    exact grown_same (World.grownBy_alloc _ _ _) (World.grownBy_alloc _ _ _)
  have hz : W0.heap.size = w.heap.size + 2 := by
    rw [← hW0, World.size_alloc, World.size_alloc]
  obtain ⟨q0, q1, q2, q3, q4⟩ := (hC.on e3).five hm
  rw [hF] at q0 q1 q2 q3 q4
  simp only [] at q0 q1 q2 q3 q4
  obtain ⟨a0, a1⟩ := ok1 ra ha
  obtain ⟨b0, b1'⟩ := ok1 rb hb
  have x0 := e1.look 0
  simp at x0
  have HW0 := shade hW0
  have N1 := shade (h1.grown e3 (by intro _ _ _ e; cases e)); have N2 := shade (h2.grown e3 (by intro _ _ _ e; cases e))
  have E1 := shade e1; have E2 := shade e2; have E3 := shade e3; have HZ := shade hz
  clear e1 e2 e3 hW0 hC hF ok1 h1 h2 hz
  obtain ⟨i0, hi, hz0, hz1, hz2⟩ := info_parts info3
  go_enter Tryd.func53, Tryd.ntmps53
  go_upto_region 1 with (fail)
  rw [HW0.out]
  clear HW0
  go_upto_region 2 with (fail)
  have e1 := E1.out.alloc (.cells #[.string ⟨#[115, 117, 98]⟩, .int .i64 rd, .int .i64 ra, .int .i64 rb, .int .i64 k] 37)
  have e2 := E2.out.alloc (.cells #[.string ⟨#[115, 117, 98]⟩, .int .i64 rd, .int .i64 ra, .int .i64 rb, .int .i64 k] 37)
  have e3 := grown_same E3.out (World.grownBy_alloc W0 (.cells #[.string ⟨#[115, 117, 98]⟩, .int .i64 rd, .int .i64 ra, .int .i64 rb, .int .i64 k] 37) none)
  have e4 := Holds5.fresh W0 37 #[.string ⟨#[115, 117, 98]⟩, .int .i64 rd, .int .i64 ra, .int .i64 rb, .int .i64 k]
  have n1 := N1.out.alloc (.cells #[.string ⟨#[115, 117, 98]⟩, .int .i64 rd, .int .i64 ra, .int .i64 rb, .int .i64 k] 37)
  have n2 := N2.out.alloc (.cells #[.string ⟨#[115, 117, 98]⟩, .int .i64 rd, .int .i64 ra, .int .i64 rb, .int .i64 k] 37)
  rw [HZ.out] at e4
  try simp only [HZ.out]
  have hz3 : (W0.alloc (.cells #[.string ⟨#[115, 117, 98]⟩, .int .i64 rd, .int .i64 ra, .int .i64 rb, .int .i64 k] 37)).heap.size = w.heap.size + 3 := by
    rw [World.size_alloc, HZ.out]
  generalize W0.alloc (.cells #[.string ⟨#[115, 117, 98]⟩, .int .i64 rd, .int .i64 ra, .int .i64 rb, .int .i64 k] 37) = W1 at *
  clear E1 E2 E3 N1 N2 q0 q1 q2 q3 q4 x0 HZ
  have x0 := e1.look 0; have x1 := e1.look 1; have x2 := e1.look 2
  simp at x0 x1 x2
  have E1 := shade e1; have E2 := shade e2; have E3 := shade e3; have E4 := shade e4; have N1 := shade n1; have N2 := shade n2; have HZ := shade hz3
  clear e1 e2 e3 e4 n1 n2 hz3
  have hbs : w.heap.size ≤ W1.heap.size := E3.out.size
  have hzl : w.heap.size < W1.heap.size := by have := HZ.out; omega
  have hzn : w.heap.size ≠ W1.heap.size := by omega
  go_upto_region 3 with (first
    | (at_builtin; refine wpList_append_own _ rfl (.tmp 15) (.tmp 17) 24 rfl W1.heap.size 3 i0 (.int .i64 0) 1 8 Tryd.underlying24 hi hz0 hz1 hz2 rfl (by decide) (.slice (some ⟨W1.heap.size, 0, none⟩) 0 0) 0 [] rfl (World.ownsRow_lit _ #[] 0 (Nat.le_refl _) (by decide) rfl) ⟨b1, o1, none⟩ 4 c1 (numL 4 f1) rfl (by simp [numL_len]) ((N1.out.alloc _).cells) (numL_oneCell 4 f1) (by unfold maxLen; omega) (by omega) (by simp) ?_; intro v6 w6 hown6 hgr6 hnil6))
  obtain ⟨g6, c6, rfl⟩ : ∃ g6 c6, v6 = .slice (some ⟨g6, 0, none⟩) 4 c6 := by
    rcases hown6.2 with ⟨_, h0⟩ | ⟨g6, c6, _, e, _⟩
    · omega
    · exact ⟨g6, c6, e⟩
  have o6 : Own w6 W1.heap.size (some ⟨g6, 0, none⟩) 4 c6 f1 := hown6
  have hW : W1.grownBy w6 none := grown_row (World.grownBy_alloc W1 (.cells #[] 3) none) hgr6 (fun j e => by
    have e2 : some W1.heap.size = some j := e
    injection e2 with e2
    omega)
  have e1 := E1.out.grown hW (by intro e; cases e)
  have e2 := E2.out.grown hW (by intro e; cases e)
  have e3 := grown_same E3.out hW
  have e4 := E4.out.grown hW (by intro e; cases e)
  have n1 := N1.out.grown hW (by intro _ _ _ e; cases e)
  have n2 := N2.out.grown hW (by intro _ _ _ e; cases e)
  have l6 := o6.lt
  have hzm := HZ.out
  clear E1 E2 E3 E4 N1 N2 x0 x1 x2 hown6 hgr6 hnil6 hW hbs hzl hzn HZ
  have x0 := e1.look 0; have x1 := e1.look 1; have x2 := e1.look 2
  simp at x0 x1 x2
  have E1 := shade e1; have E2 := shade e2; have E3 := shade e3; have E4 := shade e4; have N1 := shade n1; have N2 := shade n2; have O6 := shade o6
  clear e1 e2 e3 e4 n1 n2 o6
  have hzl : w.heap.size < w6.heap.size := by omega
  go_upto_region 4 with (first
    | (at_builtin; refine wpList_append_own _ rfl (.tmp 19) (.tmp 21) 24 rfl w6.heap.size 3 i0 (.int .i64 0) 1 8 Tryd.underlying24 hi hz0 hz1 hz2 rfl (by decide) (.slice (some ⟨w6.heap.size, 0, none⟩) 0 0) 0 [] rfl (World.ownsRow_lit _ #[] 0 (Nat.le_refl _) (by decide) rfl) ⟨b2, o2, none⟩ 8 c2 (numL 8 f2) rfl (by simp [numL_len]) ((N2.out.alloc _).cells) (numL_oneCell 8 f2) (by unfold maxLen; omega) (by omega) (by simp) ?_; intro v7 w7 hown7 hgr7 hnil7))
  obtain ⟨g7, c7, rfl⟩ : ∃ g7 c7, v7 = .slice (some ⟨g7, 0, none⟩) 8 c7 := by
    rcases hown7.2 with ⟨_, h0⟩ | ⟨g7, c7, _, e, _⟩
    · omega
    · exact ⟨g7, c7, e⟩
  have o7 : Own w7 w6.heap.size (some ⟨g7, 0, none⟩) 8 c7 f2 := hown7
  have hW : w6.grownBy w7 none := grown_row (World.grownBy_alloc w6 (.cells #[] 3) none) hgr7 (fun j e => by
    have e2 : some w6.heap.size = some j := e
    injection e2 with e2
    omega)
  have o6 := O6.out.on hW
  have e1 := E1.out.grown hW (by intro e; cases e)
  have e2 := E2.out.grown hW (by intro e; cases e)
  have e3 := grown_same E3.out hW
  have e4 := E4.out.grown hW (by intro e; cases e)
  have n1 := N1.out.grown hW (by intro _ _ _ e; cases e)
  have n2 := N2.out.grown hW (by intro _ _ _ e; cases e)
  have l7 := o7.lt
  clear E1 E2 E3 E4 N1 N2 O6 x0 x1 x2 hown7 hgr7 hnil7 hW hi hz0 hz1 hz2
  have x0 := e1.look 0; have x1 := e1.look 1; have x2 := e1.look 2
  have y0 := e4.look 0; have y1 := e4.look 1; have y2 := e4.look 2; have y3 := e4.look 3; have y4 := e4.look 4
  simp at x0 x1 x2 y0 y1 y2 y3 y4
  have xa := n1.cell ha; have xb := n1.cell hb; have xd := n1.cell hd
  have xp := n2.cell (placeN_lt f1 ra k)
  have hpl := placeN_lt f1 ra k
  have hpI : ((placeN f1 ra k : Nat) : Int) < 8 := by omega
  have hpI0 : (0 : Int) ≤ ((placeN f1 ra k : Nat) : Int) := by omega
  have hp : (f1 ra + k) % 8 = ((placeN f1 ra k : Nat) : Int) := by
    unfold placeN
    omega
  have HP := shade hp
  have ra6 := o6.nums.cell hd; have rf6 := World.ownsRow.frozenAt o6 rd
  have ra7 := o7.nums.cell (placeN_lt f1 ra k); have rf7 := World.ownsRow.frozenAt o7 (placeN f1 ra k)
  rw [Nat.zero_add] at ra6 ra7
  have E2 := shade e2; have E3 := shade e3; have O6 := shade o6; have O7 := shade o7
  have r0 := e2.look 0; have r1 := e2.look 1; have r2 := e2.look 2; have t0 := e2.free 0; have t1 := e2.free 1; have t2 := e2.free 2
  simp at r0 r1 r2
  clear e1 e2 e3 e4 n1 n2 o6 o7 hp
  have hneS : g6 ≠ w.heap.size + 1 := by omega
  have hneT : g7 ≠ w.heap.size + 1 := by omega
  have hne67 : g6 ≠ g7 := by omega
  go_upto_region 5 with (fail)
  go_quiet (fail)
  go_upto_region 6 with (fail)
  try simp only [HP.out]
  go_upto_region 13 with (fail)
  go_region_held3 (fun w' => w'.cell? ⟨w.heap.size + 2, 0, none⟩ = some (.string ⟨#[115, 117, 98]⟩) ∧ w'.cell? ⟨w.heap.size + 2, 1, none⟩ = some (.int .i64 rd) ∧ w'.cell? ⟨w.heap.size + 2, 2, none⟩ = some (.int .i64 ra) ∧ w'.cell? ⟨w.heap.size + 2, 3, none⟩ = some (.int .i64 rb) ∧ w'.cell? ⟨w.heap.size, 1, none⟩ = some (.slice (some ⟨b1, o1, none⟩) 4 c1) ∧ w'.cell? ⟨b1, o1 + ra, none⟩ = some (.int .i64 (f1 ra)) ∧ w'.cell? ⟨b1, o1 + rb, none⟩ = some (.int .i64 (f1 rb))) (first | exact ⟨cell_drew y0, cell_drew y1, cell_drew y2, cell_drew y3, cell_drew x1, cell_drew xa, cell_drew xb⟩ | exact ⟨(World.cell?_setCell_far _ _ _ _ (by show g6 ≠ w.heap.size + 2; omega)).trans (cell_drew y0), (World.cell?_setCell_far _ _ _ _ (by show g6 ≠ w.heap.size + 2; omega)).trans (cell_drew y1), (World.cell?_setCell_far _ _ _ _ (by show g6 ≠ w.heap.size + 2; omega)).trans (cell_drew y2), (World.cell?_setCell_far _ _ _ _ (by show g6 ≠ w.heap.size + 2; omega)).trans (cell_drew y3), (World.cell?_setCell_far _ _ _ _ (by show g6 ≠ w.heap.size; omega)).trans (cell_drew x1), (World.cell?_setCell_far _ _ _ _ (by show g6 ≠ b1; omega)).trans (cell_drew xa), (World.cell?_setCell_far _ _ _ _ (by show g6 ≠ b1; omega)).trans (cell_drew xb)⟩)
    ((go_at_call 62; refine (compute_2 _ _ _ a0 a1 b0 b1').mono ?_; rintro e w' ⟨rfl, rfl⟩))
  rename_i hHeld
  clear hHeld
  go_upto_region 23 with (fail)
  clear r0 r1 r2 t0 t1 t2
  have hd7 : w7.grownBy (w7.drewN (nq + 1)) none := grown_drewN (grown_refl _ _) (nq + 1)
  have h6 := (World.ownsRow.stored (O6.out.on hd7) rd (.int .i64 ((f1 ra - f1 rb) % 256))).1
  rw [numL_set 4 f1 (upd f1 rd ((f1 ra - f1 rb) % 256)) rd ((f1 ra - f1 rb) % 256) (by simp [upd]) (fun j _ hne => by simp [upd, hne])] at h6
  have h7 := (O7.out.on hd7).far (r := g6) (by omega) rd (.int .i64 ((f1 ra - f1 rb) % 256))
  have h2 := (E2.out.grown hd7 (by intro e; cases e)).far (r := g6) (by omega) rd (.int .i64 ((f1 ra - f1 rb) % 256))
  have h3 := grown_put (grown_same E3.out hd7) (r := g6) (by omega) rd (.int .i64 ((f1 ra - f1 rb) % 256))
  generalize (w7.drewN (nq + 1)).setCell ⟨g6, rd, none⟩ (.int .i64 ((f1 ra - f1 rb) % 256)) = w8 at *
  have r0 := h2.look 0; have r1 := h2.look 1; have r2 := h2.look 2; have t0 := h2.free 0; have t1 := h2.free 1; have t2 := h2.free 2
  simp at r0 r1 r2
  have hH := ((h2.put 0 (.int .i64 ((m : Int) + 1))).put 1 (.slice (some ⟨g6, 0, none⟩) 4 c6)).put 2 (.slice (some ⟨g7, 0, none⟩) 8 c7)
  simp at hH
  have HH := shade hH
  have HG := shade (grown_put (r := w.heap.size + 1) (grown_put (r := w.heap.size + 1) (grown_put (r := w.heap.size + 1) h3 (by omega) 0 (.int .i64 ((m : Int) + 1))) (by omega) 1 (.slice (some ⟨g6, 0, none⟩) 4 c6)) (by omega) 2 (.slice (some ⟨g7, 0, none⟩) 8 c7))
  have H6 := shade ((((Own.lower (B' := w.heap.size) h6 (by omega)).far hneS 0 (.int .i64 ((m : Int) + 1))).far hneS 1 (.slice (some ⟨g6, 0, none⟩) 4 c6)).far hneS 2 (.slice (some ⟨g7, 0, none⟩) 8 c7))
  have H7 := shade ((((Own.lower (B' := w.heap.size) h7 (by omega)).far hneT 0 (.int .i64 ((m : Int) + 1))).far hneT 1 (.slice (some ⟨g6, 0, none⟩) 4 c6)).far hneT 2 (.slice (some ⟨g7, 0, none⟩) 8 c7))
  clear h2 h3 h6 h7 hH
  go_wp2_with fail
  refine bodyPost_ret (results_cell_row rfl _ _ _ _ _ (0, 0) _ rfl HH.out Tryd.underlying26 rfl (by kernel_rfl)) rfl ?_
  refine ⟨g6, c6, g7, c7, ?_, hne67, ?_, ?_, HG.out⟩
  · simp [stepAt]
  · rw [show stepRegs 2 rd ra rb k f1 f2 = (upd f1 rd ((f1 ra - f1 rb) % 256)) from by simp [stepRegs, stepVal]]
    exact H6.out
  · rw [show stepMem 2 rd ra k f1 f2 = f2 from by simp [stepMem]]
    exact H7.out


set_option maxHeartbeats 1000000 in
theorem compute_3 (a b : Int) (w : World) (a0 : 0 ≤ a) (a1 : a ≤ 255) (b0 : 0 ≤ b) (b1 : b ≤ 255) : Calls Tryd.prog 62 #[.string ⟨#[109, 117, 108]⟩, .int .i64 a, .int .i64 b] w fun e w' => e = .returned (.int .i64 ((a * b) % 256)) ∧ w = w' := by
  have hh := a0; have hh1 := a1; have hh2 := b0; have hh3 := b1
  have m0 : 0 ≤ a * b := Int.mul_nonneg a0 b0
  have m1 : a * b ≤ 255 * 255 := Int.mul_le_mul a1 b1 b0 (by omega)
  have m2 : a * b ≤ 65025 := m1
  clear m1
  go_enter Tryd.func62, Tryd.ntmps62
  go_wp2
  go_ret
  exact ⟨rfl, rfl⟩


set_option maxRecDepth 100000 in
set_option maxHeartbeats 8000000 in
theorem specStep_3 (b off len cap m rd ra rb : Nat) (k : Int) (F : Nat → Ins) (b1 o1 c1 b2 o2 c2 : Nat) (f1 f2 : Nat → Int) (w : World) (hC : Code w (some ⟨b, off, none⟩) len F) (hm : m < len) (hlen : len ≤ 40) (hF : F m = ⟨⟨#[109, 117, 108]⟩, rd, ra, rb, k⟩)
    (hd : rd < 4) (ha : ra < 4) (hb : rb < 4) (k0 : 0 ≤ k) (k1 : k ≤ 255) (ok1 : ∀ j, j < 4 → 0 ≤ f1 j ∧ f1 j ≤ 255) (h1 : Nums w (some ⟨b1, o1, none⟩) 4 f1) (h2 : Nums w (some ⟨b2, o2, none⟩) 8 f2) :
    Calls Tryd.prog 53 #[.slice (some ⟨b, off, none⟩) len cap, MV m (some ⟨b1, o1, none⟩) 4 c1 (some ⟨b2, o2, none⟩) 8 c2] w (MachOk w (stepAt 3 m ra k f1) 4 8 (stepRegs 3 rd ra rb k f1 f2) (stepMem 3 rd ra k f1 f2)) := by
  have hk0 := k0; have hk1 := k1
  have iA : (ra : Int) < 4 := by omega
  have iB : (rb : Int) < 4 := by omega
  have iD : (rd : Int) < 4 := by omega
  have iA0 : (0 : Int) ≤ (ra : Int) := by omega
  have iB0 : (0 : Int) ≤ (rb : Int) := by omega
  have iD0 : (0 : Int) ≤ (rd : Int) := by omega
  have hB1 : b1 < w.heap.size := World.block_lt_of_cell? w _ (h1.cell (j := 0) (by omega))
  have hB2 : b2 < w.heap.size := World.block_lt_of_cell? w _ (h2.cell (j := 0) (by omega))
  obtain ⟨W0, hW0⟩ : ∃ W0, (w.alloc (.cells #[.int .i64 m, .slice (some ⟨b1, o1, none⟩) 4 c1, .slice (some ⟨b2, o2, none⟩) 8 c2] 26)).alloc (.cells #[.int .i64 0, .slice none 0 0, .slice none 0 0] 26) = W0 := ⟨_, rfl⟩
  have e1 : Holds5 W0 w.heap.size 26 #[.int .i64 m, .slice (some ⟨b1, o1, none⟩) 4 c1, .slice (some ⟨b2, o2, none⟩) 8 c2] := by
    rw [← hW0]
    exact (Holds5.fresh w 26 #[.int .i64 m, .slice (some ⟨b1, o1, none⟩) 4 c1, .slice (some ⟨b2, o2, none⟩) 8 c2]).alloc _
  have e2 : Holds5 W0 (w.heap.size + 1) 26 #[.int .i64 0, .slice none 0 0, .slice none 0 0] := by
    rw [← hW0]
    have := Holds5.fresh (w.alloc (.cells #[.int .i64 m, .slice (some ⟨b1, o1, none⟩) 4 c1, .slice (some ⟨b2, o2, none⟩) 8 c2] 26)) 26 #[.int .i64 0, .slice none 0 0, .slice none 0 0]
    rwa [World.size_alloc] at this
  have e3 : w.grownBy W0 none := by
    rw [← hW0]
    exact grown_same (World.grownBy_alloc _ _ _) (World.grownBy_alloc _ _ _)
  have hz : W0.heap.size = w.heap.size + 2 := by
    rw [← hW0, World.size_alloc, World.size_alloc]
  obtain ⟨q0, q1, q2, q3, q4⟩ := (hC.on e3).five hm
  rw [hF] at q0 q1 q2 q3 q4
  simp only [] at q0 q1 q2 q3 q4
  obtain ⟨a0, a1⟩ := ok1 ra ha
  obtain ⟨b0, b1'⟩ := ok1 rb hb
  have x0 := e1.look 0
  simp at x0
  have HW0 := shade hW0
  have N1 := shade (h1.grown e3 (by intro _ _ _ e; cases e)); have N2 := shade (h2.grown e3 (by intro _ _ _ e; cases e))
  have E1 := shade e1; have E2 := shade e2; have E3 := shade e3; have HZ := shade hz
  clear e1 e2 e3 hW0 hC hF ok1 h1 h2 hz
  obtain ⟨i0, hi, hz0, hz1, hz2⟩ := info_parts info3
  go_enter Tryd.func53, Tryd.ntmps53
  go_upto_region 1 with (fail)
  rw [HW0.out]
  clear HW0
  go_upto_region 2 with (fail)
  have e1 := E1.out.alloc (.cells #[.string ⟨#[109, 117, 108]⟩, .int .i64 rd, .int .i64 ra, .int .i64 rb, .int .i64 k] 37)
  have e2 := E2.out.alloc (.cells #[.string ⟨#[109, 117, 108]⟩, .int .i64 rd, .int .i64 ra, .int .i64 rb, .int .i64 k] 37)
  have e3 := grown_same E3.out (World.grownBy_alloc W0 (.cells #[.string ⟨#[109, 117, 108]⟩, .int .i64 rd, .int .i64 ra, .int .i64 rb, .int .i64 k] 37) none)
  have e4 := Holds5.fresh W0 37 #[.string ⟨#[109, 117, 108]⟩, .int .i64 rd, .int .i64 ra, .int .i64 rb, .int .i64 k]
  have n1 := N1.out.alloc (.cells #[.string ⟨#[109, 117, 108]⟩, .int .i64 rd, .int .i64 ra, .int .i64 rb, .int .i64 k] 37)
  have n2 := N2.out.alloc (.cells #[.string ⟨#[109, 117, 108]⟩, .int .i64 rd, .int .i64 ra, .int .i64 rb, .int .i64 k] 37)
  rw [HZ.out] at e4
  try simp only [HZ.out]
  have hz3 : (W0.alloc (.cells #[.string ⟨#[109, 117, 108]⟩, .int .i64 rd, .int .i64 ra, .int .i64 rb, .int .i64 k] 37)).heap.size = w.heap.size + 3 := by
    rw [World.size_alloc, HZ.out]
  generalize W0.alloc (.cells #[.string ⟨#[109, 117, 108]⟩, .int .i64 rd, .int .i64 ra, .int .i64 rb, .int .i64 k] 37) = W1 at *
  clear E1 E2 E3 N1 N2 q0 q1 q2 q3 q4 x0 HZ
  have x0 := e1.look 0; have x1 := e1.look 1; have x2 := e1.look 2
  simp at x0 x1 x2
  have E1 := shade e1; have E2 := shade e2; have E3 := shade e3; have E4 := shade e4; have N1 := shade n1; have N2 := shade n2; have HZ := shade hz3
  clear e1 e2 e3 e4 n1 n2 hz3
  have hbs : w.heap.size ≤ W1.heap.size := E3.out.size
  have hzl : w.heap.size < W1.heap.size := by have := HZ.out; omega
  have hzn : w.heap.size ≠ W1.heap.size := by omega
  go_upto_region 3 with (first
    | (at_builtin; refine wpList_append_own _ rfl (.tmp 15) (.tmp 17) 24 rfl W1.heap.size 3 i0 (.int .i64 0) 1 8 Tryd.underlying24 hi hz0 hz1 hz2 rfl (by decide) (.slice (some ⟨W1.heap.size, 0, none⟩) 0 0) 0 [] rfl (World.ownsRow_lit _ #[] 0 (Nat.le_refl _) (by decide) rfl) ⟨b1, o1, none⟩ 4 c1 (numL 4 f1) rfl (by simp [numL_len]) ((N1.out.alloc _).cells) (numL_oneCell 4 f1) (by unfold maxLen; omega) (by omega) (by simp) ?_; intro v6 w6 hown6 hgr6 hnil6))
  obtain ⟨g6, c6, rfl⟩ : ∃ g6 c6, v6 = .slice (some ⟨g6, 0, none⟩) 4 c6 := by
    rcases hown6.2 with ⟨_, h0⟩ | ⟨g6, c6, _, e, _⟩
    · omega
    · exact ⟨g6, c6, e⟩
  have o6 : Own w6 W1.heap.size (some ⟨g6, 0, none⟩) 4 c6 f1 := hown6
  have hW : W1.grownBy w6 none := grown_row (World.grownBy_alloc W1 (.cells #[] 3) none) hgr6 (fun j e => by
    have e2 : some W1.heap.size = some j := e
    injection e2 with e2
    omega)
  have e1 := E1.out.grown hW (by intro e; cases e)
  have e2 := E2.out.grown hW (by intro e; cases e)
  have e3 := grown_same E3.out hW
  have e4 := E4.out.grown hW (by intro e; cases e)
  have n1 := N1.out.grown hW (by intro _ _ _ e; cases e)
  have n2 := N2.out.grown hW (by intro _ _ _ e; cases e)
  have l6 := o6.lt
  have hzm := HZ.out
  clear E1 E2 E3 E4 N1 N2 x0 x1 x2 hown6 hgr6 hnil6 hW hbs hzl hzn HZ
  have x0 := e1.look 0; have x1 := e1.look 1; have x2 := e1.look 2
  simp at x0 x1 x2
  have E1 := shade e1; have E2 := shade e2; have E3 := shade e3; have E4 := shade e4; have N1 := shade n1; have N2 := shade n2; have O6 := shade o6
  clear e1 e2 e3 e4 n1 n2 o6
  have hzl : w.heap.size < w6.heap.size := by omega
  go_upto_region 4 with (first
    | (at_builtin; refine wpList_append_own _ rfl (.tmp 19) (.tmp 21) 24 rfl w6.heap.size 3 i0 (.int .i64 0) 1 8 Tryd.underlying24 hi hz0 hz1 hz2 rfl (by decide) (.slice (some ⟨w6.heap.size, 0, none⟩) 0 0) 0 [] rfl (World.ownsRow_lit _ #[] 0 (Nat.le_refl _) (by decide) rfl) ⟨b2, o2, none⟩ 8 c2 (numL 8 f2) rfl (by simp [numL_len]) ((N2.out.alloc _).cells) (numL_oneCell 8 f2) (by unfold maxLen; omega) (by omega) (by simp) ?_; intro v7 w7 hown7 hgr7 hnil7))
  obtain ⟨g7, c7, rfl⟩ : ∃ g7 c7, v7 = .slice (some ⟨g7, 0, none⟩) 8 c7 := by
    rcases hown7.2 with ⟨_, h0⟩ | ⟨g7, c7, _, e, _⟩
    · omega
    · exact ⟨g7, c7, e⟩
  have o7 : Own w7 w6.heap.size (some ⟨g7, 0, none⟩) 8 c7 f2 := hown7
  have hW : w6.grownBy w7 none := grown_row (World.grownBy_alloc w6 (.cells #[] 3) none) hgr7 (fun j e => by
    have e2 : some w6.heap.size = some j := e
    injection e2 with e2
    omega)
  have o6 := O6.out.on hW
  have e1 := E1.out.grown hW (by intro e; cases e)
  have e2 := E2.out.grown hW (by intro e; cases e)
  have e3 := grown_same E3.out hW
  have e4 := E4.out.grown hW (by intro e; cases e)
  have n1 := N1.out.grown hW (by intro _ _ _ e; cases e)
  have n2 := N2.out.grown hW (by intro _ _ _ e; cases e)
  have l7 := o7.lt
  clear E1 E2 E3 E4 N1 N2 O6 x0 x1 x2 hown7 hgr7 hnil7 hW hi hz0 hz1 hz2
  have x0 := e1.look 0; have x1 := e1.look 1; have x2 := e1.look 2
  have y0 := e4.look 0; have y1 := e4.look 1; have y2 := e4.look 2; have y3 := e4.look 3; have y4 := e4.look 4
  simp at x0 x1 x2 y0 y1 y2 y3 y4
  have xa := n1.cell ha; have xb := n1.cell hb; have xd := n1.cell hd
  have xp := n2.cell (placeN_lt f1 ra k)
  have hpl := placeN_lt f1 ra k
  have hpI : ((placeN f1 ra k : Nat) : Int) < 8 := by omega
  have hpI0 : (0 : Int) ≤ ((placeN f1 ra k : Nat) : Int) := by omega
  have hp : (f1 ra + k) % 8 = ((placeN f1 ra k : Nat) : Int) := by
    unfold placeN
    omega
  have HP := shade hp
  have ra6 := o6.nums.cell hd; have rf6 := World.ownsRow.frozenAt o6 rd
  have ra7 := o7.nums.cell (placeN_lt f1 ra k); have rf7 := World.ownsRow.frozenAt o7 (placeN f1 ra k)
  rw [Nat.zero_add] at ra6 ra7
  have E2 := shade e2; have E3 := shade e3; have O6 := shade o6; have O7 := shade o7
  have r0 := e2.look 0; have r1 := e2.look 1; have r2 := e2.look 2; have t0 := e2.free 0; have t1 := e2.free 1; have t2 := e2.free 2
  simp at r0 r1 r2
  clear e1 e2 e3 e4 n1 n2 o6 o7 hp
  have hneS : g6 ≠ w.heap.size + 1 := by omega
  have hneT : g7 ≠ w.heap.size + 1 := by omega
  have hne67 : g6 ≠ g7 := by omega
  go_upto_region 5 with (fail)
  go_quiet (fail)
  go_upto_region 6 with (fail)
  try simp only [HP.out]
  have m0 : 0 ≤ f1 ra * f1 rb := Int.mul_nonneg a0 b0
  have m1 : f1 ra * f1 rb ≤ 255 * 255 := Int.mul_le_mul a1 b1' b0 (by omega)
  have m2 : f1 ra * f1 rb ≤ 65025 := m1
  clear m1
  go_upto_region 13 with (fail)
  go_region_held3 (fun w' => w'.cell? ⟨w.heap.size + 2, 0, none⟩ = some (.string ⟨#[109, 117, 108]⟩) ∧ w'.cell? ⟨w.heap.size + 2, 1, none⟩ = some (.int .i64 rd) ∧ w'.cell? ⟨w.heap.size + 2, 2, none⟩ = some (.int .i64 ra) ∧ w'.cell? ⟨w.heap.size + 2, 3, none⟩ = some (.int .i64 rb) ∧ w'.cell? ⟨w.heap.size, 1, none⟩ = some (.slice (some ⟨b1, o1, none⟩) 4 c1) ∧ w'.cell? ⟨b1, o1 + ra, none⟩ = some (.int .i64 (f1 ra)) ∧ w'.cell? ⟨b1, o1 + rb, none⟩ = some (.int .i64 (f1 rb))) (first | exact ⟨cell_drew y0, cell_drew y1, cell_drew y2, cell_drew y3, cell_drew x1, cell_drew xa, cell_drew xb⟩ | exact ⟨(World.cell?_setCell_far _ _ _ _ (by show g6 ≠ w.heap.size + 2; omega)).trans (cell_drew y0), (World.cell?_setCell_far _ _ _ _ (by show g6 ≠ w.heap.size + 2; omega)).trans (cell_drew y1), (World.cell?_setCell_far _ _ _ _ (by show g6 ≠ w.heap.size + 2; omega)).trans (cell_drew y2), (World.cell?_setCell_far _ _ _ _ (by show g6 ≠ w.heap.size + 2; omega)).trans (cell_drew y3), (World.cell?_setCell_far _ _ _ _ (by show g6 ≠ w.heap.size; omega)).trans (cell_drew x1), (World.cell?_setCell_far _ _ _ _ (by show g6 ≠ b1; omega)).trans (cell_drew xa), (World.cell?_setCell_far _ _ _ _ (by show g6 ≠ b1; omega)).trans (cell_drew xb)⟩)
    ((go_at_call 62; refine (compute_3 _ _ _ a0 a1 b0 b1').mono ?_; rintro e w' ⟨rfl, rfl⟩))
  rename_i hHeld
  clear hHeld
  go_upto_region 23 with (fail)
  clear r0 r1 r2 t0 t1 t2
  have hd7 : w7.grownBy (w7.drewN (nq + 1)) none := grown_drewN (grown_refl _ _) (nq + 1)
  have h6 := (World.ownsRow.stored (O6.out.on hd7) rd (.int .i64 ((f1 ra * f1 rb) % 256))).1
  rw [numL_set 4 f1 (upd f1 rd ((f1 ra * f1 rb) % 256)) rd ((f1 ra * f1 rb) % 256) (by simp [upd]) (fun j _ hne => by simp [upd, hne])] at h6
  have h7 := (O7.out.on hd7).far (r := g6) (by omega) rd (.int .i64 ((f1 ra * f1 rb) % 256))
  have h2 := (E2.out.grown hd7 (by intro e; cases e)).far (r := g6) (by omega) rd (.int .i64 ((f1 ra * f1 rb) % 256))
  have h3 := grown_put (grown_same E3.out hd7) (r := g6) (by omega) rd (.int .i64 ((f1 ra * f1 rb) % 256))
  generalize (w7.drewN (nq + 1)).setCell ⟨g6, rd, none⟩ (.int .i64 ((f1 ra * f1 rb) % 256)) = w8 at *
  have r0 := h2.look 0; have r1 := h2.look 1; have r2 := h2.look 2; have t0 := h2.free 0; have t1 := h2.free 1; have t2 := h2.free 2
  simp at r0 r1 r2
  have hH := ((h2.put 0 (.int .i64 ((m : Int) + 1))).put 1 (.slice (some ⟨g6, 0, none⟩) 4 c6)).put 2 (.slice (some ⟨g7, 0, none⟩) 8 c7)
  simp at hH
  have HH := shade hH
  have HG := shade (grown_put (r := w.heap.size + 1) (grown_put (r := w.heap.size + 1) (grown_put (r := w.heap.size + 1) h3 (by omega) 0 (.int .i64 ((m : Int) + 1))) (by omega) 1 (.slice (some ⟨g6, 0, none⟩) 4 c6)) (by omega) 2 (.slice (some ⟨g7, 0, none⟩) 8 c7))
  have H6 := shade ((((Own.lower (B' := w.heap.size) h6 (by omega)).far hneS 0 (.int .i64 ((m : Int) + 1))).far hneS 1 (.slice (some ⟨g6, 0, none⟩) 4 c6)).far hneS 2 (.slice (some ⟨g7, 0, none⟩) 8 c7))
  have H7 := shade ((((Own.lower (B' := w.heap.size) h7 (by omega)).far hneT 0 (.int .i64 ((m : Int) + 1))).far hneT 1 (.slice (some ⟨g6, 0, none⟩) 4 c6)).far hneT 2 (.slice (some ⟨g7, 0, none⟩) 8 c7))
  clear h2 h3 h6 h7 hH
  go_wp2_with fail
  refine bodyPost_ret (results_cell_row rfl _ _ _ _ _ (0, 0) _ rfl HH.out Tryd.underlying26 rfl (by kernel_rfl)) rfl ?_
  refine ⟨g6, c6, g7, c7, ?_, hne67, ?_, ?_, HG.out⟩
  · simp [stepAt]
  · rw [show stepRegs 3 rd ra rb k f1 f2 = (upd f1 rd ((f1 ra * f1 rb) % 256)) from by simp [stepRegs, stepVal]]
    exact H6.out
  · rw [show stepMem 3 rd ra k f1 f2 = f2 from by simp [stepMem]]
    exact H7.out


set_option maxHeartbeats 1000000 in
theorem compute_4 (a b : Int) (w : World) (a0 : 0 ≤ a) (a1 : a ≤ 255) (b0 : 0 ≤ b) (b1 : b ≤ 255) : Calls Tryd.prog 62 #[.string ⟨#[108, 116]⟩, .int .i64 a, .int .i64 b] w fun e w' => e = .returned (.int .i64 (if a < b then 1 else 0)) ∧ w = w' := by
  have hh := a0; have hh1 := a1; have hh2 := b0; have hh3 := b1
  by_cases h : a < b
  · rw [if_pos h]
    go_enter Tryd.func62, Tryd.ntmps62
    go_wp2
    go_ret
    exact ⟨rfl, rfl⟩
  · rw [if_neg h]
    have h : b ≤ a := by omega
    go_enter Tryd.func62, Tryd.ntmps62
    go_wp2
    go_ret
    exact ⟨rfl, rfl⟩


set_option maxRecDepth 100000 in
set_option maxHeartbeats 8000000 in
theorem specStep_4 (b off len cap m rd ra rb : Nat) (k : Int) (F : Nat → Ins) (b1 o1 c1 b2 o2 c2 : Nat) (f1 f2 : Nat → Int) (w : World) (hC : Code w (some ⟨b, off, none⟩) len F) (hm : m < len) (hlen : len ≤ 40) (hF : F m = ⟨⟨#[108, 116]⟩, rd, ra, rb, k⟩)
    (hd : rd < 4) (ha : ra < 4) (hb : rb < 4) (k0 : 0 ≤ k) (k1 : k ≤ 255) (ok1 : ∀ j, j < 4 → 0 ≤ f1 j ∧ f1 j ≤ 255) (h1 : Nums w (some ⟨b1, o1, none⟩) 4 f1) (h2 : Nums w (some ⟨b2, o2, none⟩) 8 f2) :
    Calls Tryd.prog 53 #[.slice (some ⟨b, off, none⟩) len cap, MV m (some ⟨b1, o1, none⟩) 4 c1 (some ⟨b2, o2, none⟩) 8 c2] w (MachOk w (stepAt 4 m ra k f1) 4 8 (stepRegs 4 rd ra rb k f1 f2) (stepMem 4 rd ra k f1 f2)) := by
  have hk0 := k0; have hk1 := k1
  have iA : (ra : Int) < 4 := by omega
  have iB : (rb : Int) < 4 := by omega
  have iD : (rd : Int) < 4 := by omega
  have iA0 : (0 : Int) ≤ (ra : Int) := by omega
  have iB0 : (0 : Int) ≤ (rb : Int) := by omega
  have iD0 : (0 : Int) ≤ (rd : Int) := by omega
  have hB1 : b1 < w.heap.size := World.block_lt_of_cell? w _ (h1.cell (j := 0) (by omega))
  have hB2 : b2 < w.heap.size := World.block_lt_of_cell? w _ (h2.cell (j := 0) (by omega))
  obtain ⟨W0, hW0⟩ : ∃ W0, (w.alloc (.cells #[.int .i64 m, .slice (some ⟨b1, o1, none⟩) 4 c1, .slice (some ⟨b2, o2, none⟩) 8 c2] 26)).alloc (.cells #[.int .i64 0, .slice none 0 0, .slice none 0 0] 26) = W0 := ⟨_, rfl⟩
  have e1 : Holds5 W0 w.heap.size 26 #[.int .i64 m, .slice (some ⟨b1, o1, none⟩) 4 c1, .slice (some ⟨b2, o2, none⟩) 8 c2] := by
    rw [← hW0]
    exact (Holds5.fresh w 26 #[.int .i64 m, .slice (some ⟨b1, o1, none⟩) 4 c1, .slice (some ⟨b2, o2, none⟩) 8 c2]).alloc _
  have e2 : Holds5 W0 (w.heap.size + 1) 26 #[.int .i64 0, .slice none 0 0, .slice none 0 0] := by
    rw [← hW0]
    have := Holds5.fresh (w.alloc (.cells #[.int .i64 m, .slice (some ⟨b1, o1, none⟩) 4 c1, .slice (some ⟨b2, o2, none⟩) 8 c2] 26)) 26 #[.int .i64 0, .slice none 0 0, .slice none 0 0]
    rwa [World.size_alloc] at this
  have e3 : w.grownBy W0 none := by
    rw [← hW0]
    exact grown_same (World.grownBy_alloc _ _ _) (World.grownBy_alloc _ _ _)
  have hz : W0.heap.size = w.heap.size + 2 := by
    rw [← hW0, World.size_alloc, World.size_alloc]
  obtain ⟨q0, q1, q2, q3, q4⟩ := (hC.on e3).five hm
  rw [hF] at q0 q1 q2 q3 q4
  simp only [] at q0 q1 q2 q3 q4
  obtain ⟨a0, a1⟩ := ok1 ra ha
  obtain ⟨b0, b1'⟩ := ok1 rb hb
  have x0 := e1.look 0
  simp at x0
  have HW0 := shade hW0
  have N1 := shade (h1.grown e3 (by intro _ _ _ e; cases e)); have N2 := shade (h2.grown e3 (by intro _ _ _ e; cases e))
  have E1 := shade e1; have E2 := shade e2; have E3 := shade e3; have HZ := shade hz
  clear e1 e2 e3 hW0 hC hF ok1 h1 h2 hz
  obtain ⟨i0, hi, hz0, hz1, hz2⟩ := info_parts info3
  go_enter Tryd.func53, Tryd.ntmps53
  go_upto_region 1 with (fail)
  rw [HW0.out]
  clear HW0
  go_upto_region 2 with (fail)
  have e1 := E1.out.alloc (.cells #[.string ⟨#[108, 116]⟩, .int .i64 rd, .int .i64 ra, .int .i64 rb, .int .i64 k] 37)
  have e2 := E2.out.alloc (.cells #[.string ⟨#[108, 116]⟩, .int .i64 rd, .int .i64 ra, .int .i64 rb, .int .i64 k] 37)
  have e3 := grown_same E3.out (World.grownBy_alloc W0 (.cells #[.string ⟨#[108, 116]⟩, .int .i64 rd, .int .i64 ra, .int .i64 rb, .int .i64 k] 37) none)
  have e4 := Holds5.fresh W0 37 #[.string ⟨#[108, 116]⟩, .int .i64 rd, .int .i64 ra, .int .i64 rb, .int .i64 k]
  have n1 := N1.out.alloc (.cells #[.string ⟨#[108, 116]⟩, .int .i64 rd, .int .i64 ra, .int .i64 rb, .int .i64 k] 37)
  have n2 := N2.out.alloc (.cells #[.string ⟨#[108, 116]⟩, .int .i64 rd, .int .i64 ra, .int .i64 rb, .int .i64 k] 37)
  rw [HZ.out] at e4
  try simp only [HZ.out]
  have hz3 : (W0.alloc (.cells #[.string ⟨#[108, 116]⟩, .int .i64 rd, .int .i64 ra, .int .i64 rb, .int .i64 k] 37)).heap.size = w.heap.size + 3 := by
    rw [World.size_alloc, HZ.out]
  generalize W0.alloc (.cells #[.string ⟨#[108, 116]⟩, .int .i64 rd, .int .i64 ra, .int .i64 rb, .int .i64 k] 37) = W1 at *
  clear E1 E2 E3 N1 N2 q0 q1 q2 q3 q4 x0 HZ
  have x0 := e1.look 0; have x1 := e1.look 1; have x2 := e1.look 2
  simp at x0 x1 x2
  have E1 := shade e1; have E2 := shade e2; have E3 := shade e3; have E4 := shade e4; have N1 := shade n1; have N2 := shade n2; have HZ := shade hz3
  clear e1 e2 e3 e4 n1 n2 hz3
  have hbs : w.heap.size ≤ W1.heap.size := E3.out.size
  have hzl : w.heap.size < W1.heap.size := by have := HZ.out; omega
  have hzn : w.heap.size ≠ W1.heap.size := by omega
  go_upto_region 3 with (first
    | (at_builtin; refine wpList_append_own _ rfl (.tmp 15) (.tmp 17) 24 rfl W1.heap.size 3 i0 (.int .i64 0) 1 8 Tryd.underlying24 hi hz0 hz1 hz2 rfl (by decide) (.slice (some ⟨W1.heap.size, 0, none⟩) 0 0) 0 [] rfl (World.ownsRow_lit _ #[] 0 (Nat.le_refl _) (by decide) rfl) ⟨b1, o1, none⟩ 4 c1 (numL 4 f1) rfl (by simp [numL_len]) ((N1.out.alloc _).cells) (numL_oneCell 4 f1) (by unfold maxLen; omega) (by omega) (by simp) ?_; intro v6 w6 hown6 hgr6 hnil6))
  obtain ⟨g6, c6, rfl⟩ : ∃ g6 c6, v6 = .slice (some ⟨g6, 0, none⟩) 4 c6 := by
    rcases hown6.2 with ⟨_, h0⟩ | ⟨g6, c6, _, e, _⟩
    · omega
    · exact ⟨g6, c6, e⟩
  have o6 : Own w6 W1.heap.size (some ⟨g6, 0, none⟩) 4 c6 f1 := hown6
  have hW : W1.grownBy w6 none := grown_row (World.grownBy_alloc W1 (.cells #[] 3) none) hgr6 (fun j e => by
    have e2 : some W1.heap.size = some j := e
    injection e2 with e2
    omega)
  have e1 := E1.out.grown hW (by intro e; cases e)
  have e2 := E2.out.grown hW (by intro e; cases e)
  have e3 := grown_same E3.out hW
  have e4 := E4.out.grown hW (by intro e; cases e)
  have n1 := N1.out.grown hW (by intro _ _ _ e; cases e)
  have n2 := N2.out.grown hW (by intro _ _ _ e; cases e)
  have l6 := o6.lt
  have hzm := HZ.out
  clear E1 E2 E3 E4 N1 N2 x0 x1 x2 hown6 hgr6 hnil6 hW hbs hzl hzn HZ
  have x0 := e1.look 0; have x1 := e1.look 1; have x2 := e1.look 2
  simp at x0 x1 x2
  have E1 := shade e1; have E2 := shade e2; have E3 := shade e3; have E4 := shade e4; have N1 := shade n1; have N2 := shade n2; have O6 := shade o6
  clear e1 e2 e3 e4 n1 n2 o6
  have hzl : w.heap.size < w6.heap.size := by omega
  go_upto_region 4 with (first
    | (at_builtin; refine wpList_append_own _ rfl (.tmp 19) (.tmp 21) 24 rfl w6.heap.size 3 i0 (.int .i64 0) 1 8 Tryd.underlying24 hi hz0 hz1 hz2 rfl (by decide) (.slice (some ⟨w6.heap.size, 0, none⟩) 0 0) 0 [] rfl (World.ownsRow_lit _ #[] 0 (Nat.le_refl _) (by decide) rfl) ⟨b2, o2, none⟩ 8 c2 (numL 8 f2) rfl (by simp [numL_len]) ((N2.out.alloc _).cells) (numL_oneCell 8 f2) (by unfold maxLen; omega) (by omega) (by simp) ?_; intro v7 w7 hown7 hgr7 hnil7))
  obtain ⟨g7, c7, rfl⟩ : ∃ g7 c7, v7 = .slice (some ⟨g7, 0, none⟩) 8 c7 := by
    rcases hown7.2 with ⟨_, h0⟩ | ⟨g7, c7, _, e, _⟩
    · omega
    · exact ⟨g7, c7, e⟩
  have o7 : Own w7 w6.heap.size (some ⟨g7, 0, none⟩) 8 c7 f2 := hown7
  have hW : w6.grownBy w7 none := grown_row (World.grownBy_alloc w6 (.cells #[] 3) none) hgr7 (fun j e => by
    have e2 : some w6.heap.size = some j := e
    injection e2 with e2
    omega)
  have o6 := O6.out.on hW
  have e1 := E1.out.grown hW (by intro e; cases e)
  have e2 := E2.out.grown hW (by intro e; cases e)
  have e3 := grown_same E3.out hW
  have e4 := E4.out.grown hW (by intro e; cases e)
  have n1 := N1.out.grown hW (by intro _ _ _ e; cases e)
  have n2 := N2.out.grown hW (by intro _ _ _ e; cases e)
  have l7 := o7.lt
  clear E1 E2 E3 E4 N1 N2 O6 x0 x1 x2 hown7 hgr7 hnil7 hW hi hz0 hz1 hz2
  have x0 := e1.look 0; have x1 := e1.look 1; have x2 := e1.look 2
  have y0 := e4.look 0; have y1 := e4.look 1; have y2 := e4.look 2; have y3 := e4.look 3; have y4 := e4.look 4
  simp at x0 x1 x2 y0 y1 y2 y3 y4
  have xa := n1.cell ha; have xb := n1.cell hb; have xd := n1.cell hd
  have xp := n2.cell (placeN_lt f1 ra k)
  have hpl := placeN_lt f1 ra k
  have hpI : ((placeN f1 ra k : Nat) : Int) < 8 := by omega
  have hpI0 : (0 : Int) ≤ ((placeN f1 ra k : Nat) : Int) := by omega
  have hp : (f1 ra + k) % 8 = ((placeN f1 ra k : Nat) : Int) := by
    unfold placeN
    omega
  have HP := shade hp
  have ra6 := o6.nums.cell hd; have rf6 := World.ownsRow.frozenAt o6 rd
  have ra7 := o7.nums.cell (placeN_lt f1 ra k); have rf7 := World.ownsRow.frozenAt o7 (placeN f1 ra k)
  rw [Nat.zero_add] at ra6 ra7
  have E2 := shade e2; have E3 := shade e3; have O6 := shade o6; have O7 := shade o7
  have r0 := e2.look 0; have r1 := e2.look 1; have r2 := e2.look 2; have t0 := e2.free 0; have t1 := e2.free 1; have t2 := e2.free 2
  simp at r0 r1 r2
  clear e1 e2 e3 e4 n1 n2 o6 o7 hp
  have hneS : g6 ≠ w.heap.size + 1 := by omega
  have hneT : g7 ≠ w.heap.size + 1 := by omega
  have hne67 : g6 ≠ g7 := by omega
  go_upto_region 5 with (fail)
  go_quiet (fail)
  go_upto_region 6 with (fail)
  try simp only [HP.out]
  obtain ⟨lt, hlt⟩ : ∃ lt : Int, (if f1 ra < f1 rb then 1 else 0) = lt := ⟨_, rfl⟩
  have HLT := shade hlt
  clear hlt
  go_upto_region 13 with (fail)
  go_region_held3 (fun w' => w'.cell? ⟨w.heap.size + 2, 0, none⟩ = some (.string ⟨#[108, 116]⟩) ∧ w'.cell? ⟨w.heap.size + 2, 1, none⟩ = some (.int .i64 rd) ∧ w'.cell? ⟨w.heap.size + 2, 2, none⟩ = some (.int .i64 ra) ∧ w'.cell? ⟨w.heap.size + 2, 3, none⟩ = some (.int .i64 rb) ∧ w'.cell? ⟨w.heap.size, 1, none⟩ = some (.slice (some ⟨b1, o1, none⟩) 4 c1) ∧ w'.cell? ⟨b1, o1 + ra, none⟩ = some (.int .i64 (f1 ra)) ∧ w'.cell? ⟨b1, o1 + rb, none⟩ = some (.int .i64 (f1 rb))) (first | exact ⟨cell_drew y0, cell_drew y1, cell_drew y2, cell_drew y3, cell_drew x1, cell_drew xa, cell_drew xb⟩ | exact ⟨(World.cell?_setCell_far _ _ _ _ (by show g6 ≠ w.heap.size + 2; omega)).trans (cell_drew y0), (World.cell?_setCell_far _ _ _ _ (by show g6 ≠ w.heap.size + 2; omega)).trans (cell_drew y1), (World.cell?_setCell_far _ _ _ _ (by show g6 ≠ w.heap.size + 2; omega)).trans (cell_drew y2), (World.cell?_setCell_far _ _ _ _ (by show g6 ≠ w.heap.size + 2; omega)).trans (cell_drew y3), (World.cell?_setCell_far _ _ _ _ (by show g6 ≠ w.heap.size; omega)).trans (cell_drew x1), (World.cell?_setCell_far _ _ _ _ (by show g6 ≠ b1; omega)).trans (cell_drew xa), (World.cell?_setCell_far _ _ _ _ (by show g6 ≠ b1; omega)).trans (cell_drew xb)⟩)
    ((go_at_call 62; refine (compute_4 _ _ _ a0 a1 b0 b1').mono ?_; rw [HLT.out]; rintro e w' ⟨rfl, rfl⟩))
  rename_i hHeld
  clear hHeld
  go_upto_region 23 with (fail)
  clear r0 r1 r2 t0 t1 t2
  have hd7 : w7.grownBy (w7.drewN (nq + 1)) none := grown_drewN (grown_refl _ _) (nq + 1)
  have h6 := (World.ownsRow.stored (O6.out.on hd7) rd (.int .i64 lt)).1
  rw [numL_set 4 f1 (upd f1 rd lt) rd lt (by simp [upd]) (fun j _ hne => by simp [upd, hne])] at h6
  have h7 := (O7.out.on hd7).far (r := g6) (by omega) rd (.int .i64 lt)
  have h2 := (E2.out.grown hd7 (by intro e; cases e)).far (r := g6) (by omega) rd (.int .i64 lt)
  have h3 := grown_put (grown_same E3.out hd7) (r := g6) (by omega) rd (.int .i64 lt)
  generalize (w7.drewN (nq + 1)).setCell ⟨g6, rd, none⟩ (.int .i64 lt) = w8 at *
  have r0 := h2.look 0; have r1 := h2.look 1; have r2 := h2.look 2; have t0 := h2.free 0; have t1 := h2.free 1; have t2 := h2.free 2
  simp at r0 r1 r2
  have hH := ((h2.put 0 (.int .i64 ((m : Int) + 1))).put 1 (.slice (some ⟨g6, 0, none⟩) 4 c6)).put 2 (.slice (some ⟨g7, 0, none⟩) 8 c7)
  simp at hH
  have HH := shade hH
  have HG := shade (grown_put (r := w.heap.size + 1) (grown_put (r := w.heap.size + 1) (grown_put (r := w.heap.size + 1) h3 (by omega) 0 (.int .i64 ((m : Int) + 1))) (by omega) 1 (.slice (some ⟨g6, 0, none⟩) 4 c6)) (by omega) 2 (.slice (some ⟨g7, 0, none⟩) 8 c7))
  have H6 := shade ((((Own.lower (B' := w.heap.size) h6 (by omega)).far hneS 0 (.int .i64 ((m : Int) + 1))).far hneS 1 (.slice (some ⟨g6, 0, none⟩) 4 c6)).far hneS 2 (.slice (some ⟨g7, 0, none⟩) 8 c7))
  have H7 := shade ((((Own.lower (B' := w.heap.size) h7 (by omega)).far hneT 0 (.int .i64 ((m : Int) + 1))).far hneT 1 (.slice (some ⟨g6, 0, none⟩) 4 c6)).far hneT 2 (.slice (some ⟨g7, 0, none⟩) 8 c7))
  clear h2 h3 h6 h7 hH
  go_wp2_with fail
  refine bodyPost_ret (results_cell_row rfl _ _ _ _ _ (0, 0) _ rfl HH.out Tryd.underlying26 rfl (by kernel_rfl)) rfl ?_
  refine ⟨g6, c6, g7, c7, ?_, hne67, ?_, ?_, HG.out⟩
  · simp [stepAt]
  · rw [show stepRegs 4 rd ra rb k f1 f2 = (upd f1 rd lt) from by rw [← HLT.out]; simp [stepRegs, stepVal]]
    exact H6.out
  · rw [show stepMem 4 rd ra k f1 f2 = f2 from by simp [stepMem]]
    exact H7.out


set_option maxRecDepth 100000 in
set_option maxHeartbeats 8000000 in
theorem specStep_5 (b off len cap m rd ra rb : Nat) (k : Int) (F : Nat → Ins) (b1 o1 c1 b2 o2 c2 : Nat) (f1 f2 : Nat → Int) (w : World) (hC : Code w (some ⟨b, off, none⟩) len F) (hm : m < len) (hlen : len ≤ 40) (hF : F m = ⟨⟨#[108, 100]⟩, rd, ra, rb, k⟩)
    (hd : rd < 4) (ha : ra < 4) (hb : rb < 4) (k0 : 0 ≤ k) (k1 : k ≤ 255) (ok1 : ∀ j, j < 4 → 0 ≤ f1 j ∧ f1 j ≤ 255) (h1 : Nums w (some ⟨b1, o1, none⟩) 4 f1) (h2 : Nums w (some ⟨b2, o2, none⟩) 8 f2) :
    Calls Tryd.prog 53 #[.slice (some ⟨b, off, none⟩) len cap, MV m (some ⟨b1, o1, none⟩) 4 c1 (some ⟨b2, o2, none⟩) 8 c2] w (MachOk w (stepAt 5 m ra k f1) 4 8 (stepRegs 5 rd ra rb k f1 f2) (stepMem 5 rd ra k f1 f2)) := by
  have hk0 := k0; have hk1 := k1
  have iA : (ra : Int) < 4 := by omega
  have iB : (rb : Int) < 4 := by omega
  have iD : (rd : Int) < 4 := by omega
  have iA0 : (0 : Int) ≤ (ra : Int) := by omega
  have iB0 : (0 : Int) ≤ (rb : Int) := by omega
  have iD0 : (0 : Int) ≤ (rd : Int) := by omega
  have hB1 : b1 < w.heap.size := World.block_lt_of_cell? w _ (h1.cell (j := 0) (by omega))
  have hB2 : b2 < w.heap.size := World.block_lt_of_cell? w _ (h2.cell (j := 0) (by omega))
  obtain ⟨W0, hW0⟩ : ∃ W0, (w.alloc (.cells #[.int .i64 m, .slice (some ⟨b1, o1, none⟩) 4 c1, .slice (some ⟨b2, o2, none⟩) 8 c2] 26)).alloc (.cells #[.int .i64 0, .slice none 0 0, .slice none 0 0] 26) = W0 := ⟨_, rfl⟩
  have e1 : Holds5 W0 w.heap.size 26 #[.int .i64 m, .slice (some ⟨b1, o1, none⟩) 4 c1, .slice (some ⟨b2, o2, none⟩) 8 c2] := by
    rw [← hW0]
    exact (Holds5.fresh w 26 #[.int .i64 m, .slice (some ⟨b1, o1, none⟩) 4 c1, .slice (some ⟨b2, o2, none⟩) 8 c2]).alloc _
  have e2 : Holds5 W0 (w.heap.size + 1) 26 #[.int .i64 0, .slice none 0 0, .slice none 0 0] := by
    rw [← hW0]
    have := Holds5.fresh (w.alloc (.cells #[.int .i64 m, .slice (some ⟨b1, o1, none⟩) 4 c1, .slice (some ⟨b2, o2, none⟩) 8 c2] 26)) 26 #[.int .i64 0, .slice none 0 0, .slice none 0 0]
    rwa [World.size_alloc] at this
  have e3 : w.grownBy W0 none := by
    rw [← hW0]
    exact grown_same (World.grownBy_alloc _ _ _) (World.grownBy_alloc _ _ _)
  have hz : W0.heap.size = w.heap.size + 2 := by
    rw [← hW0, World.size_alloc, World.size_alloc]
  obtain ⟨q0, q1, q2, q3, q4⟩ := (hC.on e3).five hm
  rw [hF] at q0 q1 q2 q3 q4
  simp only [] at q0 q1 q2 q3 q4
  obtain ⟨a0, a1⟩ := ok1 ra ha
  obtain ⟨b0, b1'⟩ := ok1 rb hb
  have x0 := e1.look 0
  simp at x0
  have HW0 := shade hW0
  have N1 := shade (h1.grown e3 (by intro _ _ _ e; cases e)); have N2 := shade (h2.grown e3 (by intro _ _ _ e; cases e))
  have E1 := shade e1; have E2 := shade e2; have E3 := shade e3; have HZ := shade hz
  clear e1 e2 e3 hW0 hC hF ok1 h1 h2 hz
  obtain ⟨i0, hi, hz0, hz1, hz2⟩ := info_parts info3
  go_enter Tryd.func53, Tryd.ntmps53
  go_upto_region 1 with (fail)
  rw [HW0.out]
  clear HW0
  go_upto_region 2 with (fail)
  have e1 := E1.out.alloc (.cells #[.string ⟨#[108, 100]⟩, .int .i64 rd, .int .i64 ra, .int .i64 rb, .int .i64 k] 37)
  have e2 := E2.out.alloc (.cells #[.string ⟨#[108, 100]⟩, .int .i64 rd, .int .i64 ra, .int .i64 rb, .int .i64 k] 37)
  have e3 := grown_same E3.out (World.grownBy_alloc W0 (.cells #[.string ⟨#[108, 100]⟩, .int .i64 rd, .int .i64 ra, .int .i64 rb, .int .i64 k] 37) none)
  have e4 := Holds5.fresh W0 37 #[.string ⟨#[108, 100]⟩, .int .i64 rd, .int .i64 ra, .int .i64 rb, .int .i64 k]
  have n1 := N1.out.alloc (.cells #[.string ⟨#[108, 100]⟩, .int .i64 rd, .int .i64 ra, .int .i64 rb, .int .i64 k] 37)
  have n2 := N2.out.alloc (.cells #[.string ⟨#[108, 100]⟩, .int .i64 rd, .int .i64 ra, .int .i64 rb, .int .i64 k] 37)
  rw [HZ.out] at e4
  try simp only [HZ.out]
  have hz3 : (W0.alloc (.cells #[.string ⟨#[108, 100]⟩, .int .i64 rd, .int .i64 ra, .int .i64 rb, .int .i64 k] 37)).heap.size = w.heap.size + 3 := by
    rw [World.size_alloc, HZ.out]
  generalize W0.alloc (.cells #[.string ⟨#[108, 100]⟩, .int .i64 rd, .int .i64 ra, .int .i64 rb, .int .i64 k] 37) = W1 at *
  clear E1 E2 E3 N1 N2 q0 q1 q2 q3 q4 x0 HZ
  have x0 := e1.look 0; have x1 := e1.look 1; have x2 := e1.look 2
  simp at x0 x1 x2
  have E1 := shade e1; have E2 := shade e2; have E3 := shade e3; have E4 := shade e4; have N1 := shade n1; have N2 := shade n2; have HZ := shade hz3
  clear e1 e2 e3 e4 n1 n2 hz3
  have hbs : w.heap.size ≤ W1.heap.size := E3.out.size
  have hzl : w.heap.size < W1.heap.size := by have := HZ.out; omega
  have hzn : w.heap.size ≠ W1.heap.size := by omega
  go_upto_region 3 with (first
    | (at_builtin; refine wpList_append_own _ rfl (.tmp 15) (.tmp 17) 24 rfl W1.heap.size 3 i0 (.int .i64 0) 1 8 Tryd.underlying24 hi hz0 hz1 hz2 rfl (by decide) (.slice (some ⟨W1.heap.size, 0, none⟩) 0 0) 0 [] rfl (World.ownsRow_lit _ #[] 0 (Nat.le_refl _) (by decide) rfl) ⟨b1, o1, none⟩ 4 c1 (numL 4 f1) rfl (by simp [numL_len]) ((N1.out.alloc _).cells) (numL_oneCell 4 f1) (by unfold maxLen; omega) (by omega) (by simp) ?_; intro v6 w6 hown6 hgr6 hnil6))
  obtain ⟨g6, c6, rfl⟩ : ∃ g6 c6, v6 = .slice (some ⟨g6, 0, none⟩) 4 c6 := by
    rcases hown6.2 with ⟨_, h0⟩ | ⟨g6, c6, _, e, _⟩
    · omega
    · exact ⟨g6, c6, e⟩
  have o6 : Own w6 W1.heap.size (some ⟨g6, 0, none⟩) 4 c6 f1 := hown6
  have hW : W1.grownBy w6 none := grown_row (World.grownBy_alloc W1 (.cells #[] 3) none) hgr6 (fun j e => by
    have e2 : some W1.heap.size = some j := e
    injection e2 with e2
    omega)
  have e1 := E1.out.grown hW (by intro e; cases e)
  have e2 := E2.out.grown hW (by intro e; cases e)
  have e3 := grown_same E3.out hW
  have e4 := E4.out.grown hW (by intro e; cases e)
  have n1 := N1.out.grown hW (by intro _ _ _ e; cases e)
  have n2 := N2.out.grown hW (by intro _ _ _ e; cases e)
  have l6 := o6.lt
  have hzm := HZ.out
  clear E1 E2 E3 E4 N1 N2 x0 x1 x2 hown6 hgr6 hnil6 hW hbs hzl hzn HZ
  have x0 := e1.look 0; have x1 := e1.look 1; have x2 := e1.look 2
  simp at x0 x1 x2
  have E1 := shade e1; have E2 := shade e2; have E3 := shade e3; have E4 := shade e4; have N1 := shade n1; have N2 := shade n2; have O6 := shade o6
  clear e1 e2 e3 e4 n1 n2 o6
  have hzl : w.heap.size < w6.heap.size := by omega
  go_upto_region 4 with (first
    | (at_builtin; refine wpList_append_own _ rfl (.tmp 19) (.tmp 21) 24 rfl w6.heap.size 3 i0 (.int .i64 0) 1 8 Tryd.underlying24 hi hz0 hz1 hz2 rfl (by decide) (.slice (some ⟨w6.heap.size, 0, none⟩) 0 0) 0 [] rfl (World.ownsRow_lit _ #[] 0 (Nat.le_refl _) (by decide) rfl) ⟨b2, o2, none⟩ 8 c2 (numL 8 f2) rfl (by simp [numL_len]) ((N2.out.alloc _).cells) (numL_oneCell 8 f2) (by unfold maxLen; omega) (by omega) (by simp) ?_; intro v7 w7 hown7 hgr7 hnil7))
  obtain ⟨g7, c7, rfl⟩ : ∃ g7 c7, v7 = .slice (some ⟨g7, 0, none⟩) 8 c7 := by
    rcases hown7.2 with ⟨_, h0⟩ | ⟨g7, c7, _, e, _⟩
    · omega
    · exact ⟨g7, c7, e⟩
  have o7 : Own w7 w6.heap.size (some ⟨g7, 0, none⟩) 8 c7 f2 := hown7
  have hW : w6.grownBy w7 none := grown_row (World.grownBy_alloc w6 (.cells #[] 3) none) hgr7 (fun j e => by
    have e2 : some w6.heap.size = some j := e
    injection e2 with e2
    omega)
  have o6 := O6.out.on hW
  have e1 := E1.out.grown hW (by intro e; cases e)
  have e2 := E2.out.grown hW (by intro e; cases e)
  have e3 := grown_same E3.out hW
  have e4 := E4.out.grown hW (by intro e; cases e)
  have n1 := N1.out.grown hW (by intro _ _ _ e; cases e)
  have n2 := N2.out.grown hW (by intro _ _ _ e; cases e)
  have l7 := o7.lt
  clear E1 E2 E3 E4 N1 N2 O6 x0 x1 x2 hown7 hgr7 hnil7 hW hi hz0 hz1 hz2
  have x0 := e1.look 0; have x1 := e1.look 1; have x2 := e1.look 2
  have y0 := e4.look 0; have y1 := e4.look 1; have y2 := e4.look 2; have y3 := e4.look 3; have y4 := e4.look 4
  simp at x0 x1 x2 y0 y1 y2 y3 y4
  have xa := n1.cell ha; have xb := n1.cell hb; have xd := n1.cell hd
  have xp := n2.cell (placeN_lt f1 ra k)
  have hpl := placeN_lt f1 ra k
  have hpI : ((placeN f1 ra k : Nat) : Int) < 8 := by omega
  have hpI0 : (0 : Int) ≤ ((placeN f1 ra k : Nat) : Int) := by omega
  have hp : (f1 ra + k) % 8 = ((placeN f1 ra k : Nat) : Int) := by
    unfold placeN
    omega
  have HP := shade hp
  have ra6 := o6.nums.cell hd; have rf6 := World.ownsRow.frozenAt o6 rd
  have ra7 := o7.nums.cell (placeN_lt f1 ra k); have rf7 := World.ownsRow.frozenAt o7 (placeN f1 ra k)
  rw [Nat.zero_add] at ra6 ra7
  have E2 := shade e2; have E3 := shade e3; have O6 := shade o6; have O7 := shade o7
  have r0 := e2.look 0; have r1 := e2.look 1; have r2 := e2.look 2; have t0 := e2.free 0; have t1 := e2.free 1; have t2 := e2.free 2
  simp at r0 r1 r2
  clear e1 e2 e3 e4 n1 n2 o6 o7 hp
  have hneS : g6 ≠ w.heap.size + 1 := by omega
  have hneT : g7 ≠ w.heap.size + 1 := by omega
  have hne67 : g6 ≠ g7 := by omega
  go_upto_region 5 with (fail)
  go_quiet (fail)
  go_upto_region 6 with (fail)
  try simp only [HP.out]
  go_upto_region 15 with (fail)
  go_region_held3 (fun w' => w'.cell? ⟨w.heap.size + 2, 1, none⟩ = some (.int .i64 rd) ∧ w'.cell? ⟨w.heap.size, 2, none⟩ = some (.slice (some ⟨b2, o2, none⟩) 8 c2) ∧ w'.cell? ⟨b2, o2 + placeN f1 ra k, none⟩ = some (.int .i64 (f2 (placeN f1 ra k)))) (first | exact ⟨cell_drew y1, cell_drew x2, cell_drew xp⟩ | exact ⟨(World.cell?_setCell_far _ _ _ _ (by show g6 ≠ w.heap.size + 2; omega)).trans (cell_drew y1), (World.cell?_setCell_far _ _ _ _ (by show g6 ≠ w.heap.size; omega)).trans (cell_drew x2), (World.cell?_setCell_far _ _ _ _ (by show g6 ≠ b2; omega)).trans (cell_drew xp)⟩)
    (fail)
  rename_i hHeld
  clear hHeld
  go_upto_region 23 with (fail)
  clear r0 r1 r2 t0 t1 t2
  have hd7 : w7.grownBy (w7.drewN (nq + 1)) none := grown_drewN (grown_refl _ _) (nq + 1)
  have h6 := (World.ownsRow.stored (O6.out.on hd7) rd (.int .i64 (f2 (placeN f1 ra k)))).1
  rw [numL_set 4 f1 (upd f1 rd (f2 (placeN f1 ra k))) rd (f2 (placeN f1 ra k)) (by simp [upd]) (fun j _ hne => by simp [upd, hne])] at h6
  have h7 := (O7.out.on hd7).far (r := g6) (by omega) rd (.int .i64 (f2 (placeN f1 ra k)))
  have h2 := (E2.out.grown hd7 (by intro e; cases e)).far (r := g6) (by omega) rd (.int .i64 (f2 (placeN f1 ra k)))
  have h3 := grown_put (grown_same E3.out hd7) (r := g6) (by omega) rd (.int .i64 (f2 (placeN f1 ra k)))
  generalize (w7.drewN (nq + 1)).setCell ⟨g6, rd, none⟩ (.int .i64 (f2 (placeN f1 ra k))) = w8 at *
  have r0 := h2.look 0; have r1 := h2.look 1; have r2 := h2.look 2; have t0 := h2.free 0; have t1 := h2.free 1; have t2 := h2.free 2
  simp at r0 r1 r2
  have hH := ((h2.put 0 (.int .i64 ((m : Int) + 1))).put 1 (.slice (some ⟨g6, 0, none⟩) 4 c6)).put 2 (.slice (some ⟨g7, 0, none⟩) 8 c7)
  simp at hH
  have HH := shade hH
  have HG := shade (grown_put (r := w.heap.size + 1) (grown_put (r := w.heap.size + 1) (grown_put (r := w.heap.size + 1) h3 (by omega) 0 (.int .i64 ((m : Int) + 1))) (by omega) 1 (.slice (some ⟨g6, 0, none⟩) 4 c6)) (by omega) 2 (.slice (some ⟨g7, 0, none⟩) 8 c7))
  have H6 := shade ((((Own.lower (B' := w.heap.size) h6 (by omega)).far hneS 0 (.int .i64 ((m : Int) + 1))).far hneS 1 (.slice (some ⟨g6, 0, none⟩) 4 c6)).far hneS 2 (.slice (some ⟨g7, 0, none⟩) 8 c7))
  have H7 := shade ((((Own.lower (B' := w.heap.size) h7 (by omega)).far hneT 0 (.int .i64 ((m : Int) + 1))).far hneT 1 (.slice (some ⟨g6, 0, none⟩) 4 c6)).far hneT 2 (.slice (some ⟨g7, 0, none⟩) 8 c7))
  clear h2 h3 h6 h7 hH
  go_wp2_with fail
  refine bodyPost_ret (results_cell_row rfl _ _ _ _ _ (0, 0) _ rfl HH.out Tryd.underlying26 rfl (by kernel_rfl)) rfl ?_
  refine ⟨g6, c6, g7, c7, ?_, hne67, ?_, ?_, HG.out⟩
  · simp [stepAt]
  · rw [show stepRegs 5 rd ra rb k f1 f2 = (upd f1 rd (f2 (placeN f1 ra k))) from by simp [stepRegs, stepVal]]
    exact H6.out
  · rw [show stepMem 5 rd ra k f1 f2 = f2 from by simp [stepMem]]
    exact H7.out


set_option maxRecDepth 100000 in
set_option maxHeartbeats 8000000 in
theorem specStep_6 (b off len cap m rd ra rb : Nat) (k : Int) (F : Nat → Ins) (b1 o1 c1 b2 o2 c2 : Nat) (f1 f2 : Nat → Int) (w : World) (hC : Code w (some ⟨b, off, none⟩) len F) (hm : m < len) (hlen : len ≤ 40) (hF : F m = ⟨⟨#[115, 116]⟩, rd, ra, rb, k⟩)
    (hd : rd < 4) (ha : ra < 4) (hb : rb < 4) (k0 : 0 ≤ k) (k1 : k ≤ 255) (ok1 : ∀ j, j < 4 → 0 ≤ f1 j ∧ f1 j ≤ 255) (h1 : Nums w (some ⟨b1, o1, none⟩) 4 f1) (h2 : Nums w (some ⟨b2, o2, none⟩) 8 f2) :
    Calls Tryd.prog 53 #[.slice (some ⟨b, off, none⟩) len cap, MV m (some ⟨b1, o1, none⟩) 4 c1 (some ⟨b2, o2, none⟩) 8 c2] w (MachOk w (stepAt 6 m ra k f1) 4 8 (stepRegs 6 rd ra rb k f1 f2) (stepMem 6 rd ra k f1 f2)) := by
  have hk0 := k0; have hk1 := k1
  have iA : (ra : Int) < 4 := by omega
  have iB : (rb : Int) < 4 := by omega
  have iD : (rd : Int) < 4 := by omega
  have iA0 : (0 : Int) ≤ (ra : Int) := by omega
  have iB0 : (0 : Int) ≤ (rb : Int) := by omega
  have iD0 : (0 : Int) ≤ (rd : Int) := by omega
  have hB1 : b1 < w.heap.size := World.block_lt_of_cell? w _ (h1.cell (j := 0) (by omega))
  have hB2 : b2 < w.heap.size := World.block_lt_of_cell? w _ (h2.cell (j := 0) (by omega))
  obtain ⟨W0, hW0⟩ : ∃ W0, (w.alloc (.cells #[.int .i64 m, .slice (some ⟨b1, o1, none⟩) 4 c1, .slice (some ⟨b2, o2, none⟩) 8 c2] 26)).alloc (.cells #[.int .i64 0, .slice none 0 0, .slice none 0 0] 26) = W0 := ⟨_, rfl⟩
  have e1 : Holds5 W0 w.heap.size 26 #[.int .i64 m, .slice (some ⟨b1, o1, none⟩) 4 c1, .slice (some ⟨b2, o2, none⟩) 8 c2] := by
    rw [← hW0]
    exact (Holds5.fresh w 26 #[.int .i64 m, .slice (some ⟨b1, o1, none⟩) 4 c1, .slice (some ⟨b2, o2, none⟩) 8 c2]).alloc _
  have e2 : Holds5 W0 (w.heap.size + 1) 26 #[.int .i64 0, .slice none 0 0, .slice none 0 0] := by
    rw [← hW0]
    have := Holds5.fresh (w.alloc (.cells #[.int .i64 m, .slice (some ⟨b1, o1, none⟩) 4 c1, .slice (some ⟨b2, o2, none⟩) 8 c2] 26)) 26 #[.int .i64 0, .slice none 0 0, .slice none 0 0]
    rwa [World.size_alloc] at this
  have e3 : w.grownBy W0 none := by
    rw [← hW0]
    exact grown_same (World.grownBy_alloc _ _ _) (World.grownBy_alloc _ _ _)
  have hz : W0.heap.size = w.heap.size + 2 := by
    rw [← hW0, World.size_alloc, World.size_alloc]
  obtain ⟨q0, q1, q2, q3, q4⟩ := (hC.on e3).five hm
  rw [hF] at q0 q1 q2 q3 q4
  simp only [] at q0 q1 q2 q3 q4
  obtain ⟨a0, a1⟩ := ok1 ra ha
  obtain ⟨b0, b1'⟩ := ok1 rb hb
  have x0 := e1.look 0
  simp at x0
  have HW0 := shade hW0
  have N1 := shade (h1.grown e3 (by intro _ _ _ e; cases e)); have N2 := shade (h2.grown e3 (by intro _ _ _ e; cases e))
  have E1 := shade e1; have E2 := shade e2; have E3 := shade e3; have HZ := shade hz
  clear e1 e2 e3 hW0 hC hF ok1 h1 h2 hz
  obtain ⟨i0, hi, hz0, hz1, hz2⟩ := info_parts info3
  go_enter Tryd.func53, Tryd.ntmps53
  go_upto_region 1 with (fail)
  rw [HW0.out]
  clear HW0
  go_upto_region 2 with (fail)
  have e1 := E1.out.alloc (.cells #[.string ⟨#[115, 116]⟩, .int .i64 rd, .int .i64 ra, .int .i64 rb, .int .i64 k] 37)
  have e2 := E2.out.alloc (.cells #[.string ⟨#[115, 116]⟩, .int .i64 rd, .int .i64 ra, .int .i64 rb, .int .i64 k] 37)
  have e3 := grown_same E3.out (World.grownBy_alloc W0 (.cells #[.string ⟨#[115, 116]⟩, .int .i64 rd, .int .i64 ra, .int .i64 rb, .int .i64 k] 37) none)
  have e4 := Holds5.fresh W0 37 #[.string ⟨#[115, 116]⟩, .int .i64 rd, .int .i64 ra, .int .i64 rb, .int .i64 k]
  have n1 := N1.out.alloc (.cells #[.string ⟨#[115, 116]⟩, .int .i64 rd, .int .i64 ra, .int .i64 rb, .int .i64 k] 37)
  have n2 := N2.out.alloc (.cells #[.string ⟨#[115, 116]⟩, .int .i64 rd, .int .i64 ra, .int .i64 rb, .int .i64 k] 37)
  rw [HZ.out] at e4
  try simp only [HZ.out]
  have hz3 : (W0.alloc (.cells #[.string ⟨#[115, 116]⟩, .int .i64 rd, .int .i64 ra, .int .i64 rb, .int .i64 k] 37)).heap.size = w.heap.size + 3 := by
    rw [World.size_alloc, HZ.out]
  generalize W0.alloc (.cells #[.string ⟨#[115, 116]⟩, .int .i64 rd, .int .i64 ra, .int .i64 rb, .int .i64 k] 37) = W1 at *
  clear E1 E2 E3 N1 N2 q0 q1 q2 q3 q4 x0 HZ
  have x0 := e1.look 0; have x1 := e1.look 1; have x2 := e1.look 2
  simp at x0 x1 x2
  have E1 := shade e1; have E2 := shade e2; have E3 := shade e3; have E4 := shade e4; have N1 := shade n1; have N2 := shade n2; have HZ := shade hz3
  clear e1 e2 e3 e4 n1 n2 hz3
  have hbs : w.heap.size ≤ W1.heap.size := E3.out.size
  have hzl : w.heap.size < W1.heap.size := by have := HZ.out; omega
  have hzn : w.heap.size ≠ W1.heap.size := by omega
  go_upto_region 3 with (first
    | (at_builtin; refine wpList_append_own _ rfl (.tmp 15) (.tmp 17) 24 rfl W1.heap.size 3 i0 (.int .i64 0) 1 8 Tryd.underlying24 hi hz0 hz1 hz2 rfl (by decide) (.slice (some ⟨W1.heap.size, 0, none⟩) 0 0) 0 [] rfl (World.ownsRow_lit _ #[] 0 (Nat.le_refl _) (by decide) rfl) ⟨b1, o1, none⟩ 4 c1 (numL 4 f1) rfl (by simp [numL_len]) ((N1.out.alloc _).cells) (numL_oneCell 4 f1) (by unfold maxLen; omega) (by omega) (by simp) ?_; intro v6 w6 hown6 hgr6 hnil6))
  obtain ⟨g6, c6, rfl⟩ : ∃ g6 c6, v6 = .slice (some ⟨g6, 0, none⟩) 4 c6 := by
    rcases hown6.2 with ⟨_, h0⟩ | ⟨g6, c6, _, e, _⟩
    · omega
    · exact ⟨g6, c6, e⟩
  have o6 : Own w6 W1.heap.size (some ⟨g6, 0, none⟩) 4 c6 f1 := hown6
  have hW : W1.grownBy w6 none := grown_row (World.grownBy_alloc W1 (.cells #[] 3) none) hgr6 (fun j e => by
    have e2 : some W1.heap.size = some j := e
    injection e2 with e2
    omega)
  have e1 := E1.out.grown hW (by intro e; cases e)
  have e2 := E2.out.grown hW (by intro e; cases e)
  have e3 := grown_same E3.out hW
  have e4 := E4.out.grown hW (by intro e; cases e)
  have n1 := N1.out.grown hW (by intro _ _ _ e; cases e)
  have n2 := N2.out.grown hW (by intro _ _ _ e; cases e)
  have l6 := o6.lt
  have hzm := HZ.out
  clear E1 E2 E3 E4 N1 N2 x0 x1 x2 hown6 hgr6 hnil6 hW hbs hzl hzn HZ
  have x0 := e1.look 0; have x1 := e1.look 1; have x2 := e1.look 2
  simp at x0 x1 x2
  have E1 := shade e1; have E2 := shade e2; have E3 := shade e3; have E4 := shade e4; have N1 := shade n1; have N2 := shade n2; have O6 := shade o6
  clear e1 e2 e3 e4 n1 n2 o6
  have hzl : w.heap.size < w6.heap.size := by omega
  go_upto_region 4 with (first
    | (at_builtin; refine wpList_append_own _ rfl (.tmp 19) (.tmp 21) 24 rfl w6.heap.size 3 i0 (.int .i64 0) 1 8 Tryd.underlying24 hi hz0 hz1 hz2 rfl (by decide) (.slice (some ⟨w6.heap.size, 0, none⟩) 0 0) 0 [] rfl (World.ownsRow_lit _ #[] 0 (Nat.le_refl _) (by decide) rfl) ⟨b2, o2, none⟩ 8 c2 (numL 8 f2) rfl (by simp [numL_len]) ((N2.out.alloc _).cells) (numL_oneCell 8 f2) (by unfold maxLen; omega) (by omega) (by simp) ?_; intro v7 w7 hown7 hgr7 hnil7))
  obtain ⟨g7, c7, rfl⟩ : ∃ g7 c7, v7 = .slice (some ⟨g7, 0, none⟩) 8 c7 := by
    rcases hown7.2 with ⟨_, h0⟩ | ⟨g7, c7, _, e, _⟩
    · omega
    · exact ⟨g7, c7, e⟩
  have o7 : Own w7 w6.heap.size (some ⟨g7, 0, none⟩) 8 c7 f2 := hown7
  have hW : w6.grownBy w7 none := grown_row (World.grownBy_alloc w6 (.cells #[] 3) none) hgr7 (fun j e => by
    have e2 : some w6.heap.size = some j := e
    injection e2 with e2
    omega)
  have o6 := O6.out.on hW
  have e1 := E1.out.grown hW (by intro e; cases e)
  have e2 := E2.out.grown hW (by intro e; cases e)
  have e3 := grown_same E3.out hW
  have e4 := E4.out.grown hW (by intro e; cases e)
  have n1 := N1.out.grown hW (by intro _ _ _ e; cases e)
  have n2 := N2.out.grown hW (by intro _ _ _ e; cases e)
  have l7 := o7.lt
  clear E1 E2 E3 E4 N1 N2 O6 x0 x1 x2 hown7 hgr7 hnil7 hW hi hz0 hz1 hz2
  have x0 := e1.look 0; have x1 := e1.look 1; have x2 := e1.look 2
  have y0 := e4.look 0; have y1 := e4.look 1; have y2 := e4.look 2; have y3 := e4.look 3; have y4 := e4.look 4
  simp at x0 x1 x2 y0 y1 y2 y3 y4
  have xa := n1.cell ha; have xb := n1.cell hb; have xd := n1.cell hd
  have xp := n2.cell (placeN_lt f1 ra k)
  have hpl := placeN_lt f1 ra k
  have hpI : ((placeN f1 ra k : Nat) : Int) < 8 := by omega
  have hpI0 : (0 : Int) ≤ ((placeN f1 ra k : Nat) : Int) := by omega
  have hp : (f1 ra + k) % 8 = ((placeN f1 ra k : Nat) : Int) := by
    unfold placeN
    omega
  have HP := shade hp
  have ra6 := o6.nums.cell hd; have rf6 := World.ownsRow.frozenAt o6 rd
  have ra7 := o7.nums.cell (placeN_lt f1 ra k); have rf7 := World.ownsRow.frozenAt o7 (placeN f1 ra k)
  rw [Nat.zero_add] at ra6 ra7
  have E2 := shade e2; have E3 := shade e3; have O6 := shade o6; have O7 := shade o7
  have r0 := e2.look 0; have r1 := e2.look 1; have r2 := e2.look 2; have t0 := e2.free 0; have t1 := e2.free 1; have t2 := e2.free 2
  simp at r0 r1 r2
  clear e1 e2 e3 e4 n1 n2 o6 o7 hp
  have hneS : g6 ≠ w.heap.size + 1 := by omega
  have hneT : g7 ≠ w.heap.size + 1 := by omega
  have hne67 : g6 ≠ g7 := by omega
  go_upto_region 5 with (fail)
  go_quiet (fail)
  go_upto_region 6 with (fail)
  try simp only [HP.out]
  go_upto_region 23 with (fail)
  clear r0 r1 r2 t0 t1 t2
  have hd7 : w7.grownBy (w7.drewN nq) none := grown_drewN (grown_refl _ _) nq
  have h7 := (World.ownsRow.stored (O7.out.on hd7) (placeN f1 ra k) (.int .i64 (f1 rd))).1
  rw [numL_set 8 f2 (upd f2 (placeN f1 ra k) (f1 rd)) (placeN f1 ra k) (f1 rd) (by simp [upd]) (fun j _ hne => by simp [upd, hne])] at h7
  have h6 := (O6.out.on hd7).far (r := g7) hne67 (placeN f1 ra k) (.int .i64 (f1 rd))
  have h2 := (E2.out.grown hd7 (by intro e; cases e)).far (r := g7) (by omega) (placeN f1 ra k) (.int .i64 (f1 rd))
  have h3 := grown_put (grown_same E3.out hd7) (r := g7) (by omega) (placeN f1 ra k) (.int .i64 (f1 rd))
  generalize (w7.drewN nq).setCell ⟨g7, placeN f1 ra k, none⟩ (.int .i64 (f1 rd)) = w8 at *
  have r0 := h2.look 0; have r1 := h2.look 1; have r2 := h2.look 2; have t0 := h2.free 0; have t1 := h2.free 1; have t2 := h2.free 2
  simp at r0 r1 r2
  have hH := ((h2.put 0 (.int .i64 ((m : Int) + 1))).put 1 (.slice (some ⟨g6, 0, none⟩) 4 c6)).put 2 (.slice (some ⟨g7, 0, none⟩) 8 c7)
  simp at hH
  have HH := shade hH
  have HG := shade (grown_put (r := w.heap.size + 1) (grown_put (r := w.heap.size + 1) (grown_put (r := w.heap.size + 1) h3 (by omega) 0 (.int .i64 ((m : Int) + 1))) (by omega) 1 (.slice (some ⟨g6, 0, none⟩) 4 c6)) (by omega) 2 (.slice (some ⟨g7, 0, none⟩) 8 c7))
  have H6 := shade ((((Own.lower (B' := w.heap.size) h6 (by omega)).far hneS 0 (.int .i64 ((m : Int) + 1))).far hneS 1 (.slice (some ⟨g6, 0, none⟩) 4 c6)).far hneS 2 (.slice (some ⟨g7, 0, none⟩) 8 c7))
  have H7 := shade ((((Own.lower (B' := w.heap.size) h7 (by omega)).far hneT 0 (.int .i64 ((m : Int) + 1))).far hneT 1 (.slice (some ⟨g6, 0, none⟩) 4 c6)).far hneT 2 (.slice (some ⟨g7, 0, none⟩) 8 c7))
  clear h2 h3 h6 h7 hH
  go_wp2_with fail
  refine bodyPost_ret (results_cell_row rfl _ _ _ _ _ (0, 0) _ rfl HH.out Tryd.underlying26 rfl (by kernel_rfl)) rfl ?_
  refine ⟨g6, c6, g7, c7, ?_, hne67, ?_, ?_, HG.out⟩
  · simp [stepAt]
  · rw [show stepRegs 6 rd ra rb k f1 f2 = f1 from by simp [stepRegs, stepVal]]
    exact H6.out
  · rw [show stepMem 6 rd ra k f1 f2 = (upd f2 (placeN f1 ra k) (f1 rd)) from by simp [stepMem]]
    exact H7.out


set_option maxRecDepth 100000 in
set_option maxHeartbeats 8000000 in
theorem specStep_7 (b off len cap m rd ra rb : Nat) (k : Int) (F : Nat → Ins) (b1 o1 c1 b2 o2 c2 : Nat) (f1 f2 : Nat → Int) (w : World) (hC : Code w (some ⟨b, off, none⟩) len F) (hm : m < len) (hlen : len ≤ 40) (hF : F m = ⟨⟨#[98, 122]⟩, rd, ra, rb, k⟩)
    (hd : rd < 4) (ha : ra < 4) (hb : rb < 4) (k0 : 0 ≤ k) (k1 : k ≤ 255) (ok1 : ∀ j, j < 4 → 0 ≤ f1 j ∧ f1 j ≤ 255) (h1 : Nums w (some ⟨b1, o1, none⟩) 4 f1) (h2 : Nums w (some ⟨b2, o2, none⟩) 8 f2) :
    Calls Tryd.prog 53 #[.slice (some ⟨b, off, none⟩) len cap, MV m (some ⟨b1, o1, none⟩) 4 c1 (some ⟨b2, o2, none⟩) 8 c2] w (MachOk w (stepAt 7 m ra k f1) 4 8 (stepRegs 7 rd ra rb k f1 f2) (stepMem 7 rd ra k f1 f2)) := by
  have hk0 := k0; have hk1 := k1
  have iA : (ra : Int) < 4 := by omega
  have iB : (rb : Int) < 4 := by omega
  have iD : (rd : Int) < 4 := by omega
  have iA0 : (0 : Int) ≤ (ra : Int) := by omega
  have iB0 : (0 : Int) ≤ (rb : Int) := by omega
  have iD0 : (0 : Int) ≤ (rd : Int) := by omega
  have hB1 : b1 < w.heap.size := World.block_lt_of_cell? w _ (h1.cell (j := 0) (by omega))
  have hB2 : b2 < w.heap.size := World.block_lt_of_cell? w _ (h2.cell (j := 0) (by omega))
  obtain ⟨W0, hW0⟩ : ∃ W0, (w.alloc (.cells #[.int .i64 m, .slice (some ⟨b1, o1, none⟩) 4 c1, .slice (some ⟨b2, o2, none⟩) 8 c2] 26)).alloc (.cells #[.int .i64 0, .slice none 0 0, .slice none 0 0] 26) = W0 := ⟨_, rfl⟩
  have e1 : Holds5 W0 w.heap.size 26 #[.int .i64 m, .slice (some ⟨b1, o1, none⟩) 4 c1, .slice (some ⟨b2, o2, none⟩) 8 c2] := by
    rw [← hW0]
    exact (Holds5.fresh w 26 #[.int .i64 m, .slice (some ⟨b1, o1, none⟩) 4 c1, .slice (some ⟨b2, o2, none⟩) 8 c2]).alloc _
  have e2 : Holds5 W0 (w.heap.size + 1) 26 #[.int .i64 0, .slice none 0 0, .slice none 0 0] := by
    rw [← hW0]
    have := Holds5.fresh (w.alloc (.cells #[.int .i64 m, .slice (some ⟨b1, o1, none⟩) 4 c1, .slice (some ⟨b2, o2, none⟩) 8 c2] 26)) 26 #[.int .i64 0, .slice none 0 0, .slice none 0 0]
    rwa [World.size_alloc] at this
  have e3 : w.grownBy W0 none := by
    rw [← hW0]
    exact grown_same (World.grownBy_alloc _ _ _) (World.grownBy_alloc _ _ _)
  have hz : W0.heap.size = w.heap.size + 2 := by
    rw [← hW0, World.size_alloc, World.size_alloc]
  obtain ⟨q0, q1, q2, q3, q4⟩ := (hC.on e3).five hm
  rw [hF] at q0 q1 q2 q3 q4
  simp only [] at q0 q1 q2 q3 q4
  obtain ⟨a0, a1⟩ := ok1 ra ha
  obtain ⟨b0, b1'⟩ := ok1 rb hb
  have x0 := e1.look 0
  simp at x0
  have HW0 := shade hW0
  have N1 := shade (h1.grown e3 (by intro _ _ _ e; cases e)); have N2 := shade (h2.grown e3 (by intro _ _ _ e; cases e))
  have E1 := shade e1; have E2 := shade e2; have E3 := shade e3; have HZ := shade hz
  clear e1 e2 e3 hW0 hC hF ok1 h1 h2 hz
  obtain ⟨i0, hi, hz0, hz1, hz2⟩ := info_parts info3
  go_enter Tryd.func53, Tryd.ntmps53
  go_upto_region 1 with (fail)
  rw [HW0.out]
  clear HW0
  go_upto_region 2 with (fail)
  have e1 := E1.out.alloc (.cells #[.string ⟨#[98, 122]⟩, .int .i64 rd, .int .i64 ra, .int .i64 rb, .int .i64 k] 37)
  have e2 := E2.out.alloc (.cells #[.string ⟨#[98, 122]⟩, .int .i64 rd, .int .i64 ra, .int .i64 rb, .int .i64 k] 37)
  have e3 := grown_same E3.out (World.grownBy_alloc W0 (.cells #[.string ⟨#[98, 122]⟩, .int .i64 rd, .int .i64 ra, .int .i64 rb, .int .i64 k] 37) none)
  have e4 := Holds5.fresh W0 37 #[.string ⟨#[98, 122]⟩, .int .i64 rd, .int .i64 ra, .int .i64 rb, .int .i64 k]
  have n1 := N1.out.alloc (.cells #[.string ⟨#[98, 122]⟩, .int .i64 rd, .int .i64 ra, .int .i64 rb, .int .i64 k] 37)
  have n2 := N2.out.alloc (.cells #[.string ⟨#[98, 122]⟩, .int .i64 rd, .int .i64 ra, .int .i64 rb, .int .i64 k] 37)
  rw [HZ.out] at e4
  try simp only [HZ.out]
  have hz3 : (W0.alloc (.cells #[.string ⟨#[98, 122]⟩, .int .i64 rd, .int .i64 ra, .int .i64 rb, .int .i64 k] 37)).heap.size = w.heap.size + 3 := by
    rw [World.size_alloc, HZ.out]
  generalize W0.alloc (.cells #[.string ⟨#[98, 122]⟩, .int .i64 rd, .int .i64 ra, .int .i64 rb, .int .i64 k] 37) = W1 at *
  clear E1 E2 E3 N1 N2 q0 q1 q2 q3 q4 x0 HZ
  have x0 := e1.look 0; have x1 := e1.look 1; have x2 := e1.look 2
  simp at x0 x1 x2
  have E1 := shade e1; have E2 := shade e2; have E3 := shade e3; have E4 := shade e4; have N1 := shade n1; have N2 := shade n2; have HZ := shade hz3
  clear e1 e2 e3 e4 n1 n2 hz3
  have hbs : w.heap.size ≤ W1.heap.size := E3.out.size
  have hzl : w.heap.size < W1.heap.size := by have := HZ.out; omega
  have hzn : w.heap.size ≠ W1.heap.size := by omega
  go_upto_region 3 with (first
    | (at_builtin; refine wpList_append_own _ rfl (.tmp 15) (.tmp 17) 24 rfl W1.heap.size 3 i0 (.int .i64 0) 1 8 Tryd.underlying24 hi hz0 hz1 hz2 rfl (by decide) (.slice (some ⟨W1.heap.size, 0, none⟩) 0 0) 0 [] rfl (World.ownsRow_lit _ #[] 0 (Nat.le_refl _) (by decide) rfl) ⟨b1, o1, none⟩ 4 c1 (numL 4 f1) rfl (by simp [numL_len]) ((N1.out.alloc _).cells) (numL_oneCell 4 f1) (by unfold maxLen; omega) (by omega) (by simp) ?_; intro v6 w6 hown6 hgr6 hnil6))
  obtain ⟨g6, c6, rfl⟩ : ∃ g6 c6, v6 = .slice (some ⟨g6, 0, none⟩) 4 c6 := by
    rcases hown6.2 with ⟨_, h0⟩ | ⟨g6, c6, _, e, _⟩
    · omega
    · exact ⟨g6, c6, e⟩
  have o6 : Own w6 W1.heap.size (some ⟨g6, 0, none⟩) 4 c6 f1 := hown6
  have hW : W1.grownBy w6 none := grown_row (World.grownBy_alloc W1 (.cells #[] 3) none) hgr6 (fun j e => by
    have e2 : some W1.heap.size = some j := e
    injection e2 with e2
    omega)
  have e1 := E1.out.grown hW (by intro e; cases e)
  have e2 := E2.out.grown hW (by intro e; cases e)
  have e3 := grown_same E3.out hW
  have e4 := E4.out.grown hW (by intro e; cases e)
  have n1 := N1.out.grown hW (by intro _ _ _ e; cases e)
  have n2 := N2.out.grown hW (by intro _ _ _ e; cases e)
  have l6 := o6.lt
  have hzm := HZ.out
  clear E1 E2 E3 E4 N1 N2 x0 x1 x2 hown6 hgr6 hnil6 hW hbs hzl hzn HZ
  have x0 := e1.look 0; have x1 := e1.look 1; have x2 := e1.look 2
  simp at x0 x1 x2
  have E1 := shade e1; have E2 := shade e2; have E3 := shade e3; have E4 := shade e4; have N1 := shade n1; have N2 := shade n2; have O6 := shade o6
  clear e1 e2 e3 e4 n1 n2 o6
  have hzl : w.heap.size < w6.heap.size := by omega
  go_upto_region 4 with (first
    | (at_builtin; refine wpList_append_own _ rfl (.tmp 19) (.tmp 21) 24 rfl w6.heap.size 3 i0 (.int .i64 0) 1 8 Tryd.underlying24 hi hz0 hz1 hz2 rfl (by decide) (.slice (some ⟨w6.heap.size, 0, none⟩) 0 0) 0 [] rfl (World.ownsRow_lit _ #[] 0 (Nat.le_refl _) (by decide) rfl) ⟨b2, o2, none⟩ 8 c2 (numL 8 f2) rfl (by simp [numL_len]) ((N2.out.alloc _).cells) (numL_oneCell 8 f2) (by unfold maxLen; omega) (by omega) (by simp) ?_; intro v7 w7 hown7 hgr7 hnil7))
  obtain ⟨g7, c7, rfl⟩ : ∃ g7 c7, v7 = .slice (some ⟨g7, 0, none⟩) 8 c7 := by
    rcases hown7.2 with ⟨_, h0⟩ | ⟨g7, c7, _, e, _⟩
    · omega
    · exact ⟨g7, c7, e⟩
  have o7 : Own w7 w6.heap.size (some ⟨g7, 0, none⟩) 8 c7 f2 := hown7
  have hW : w6.grownBy w7 none := grown_row (World.grownBy_alloc w6 (.cells #[] 3) none) hgr7 (fun j e => by
    have e2 : some w6.heap.size = some j := e
    injection e2 with e2
    omega)
  have o6 := O6.out.on hW
  have e1 := E1.out.grown hW (by intro e; cases e)
  have e2 := E2.out.grown hW (by intro e; cases e)
  have e3 := grown_same E3.out hW
  have e4 := E4.out.grown hW (by intro e; cases e)
  have n1 := N1.out.grown hW (by intro _ _ _ e; cases e)
  have n2 := N2.out.grown hW (by intro _ _ _ e; cases e)
  have l7 := o7.lt
  clear E1 E2 E3 E4 N1 N2 O6 x0 x1 x2 hown7 hgr7 hnil7 hW hi hz0 hz1 hz2
  have x0 := e1.look 0; have x1 := e1.look 1; have x2 := e1.look 2
  have y0 := e4.look 0; have y1 := e4.look 1; have y2 := e4.look 2; have y3 := e4.look 3; have y4 := e4.look 4
  simp at x0 x1 x2 y0 y1 y2 y3 y4
  have xa := n1.cell ha; have xb := n1.cell hb; have xd := n1.cell hd
  have xp := n2.cell (placeN_lt f1 ra k)
  have hpl := placeN_lt f1 ra k
  have hpI : ((placeN f1 ra k : Nat) : Int) < 8 := by omega
  have hpI0 : (0 : Int) ≤ ((placeN f1 ra k : Nat) : Int) := by omega
  have hp : (f1 ra + k) % 8 = ((placeN f1 ra k : Nat) : Int) := by
    unfold placeN
    omega
  have HP := shade hp
  have ra6 := o6.nums.cell hd; have rf6 := World.ownsRow.frozenAt o6 rd
  have ra7 := o7.nums.cell (placeN_lt f1 ra k); have rf7 := World.ownsRow.frozenAt o7 (placeN f1 ra k)
  rw [Nat.zero_add] at ra6 ra7
  have E2 := shade e2; have E3 := shade e3; have O6 := shade o6; have O7 := shade o7
  have r0 := e2.look 0; have r1 := e2.look 1; have r2 := e2.look 2; have t0 := e2.free 0; have t1 := e2.free 1; have t2 := e2.free 2
  simp at r0 r1 r2
  clear e1 e2 e3 e4 n1 n2 o6 o7 hp
  have hneS : g6 ≠ w.heap.size + 1 := by omega
  have hneT : g7 ≠ w.heap.size + 1 := by omega
  have hne67 : g6 ≠ g7 := by omega
  go_upto_region 5 with (fail)
  go_quiet (fail)
  go_upto_region 6 with (fail)
  try simp only [HP.out]
  by_cases hz : f1 ra = 0
  · go_upto_region 23 with (fail)
    clear r0 r1 r2 t0 t1 t2
    have hd7 : w7.grownBy (w7.drewN nq) none := grown_drewN (grown_refl _ _) nq
    have h6 := O6.out.on hd7
    have h7 := O7.out.on hd7
    have h2 := E2.out.grown hd7 (by intro e; cases e)
    have h3 := grown_same E3.out hd7
    generalize (w7.drewN nq) = w8 at *
    have r0 := h2.look 0; have r1 := h2.look 1; have r2 := h2.look 2; have t0 := h2.free 0; have t1 := h2.free 1; have t2 := h2.free 2
    simp at r0 r1 r2
    have hH := ((h2.put 0 (.int .i64 k)).put 1 (.slice (some ⟨g6, 0, none⟩) 4 c6)).put 2 (.slice (some ⟨g7, 0, none⟩) 8 c7)
    simp at hH
    have HH := shade hH
    have HG := shade (grown_put (r := w.heap.size + 1) (grown_put (r := w.heap.size + 1) (grown_put (r := w.heap.size + 1) h3 (by omega) 0 (.int .i64 k)) (by omega) 1 (.slice (some ⟨g6, 0, none⟩) 4 c6)) (by omega) 2 (.slice (some ⟨g7, 0, none⟩) 8 c7))
    have H6 := shade ((((Own.lower (B' := w.heap.size) h6 (by omega)).far hneS 0 (.int .i64 k)).far hneS 1 (.slice (some ⟨g6, 0, none⟩) 4 c6)).far hneS 2 (.slice (some ⟨g7, 0, none⟩) 8 c7))
    have H7 := shade ((((Own.lower (B' := w.heap.size) h7 (by omega)).far hneT 0 (.int .i64 k)).far hneT 1 (.slice (some ⟨g6, 0, none⟩) 4 c6)).far hneT 2 (.slice (some ⟨g7, 0, none⟩) 8 c7))
    clear h2 h3 h6 h7 hH
    go_wp2_with fail
    refine bodyPost_ret (results_cell_row rfl _ _ _ _ _ (0, 0) _ rfl HH.out Tryd.underlying26 rfl (by kernel_rfl)) rfl ?_
    refine ⟨g6, c6, g7, c7, ?_, hne67, ?_, ?_, HG.out⟩
    · simp [stepAt, hz]
    · rw [show stepRegs 7 rd ra rb k f1 f2 = f1 from by simp [stepRegs, stepVal]]
      exact H6.out
    · rw [show stepMem 7 rd ra k f1 f2 = f2 from by simp [stepMem]]
      exact H7.out
  · have hz2 : (f1 ra == 0) = false := by rw [beq_eq_false_iff_ne]; exact hz
    go_upto_region 23 with (fail)
    clear r0 r1 r2 t0 t1 t2
    have hd7 : w7.grownBy (w7.drewN nq) none := grown_drewN (grown_refl _ _) nq
    have h6 := O6.out.on hd7
    have h7 := O7.out.on hd7
    have h2 := E2.out.grown hd7 (by intro e; cases e)
    have h3 := grown_same E3.out hd7
    generalize (w7.drewN nq) = w8 at *
    have r0 := h2.look 0; have r1 := h2.look 1; have r2 := h2.look 2; have t0 := h2.free 0; have t1 := h2.free 1; have t2 := h2.free 2
    simp at r0 r1 r2
    have hH := ((h2.put 0 (.int .i64 ((m : Int) + 1))).put 1 (.slice (some ⟨g6, 0, none⟩) 4 c6)).put 2 (.slice (some ⟨g7, 0, none⟩) 8 c7)
    simp at hH
    have HH := shade hH
    have HG := shade (grown_put (r := w.heap.size + 1) (grown_put (r := w.heap.size + 1) (grown_put (r := w.heap.size + 1) h3 (by omega) 0 (.int .i64 ((m : Int) + 1))) (by omega) 1 (.slice (some ⟨g6, 0, none⟩) 4 c6)) (by omega) 2 (.slice (some ⟨g7, 0, none⟩) 8 c7))
    have H6 := shade ((((Own.lower (B' := w.heap.size) h6 (by omega)).far hneS 0 (.int .i64 ((m : Int) + 1))).far hneS 1 (.slice (some ⟨g6, 0, none⟩) 4 c6)).far hneS 2 (.slice (some ⟨g7, 0, none⟩) 8 c7))
    have H7 := shade ((((Own.lower (B' := w.heap.size) h7 (by omega)).far hneT 0 (.int .i64 ((m : Int) + 1))).far hneT 1 (.slice (some ⟨g6, 0, none⟩) 4 c6)).far hneT 2 (.slice (some ⟨g7, 0, none⟩) 8 c7))
    clear h2 h3 h6 h7 hH
    go_wp2_with fail
    refine bodyPost_ret (results_cell_row rfl _ _ _ _ _ (0, 0) _ rfl HH.out Tryd.underlying26 rfl (by kernel_rfl)) rfl ?_
    refine ⟨g6, c6, g7, c7, ?_, hne67, ?_, ?_, HG.out⟩
    · simp [stepAt, hz]
    · rw [show stepRegs 7 rd ra rb k f1 f2 = f1 from by simp [stepRegs, stepVal]]
      exact H6.out
    · rw [show stepMem 7 rd ra k f1 f2 = f2 from by simp [stepMem]]
      exact H7.out


set_option maxRecDepth 100000 in
set_option maxHeartbeats 8000000 in
theorem specStep_8 (b off len cap m rd ra rb : Nat) (k : Int) (F : Nat → Ins) (b1 o1 c1 b2 o2 c2 : Nat) (f1 f2 : Nat → Int) (w : World) (hC : Code w (some ⟨b, off, none⟩) len F) (hm : m < len) (hlen : len ≤ 40) (hF : F m = ⟨⟨#[106, 109, 112]⟩, rd, ra, rb, k⟩)
    (hd : rd < 4) (ha : ra < 4) (hb : rb < 4) (k0 : 0 ≤ k) (k1 : k ≤ 255) (ok1 : ∀ j, j < 4 → 0 ≤ f1 j ∧ f1 j ≤ 255) (h1 : Nums w (some ⟨b1, o1, none⟩) 4 f1) (h2 : Nums w (some ⟨b2, o2, none⟩) 8 f2) :
    Calls Tryd.prog 53 #[.slice (some ⟨b, off, none⟩) len cap, MV m (some ⟨b1, o1, none⟩) 4 c1 (some ⟨b2, o2, none⟩) 8 c2] w (MachOk w (stepAt 8 m ra k f1) 4 8 (stepRegs 8 rd ra rb k f1 f2) (stepMem 8 rd ra k f1 f2)) := by
  have hk0 := k0; have hk1 := k1
  have iA : (ra : Int) < 4 := by omega
  have iB : (rb : Int) < 4 := by omega
  have iD : (rd : Int) < 4 := by omega
  have iA0 : (0 : Int) ≤ (ra : Int) := by omega
  have iB0 : (0 : Int) ≤ (rb : Int) := by omega
  have iD0 : (0 : Int) ≤ (rd : Int) := by omega
  have hB1 : b1 < w.heap.size := World.block_lt_of_cell? w _ (h1.cell (j := 0) (by omega))
  have hB2 : b2 < w.heap.size := World.block_lt_of_cell? w _ (h2.cell (j := 0) (by omega))
  obtain ⟨W0, hW0⟩ : ∃ W0, (w.alloc (.cells #[.int .i64 m, .slice (some ⟨b1, o1, none⟩) 4 c1, .slice (some ⟨b2, o2, none⟩) 8 c2] 26)).alloc (.cells #[.int .i64 0, .slice none 0 0, .slice none 0 0] 26) = W0 := ⟨_, rfl⟩
  have e1 : Holds5 W0 w.heap.size 26 #[.int .i64 m, .slice (some ⟨b1, o1, none⟩) 4 c1, .slice (some ⟨b2, o2, none⟩) 8 c2] := by
    rw [← hW0]
    exact (Holds5.fresh w 26 #[.int .i64 m, .slice (some ⟨b1, o1, none⟩) 4 c1, .slice (some ⟨b2, o2, none⟩) 8 c2]).alloc _
  have e2 : Holds5 W0 (w.heap.size + 1) 26 #[.int .i64 0, .slice none 0 0, .slice none 0 0] := by
    rw [← hW0]
    have := Holds5.fresh (w.alloc (.cells #[.int .i64 m, .slice (some ⟨b1, o1, none⟩) 4 c1, .slice (some ⟨b2, o2, none⟩) 8 c2] 26)) 26 #[.int .i64 0, .slice none 0 0, .slice none 0 0]
    rwa [World.size_alloc] at this
  have e3 : w.grownBy W0 none := by
    rw [← hW0]
    exact grown_same (World.grownBy_alloc _ _ _) (World.grownBy_alloc _ _ _)
  have hz : W0.heap.size = w.heap.size + 2 := by
    rw [← hW0, World.size_alloc, World.size_alloc]
  obtain ⟨q0, q1, q2, q3, q4⟩ := (hC.on e3).five hm
  rw [hF] at q0 q1 q2 q3 q4
  simp only [] at q0 q1 q2 q3 q4
  obtain ⟨a0, a1⟩ := ok1 ra ha
  obtain ⟨b0, b1'⟩ := ok1 rb hb
  have x0 := e1.look 0
  simp at x0
  have HW0 := shade hW0
  have N1 := shade (h1.grown e3 (by intro _ _ _ e; cases e)); have N2 := shade (h2.grown e3 (by intro _ _ _ e; cases e))
  have E1 := shade e1; have E2 := shade e2; have E3 := shade e3; have HZ := shade hz
  clear e1 e2 e3 hW0 hC hF ok1 h1 h2 hz
  obtain ⟨i0, hi, hz0, hz1, hz2⟩ := info_parts info3
  go_enter Tryd.func53, Tryd.ntmps53
  go_upto_region 1 with (fail)
  rw [HW0.out]
  clear HW0
  go_upto_region 2 with (fail)
  have e1 := E1.out.alloc (.cells #[.string ⟨#[106, 109, 112]⟩, .int .i64 rd, .int .i64 ra, .int .i64 rb, .int .i64 k] 37)
  have e2 := E2.out.alloc (.cells #[.string ⟨#[106, 109, 112]⟩, .int .i64 rd, .int .i64 ra, .int .i64 rb, .int .i64 k] 37)
  have e3 := grown_same E3.out (World.grownBy_alloc W0 (.cells #[.string ⟨#[106, 109, 112]⟩, .int .i64 rd, .int .i64 ra, .int .i64 rb, .int .i64 k] 37) none)
  have e4 := Holds5.fresh W0 37 #[.string ⟨#[106, 109, 112]⟩, .int .i64 rd, .int .i64 ra, .int .i64 rb, .int .i64 k]
  have n1 := N1.out.alloc (.cells #[.string ⟨#[106, 109, 112]⟩, .int .i64 rd, .int .i64 ra, .int .i64 rb, .int .i64 k] 37)
  have n2 := N2.out.alloc (.cells #[.string ⟨#[106, 109, 112]⟩, .int .i64 rd, .int .i64 ra, .int .i64 rb, .int .i64 k] 37)
  rw [HZ.out] at e4
  try simp only [HZ.out]
  have hz3 : (W0.alloc (.cells #[.string ⟨#[106, 109, 112]⟩, .int .i64 rd, .int .i64 ra, .int .i64 rb, .int .i64 k] 37)).heap.size = w.heap.size + 3 := by
    rw [World.size_alloc, HZ.out]
  generalize W0.alloc (.cells #[.string ⟨#[106, 109, 112]⟩, .int .i64 rd, .int .i64 ra, .int .i64 rb, .int .i64 k] 37) = W1 at *
  clear E1 E2 E3 N1 N2 q0 q1 q2 q3 q4 x0 HZ
  have x0 := e1.look 0; have x1 := e1.look 1; have x2 := e1.look 2
  simp at x0 x1 x2
  have E1 := shade e1; have E2 := shade e2; have E3 := shade e3; have E4 := shade e4; have N1 := shade n1; have N2 := shade n2; have HZ := shade hz3
  clear e1 e2 e3 e4 n1 n2 hz3
  have hbs : w.heap.size ≤ W1.heap.size := E3.out.size
  have hzl : w.heap.size < W1.heap.size := by have := HZ.out; omega
  have hzn : w.heap.size ≠ W1.heap.size := by omega
  go_upto_region 3 with (first
    | (at_builtin; refine wpList_append_own _ rfl (.tmp 15) (.tmp 17) 24 rfl W1.heap.size 3 i0 (.int .i64 0) 1 8 Tryd.underlying24 hi hz0 hz1 hz2 rfl (by decide) (.slice (some ⟨W1.heap.size, 0, none⟩) 0 0) 0 [] rfl (World.ownsRow_lit _ #[] 0 (Nat.le_refl _) (by decide) rfl) ⟨b1, o1, none⟩ 4 c1 (numL 4 f1) rfl (by simp [numL_len]) ((N1.out.alloc _).cells) (numL_oneCell 4 f1) (by unfold maxLen; omega) (by omega) (by simp) ?_; intro v6 w6 hown6 hgr6 hnil6))
  obtain ⟨g6, c6, rfl⟩ : ∃ g6 c6, v6 = .slice (some ⟨g6, 0, none⟩) 4 c6 := by
    rcases hown6.2 with ⟨_, h0⟩ | ⟨g6, c6, _, e, _⟩
    · omega
    · exact ⟨g6, c6, e⟩
  have o6 : Own w6 W1.heap.size (some ⟨g6, 0, none⟩) 4 c6 f1 := hown6
  have hW : W1.grownBy w6 none := grown_row (World.grownBy_alloc W1 (.cells #[] 3) none) hgr6 (fun j e => by
    have e2 : some W1.heap.size = some j := e
    injection e2 with e2
    omega)
  have e1 := E1.out.grown hW (by intro e; cases e)
  have e2 := E2.out.grown hW (by intro e; cases e)
  have e3 := grown_same E3.out hW
  have e4 := E4.out.grown hW (by intro e; cases e)
  have n1 := N1.out.grown hW (by intro _ _ _ e; cases e)
  have n2 := N2.out.grown hW (by intro _ _ _ e; cases e)
  have l6 := o6.lt
  have hzm := HZ.out
  clear E1 E2 E3 E4 N1 N2 x0 x1 x2 hown6 hgr6 hnil6 hW hbs hzl hzn HZ
  have x0 := e1.look 0; have x1 := e1.look 1; have x2 := e1.look 2
  simp at x0 x1 x2
  have E1 := shade e1; have E2 := shade e2; have E3 := shade e3; have E4 := shade e4; have N1 := shade n1; have N2 := shade n2; have O6 := shade o6
  clear e1 e2 e3 e4 n1 n2 o6
  have hzl : w.heap.size < w6.heap.size := by omega
  go_upto_region 4 with (first
    | (at_builtin; refine wpList_append_own _ rfl (.tmp 19) (.tmp 21) 24 rfl w6.heap.size 3 i0 (.int .i64 0) 1 8 Tryd.underlying24 hi hz0 hz1 hz2 rfl (by decide) (.slice (some ⟨w6.heap.size, 0, none⟩) 0 0) 0 [] rfl (World.ownsRow_lit _ #[] 0 (Nat.le_refl _) (by decide) rfl) ⟨b2, o2, none⟩ 8 c2 (numL 8 f2) rfl (by simp [numL_len]) ((N2.out.alloc _).cells) (numL_oneCell 8 f2) (by unfold maxLen; omega) (by omega) (by simp) ?_; intro v7 w7 hown7 hgr7 hnil7))
  obtain ⟨g7, c7, rfl⟩ : ∃ g7 c7, v7 = .slice (some ⟨g7, 0, none⟩) 8 c7 := by
    rcases hown7.2 with ⟨_, h0⟩ | ⟨g7, c7, _, e, _⟩
    · omega
    · exact ⟨g7, c7, e⟩
  have o7 : Own w7 w6.heap.size (some ⟨g7, 0, none⟩) 8 c7 f2 := hown7
  have hW : w6.grownBy w7 none := grown_row (World.grownBy_alloc w6 (.cells #[] 3) none) hgr7 (fun j e => by
    have e2 : some w6.heap.size = some j := e
    injection e2 with e2
    omega)
  have o6 := O6.out.on hW
  have e1 := E1.out.grown hW (by intro e; cases e)
  have e2 := E2.out.grown hW (by intro e; cases e)
  have e3 := grown_same E3.out hW
  have e4 := E4.out.grown hW (by intro e; cases e)
  have n1 := N1.out.grown hW (by intro _ _ _ e; cases e)
  have n2 := N2.out.grown hW (by intro _ _ _ e; cases e)
  have l7 := o7.lt
  clear E1 E2 E3 E4 N1 N2 O6 x0 x1 x2 hown7 hgr7 hnil7 hW hi hz0 hz1 hz2
  have x0 := e1.look 0; have x1 := e1.look 1; have x2 := e1.look 2
  have y0 := e4.look 0; have y1 := e4.look 1; have y2 := e4.look 2; have y3 := e4.look 3; have y4 := e4.look 4
  simp at x0 x1 x2 y0 y1 y2 y3 y4
  have xa := n1.cell ha; have xb := n1.cell hb; have xd := n1.cell hd
  have xp := n2.cell (placeN_lt f1 ra k)
  have hpl := placeN_lt f1 ra k
  have hpI : ((placeN f1 ra k : Nat) : Int) < 8 := by omega
  have hpI0 : (0 : Int) ≤ ((placeN f1 ra k : Nat) : Int) := by omega
  have hp : (f1 ra + k) % 8 = ((placeN f1 ra k : Nat) : Int) := by
    unfold placeN
    omega
  have HP := shade hp
  have ra6 := o6.nums.cell hd; have rf6 := World.ownsRow.frozenAt o6 rd
  have ra7 := o7.nums.cell (placeN_lt f1 ra k); have rf7 := World.ownsRow.frozenAt o7 (placeN f1 ra k)
  rw [Nat.zero_add] at ra6 ra7
  have E2 := shade e2; have E3 := shade e3; have O6 := shade o6; have O7 := shade o7
  have r0 := e2.look 0; have r1 := e2.look 1; have r2 := e2.look 2; have t0 := e2.free 0; have t1 := e2.free 1; have t2 := e2.free 2
  simp at r0 r1 r2
  clear e1 e2 e3 e4 n1 n2 o6 o7 hp
  have hneS : g6 ≠ w.heap.size + 1 := by omega
  have hneT : g7 ≠ w.heap.size + 1 := by omega
  have hne67 : g6 ≠ g7 := by omega
  go_upto_region 5 with (fail)
  go_quiet (fail)
  go_upto_region 6 with (fail)
  try simp only [HP.out]
  go_upto_region 23 with (fail)
  clear r0 r1 r2 t0 t1 t2
  have hd7 : w7.grownBy (w7.drewN nq) none := grown_drewN (grown_refl _ _) nq
  have h6 := O6.out.on hd7
  have h7 := O7.out.on hd7
  have h2 := E2.out.grown hd7 (by intro e; cases e)
  have h3 := grown_same E3.out hd7
  generalize (w7.drewN nq) = w8 at *
  have r0 := h2.look 0; have r1 := h2.look 1; have r2 := h2.look 2; have t0 := h2.free 0; have t1 := h2.free 1; have t2 := h2.free 2
  simp at r0 r1 r2
  have hH := ((h2.put 0 (.int .i64 k)).put 1 (.slice (some ⟨g6, 0, none⟩) 4 c6)).put 2 (.slice (some ⟨g7, 0, none⟩) 8 c7)
  simp at hH
  have HH := shade hH
  have HG := shade (grown_put (r := w.heap.size + 1) (grown_put (r := w.heap.size + 1) (grown_put (r := w.heap.size + 1) h3 (by omega) 0 (.int .i64 k)) (by omega) 1 (.slice (some ⟨g6, 0, none⟩) 4 c6)) (by omega) 2 (.slice (some ⟨g7, 0, none⟩) 8 c7))
  have H6 := shade ((((Own.lower (B' := w.heap.size) h6 (by omega)).far hneS 0 (.int .i64 k)).far hneS 1 (.slice (some ⟨g6, 0, none⟩) 4 c6)).far hneS 2 (.slice (some ⟨g7, 0, none⟩) 8 c7))
  have H7 := shade ((((Own.lower (B' := w.heap.size) h7 (by omega)).far hneT 0 (.int .i64 k)).far hneT 1 (.slice (some ⟨g6, 0, none⟩) 4 c6)).far hneT 2 (.slice (some ⟨g7, 0, none⟩) 8 c7))
  clear h2 h3 h6 h7 hH
  go_wp2_with fail
  refine bodyPost_ret (results_cell_row rfl _ _ _ _ _ (0, 0) _ rfl HH.out Tryd.underlying26 rfl (by kernel_rfl)) rfl ?_
  refine ⟨g6, c6, g7, c7, ?_, hne67, ?_, ?_, HG.out⟩
  · simp [stepAt]
  · rw [show stepRegs 8 rd ra rb k f1 f2 = f1 from by simp [stepRegs, stepVal]]
    exact H6.out
  · rw [show stepMem 8 rd ra k f1 f2 = f2 from by simp [stepMem]]
    exact H7.out

end Go.Proofs.YtcfnoihjpiklhaaDoor
