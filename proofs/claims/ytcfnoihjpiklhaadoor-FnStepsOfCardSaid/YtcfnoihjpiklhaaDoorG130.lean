/- The model's someMachine returns a machine whose numbers can be read and changes nothing but the reader. The model's someCode, once more: it hands the reader on. The drawn program, machine and fuel. -/
import Derived.Test.YtcfnoihjpiklhaaDoorG60
import Derived.Test.YtcfnoihjpiklhaaDoorG39
import Derived.Test.YtcfnoihjpiklhaaDoorW76
import Derived.Test.YtcfnoihjpiklhaaDoorG77
import Derived.Test.YtcfnoihjpiklhaaDoorW9
namespace Go.Proofs.YtcfnoihjpiklhaaDoor
open Go.RowKit


theorem make4 (W : World) : (Instr.makeSlice 24 (.int .i64 4) (.int .i64 4)).run Tryd.prog W = .ok (.slice (some ⟨W.heap.size, 0, none⟩) 4 4) (W.alloc (.cells #[.int .i64 0, .int .i64 0, .int .i64 0, .int .i64 0] 3)) := by
  obtain ⟨i0, hi, hz0, hz1, hz2⟩ := info_parts info3
  have h := run_make (P := Tryd.prog) W 24 3 i0 (.int .i64 0) Tryd.underlying24 hi hz0 .i64 .i64 4 4 (by omega) (by omega) (by rw [hz2]; omega) (by omega)
  rw [hz1, show (Int.toNat 4) = 4 from rfl, show madeCells (Value.int .i64 0).cells (4 * 1) = #[.int .i64 0, .int .i64 0, .int .i64 0, .int .i64 0] from Array.toList_inj.1 (toList_madeCells_one _ _)] at h
  exact h
theorem make8 (W : World) : (Instr.makeSlice 24 (.int .i64 8) (.int .i64 8)).run Tryd.prog W = .ok (.slice (some ⟨W.heap.size, 0, none⟩) 8 8) (W.alloc (.cells #[.int .i64 0, .int .i64 0, .int .i64 0, .int .i64 0, .int .i64 0, .int .i64 0, .int .i64 0, .int .i64 0] 3)) := by
  obtain ⟨i0, hi, hz0, hz1, hz2⟩ := info_parts info3
  have h := run_make (P := Tryd.prog) W 24 3 i0 (.int .i64 0) Tryd.underlying24 hi hz0 .i64 .i64 8 8 (by omega) (by omega) (by rw [hz2]; omega) (by omega)
  rw [hz1, show (Int.toNat 8) = 8 from rfl, show madeCells (Value.int .i64 0).cells (8 * 1) = #[.int .i64 0, .int .i64 0, .int .i64 0, .int .i64 0, .int .i64 0, .int .i64 0, .int .i64 0, .int .i64 0] from Array.toList_inj.1 (toList_madeCells_one _ _)] at h
  exact h
set_option maxHeartbeats 1000000 in
theorem specNewMachine_any (w : World) : Calls Tryd.prog 43 #[] w (MachOk w 0 4 8 (fun _ => 0) (fun _ => 0)) := by
  have hm4 := make4
  have hm8 := make8
  go_enter Tryd.func43, Tryd.ntmps43
  go_wp2
  go_region
  all_goals (try go_wp2)
  · refine bodyPost_ret (results_cell_row rfl _ _ _ _ _ (0, 0) _ rfl (((Holds5.fresh w 26 #[.int .i64 0, .slice (some ⟨w.heap.size + 1, 0, none⟩) 4 4, .slice (some ⟨w.heap.size + 1 + 1, 0, none⟩) 8 8]).alloc _).alloc _) Tryd.underlying26 rfl (by kernel_rfl)) rfl ?_
    refine ⟨_, _, _, _, rfl, by omega, ?_, ?_, ?_⟩
    · have h := ((World.ownsRow_lit (base := w.heap.size) (e := 3) (size := 1) (w.alloc (.cells #[.int .i64 0, .slice (some ⟨w.heap.size + 1, 0, none⟩) 4 4, .slice (some ⟨w.heap.size + 1 + 1, 0, none⟩) 8 8] 26)) #[.int .i64 0, .int .i64 0, .int .i64 0, .int .i64 0] 4 (by simp) (by decide) rfl).alloc (.cells #[.int .i64 0, .int .i64 0, .int .i64 0, .int .i64 0, .int .i64 0, .int .i64 0, .int .i64 0, .int .i64 0] 3)).drew
      rw [World.size_alloc] at h
      exact h
    · have h := (World.ownsRow_lit (base := w.heap.size) (e := 3) (size := 1) ((w.alloc (.cells #[.int .i64 0, .slice (some ⟨w.heap.size + 1, 0, none⟩) 4 4, .slice (some ⟨w.heap.size + 1 + 1, 0, none⟩) 8 8] 26)).alloc (.cells #[.int .i64 0, .int .i64 0, .int .i64 0, .int .i64 0] 3)) #[.int .i64 0, .int .i64 0, .int .i64 0, .int .i64 0, .int .i64 0, .int .i64 0, .int .i64 0, .int .i64 0] 8 (by simp; omega) (by decide) rfl).drew
      rw [World.size_alloc, World.size_alloc] at h
      exact h
    · exact grown_same (grown_same (World.grownBy_alloc _ _ _) (World.grownBy_alloc _ _ _)) (grown_drewN (World.grownBy_alloc _ _ _) 1)
  · refine bodyPost_ret (results_cell_row rfl _ _ _ _ _ (0, 0) _ rfl (((Holds5.fresh w 26 #[.int .i64 0, .slice (some ⟨w.heap.size + 1 + 1, 0, none⟩) 4 4, .slice (some ⟨w.heap.size + 1, 0, none⟩) 8 8]).alloc _).alloc _) Tryd.underlying26 rfl (by kernel_rfl)) rfl ?_
    refine ⟨_, _, _, _, rfl, by omega, ?_, ?_, ?_⟩
    · have h := (World.ownsRow_lit (base := w.heap.size) (e := 3) (size := 1) ((w.alloc (.cells #[.int .i64 0, .slice (some ⟨w.heap.size + 1 + 1, 0, none⟩) 4 4, .slice (some ⟨w.heap.size + 1, 0, none⟩) 8 8] 26)).alloc (.cells #[.int .i64 0, .int .i64 0, .int .i64 0, .int .i64 0, .int .i64 0, .int .i64 0, .int .i64 0, .int .i64 0] 3)) #[.int .i64 0, .int .i64 0, .int .i64 0, .int .i64 0] 4 (by simp; omega) (by decide) rfl).drew
      rw [World.size_alloc, World.size_alloc] at h
      exact h
    · have h := ((World.ownsRow_lit (base := w.heap.size) (e := 3) (size := 1) (w.alloc (.cells #[.int .i64 0, .slice (some ⟨w.heap.size + 1 + 1, 0, none⟩) 4 4, .slice (some ⟨w.heap.size + 1, 0, none⟩) 8 8] 26)) #[.int .i64 0, .int .i64 0, .int .i64 0, .int .i64 0, .int .i64 0, .int .i64 0, .int .i64 0, .int .i64 0] 8 (by simp) (by decide) rfl).alloc (.cells #[.int .i64 0, .int .i64 0, .int .i64 0, .int .i64 0] 3)).drew
      rw [World.size_alloc] at h
      exact h
    · exact grown_same (grown_same (World.grownBy_alloc _ _ _) (World.grownBy_alloc _ _ _)) (grown_drewN (World.grownBy_alloc _ _ _) 1)

theorem Rd.below {w w' : World} {g : Nat} {A : Option Addr} {n cap : Nat} {zs : List Int} {p : Nat} (h : Rd w g A n cap zs p) (hb : Below w.heap.size w w') : Rd w' g A n cap zs p := by
  refine ⟨h.blk.below hb h.blk.inside, h.len, h.cap, fun hn => ?_, h.rng, h.few⟩
  obtain ⟨b, off, hA, hbg, hc⟩ := h.cells hn
  have hl := h.low hA hn
  exact ⟨b, off, hA, hbg, fun j hj => (hb.cell (p := ⟨b, off + j, none⟩) hl).trans (hc j hj)⟩
theorem Rd.drew {w : World} {g : Nat} {A : Option Addr} {n cap : Nat} {zs : List Int} {p : Nat} (h : Rd w g A n cap zs p) : Rd w.drew g A n cap zs p := ⟨h.blk, h.len, h.cap, h.cells, h.rng, h.few⟩
/-- What stands while a machine is drawn. -/
structure SMB (w wr : World) (g B : Nat) (A : Option Addr) (n cap : Nat) (zs : List Int) (p : Nat) (at' : Int) (g1 c1 g2 c2 : Nat) (f1 f2 : Nat → Int) : Prop where
  rd : Rd wr g A n cap zs p
  res : Holds5 wr w.heap.size 26 #[.int .i64 0, .slice none 0 0, .slice none 0 0]
  var : Holds5 wr B 26 #[.int .i64 at', .slice (some ⟨g1, 0, none⟩) 4 c1, .slice (some ⟨g2, 0, none⟩) 8 c2]
  o1 : Own wr (w.heap.size + 1) (some ⟨g1, 0, none⟩) 4 c1 f1
  o2 : Own wr (w.heap.size + 1) (some ⟨g2, 0, none⟩) 8 c2 f2
  low : w.grownBy wr (some g)
  sep : (g < w.heap.size ∧ w.heap.size < B ∧ g1 ≠ g2 ∧ B ≠ g1 ∧ B ≠ g2) ∧ ∀ b off, A = some ⟨b, off, none⟩ → 0 < n → b < w.heap.size
theorem SMB.step {w wr : World} {g B : Nat} {A : Option Addr} {n cap : Nat} {zs : List Int} {p : Nat} {at' : Int} {g1 c1 g2 c2 : Nat} {f1 f2 : Nat → Int} (h : SMB w wr g B A n cap zs p at' g1 c1 g2 c2 f1 f2) {w2 : World} {p2 : Nat} (hR : Rd w2 g A n cap zs p2) (hG : wr.grownBy w2 (some g)) : SMB w w2 g B A n cap zs p2 at' g1 c1 g2 c2 f1 f2 := by
  obtain ⟨⟨s1, s2, s3, s4, s5⟩, s6⟩ := h.sep
  have l1 := h.o1.lt
  have l2 := h.o2.lt
  refine ⟨hR, h.res.grown hG (by intro e; injection e; omega), h.var.grown hG (by intro e; injection e; omega), World.ownsRow.kept h.o1 hG (.inr ?_), World.ownsRow.kept h.o2 hG (.inr ?_), only_trans h.low hG, h.sep⟩
  · show some g1 ≠ some g
    intro e
    injection e
    omega
  · show some g2 ≠ some g
    intro e
    injection e
    omega
theorem SMB.put1 {w wr : World} {g B : Nat} {A : Option Addr} {n cap : Nat} {zs : List Int} {p : Nat} {at' : Int} {g1 c1 g2 c2 : Nat} {f1 f2 : Nat → Int} (h : SMB w wr g B A n cap zs p at' g1 c1 g2 c2 f1 f2) (k : Nat) (_hk : k < 4) (x : Int) : SMB w (wr.setCell ⟨g1, k, none⟩ (.int .i64 x)) g B A n cap zs p at' g1 c1 g2 c2 (fun j => if j = k then x else f1 j) f2 := by
  obtain ⟨⟨s1, s2, s3, s4, s5⟩, s6⟩ := h.sep
  have l1 := h.o1.lt
  refine ⟨h.rd.far (q := ⟨g1, k, none⟩) _ (by show g ≠ g1; omega) (fun b off e hn => by have := s6 b off e hn; show b ≠ g1; omega), h.res.far (by omega) _ _, h.var.far s4 _ _, ?_, h.o2.far (fun e => s3 e.symm) _ _, only_put h.low (.inl (by show w.heap.size ≤ g1; omega)) _, h.sep⟩
  have hs := (World.ownsRow.stored h.o1 k (.int .i64 x)).1
  rw [numL_set 4 f1 (fun j => if j = k then x else f1 j) k x (by simp) (fun j _ hne => by rw [if_neg hne])] at hs
  exact hs
theorem SMB.put2 {w wr : World} {g B : Nat} {A : Option Addr} {n cap : Nat} {zs : List Int} {p : Nat} {at' : Int} {g1 c1 g2 c2 : Nat} {f1 f2 : Nat → Int} (h : SMB w wr g B A n cap zs p at' g1 c1 g2 c2 f1 f2) (k : Nat) (_hk : k < 8) (x : Int) : SMB w (wr.setCell ⟨g2, k, none⟩ (.int .i64 x)) g B A n cap zs p at' g1 c1 g2 c2 f1 (fun j => if j = k then x else f2 j) := by
  obtain ⟨⟨s1, s2, s3, s4, s5⟩, s6⟩ := h.sep
  have l2 := h.o2.lt
  refine ⟨h.rd.far (q := ⟨g2, k, none⟩) _ (by show g ≠ g2; omega) (fun b off e hn => by have := s6 b off e hn; show b ≠ g2; omega), h.res.far (by omega) _ _, h.var.far s5 _ _, h.o1.far s3 _ _, ?_, only_put h.low (.inl (by show w.heap.size ≤ g2; omega)) _, h.sep⟩
  have hs := (World.ownsRow.stored h.o2 k (.int .i64 x)).1
  rw [numL_set 8 f2 (fun j => if j = k then x else f2 j) k x (by simp) (fun j _ hne => by rw [if_neg hne])] at hs
  exact hs
theorem SMB.at0 {w wr : World} {g B : Nat} {A : Option Addr} {n cap : Nat} {zs : List Int} {p : Nat} {at' : Int} {g1 c1 g2 c2 : Nat} {f1 f2 : Nat → Int} (h : SMB w wr g B A n cap zs p at' g1 c1 g2 c2 f1 f2) (x : Int) : SMB w (wr.setCell ⟨B, 0, none⟩ (.int .i64 x)) g B A n cap zs p x g1 c1 g2 c2 f1 f2 := by
  obtain ⟨⟨s1, s2, s3, s4, s5⟩, s6⟩ := h.sep
  refine ⟨h.rd.far (q := ⟨B, 0, none⟩) _ (by show g ≠ B; omega) (fun b off e hn => by have := s6 b off e hn; show b ≠ B; omega), h.res.far (by omega) _ _, ?_, h.o1.far (fun e => s4 e.symm) _ _, h.o2.far (fun e => s5 e.symm) _ _, only_put h.low (.inl (by show w.heap.size ≤ B; omega)) _, h.sep⟩
  have := h.var.put 0 (.int .i64 x)
  simpa using this
theorem low_of {w' : World} {B g n c : Nat} {f : Nat → Int} (h : Own w' B (some ⟨g, 0, none⟩) n c f) (o : Nat) : ∀ b off, (some ⟨g, o, none⟩ : Option Addr) = some ⟨b, off, none⟩ → B ≤ b := by
  intro b off e
  injection e with e
  injection e with e
  have := h.lt
  omega
/-- What someMachine leaves: some machine whose numbers can be read; only the reader has changed. -/
def SMOk (w : World) (g : Nat) (e : Ending) (w' : World) : Prop :=
  ∃ (at' : Int) (A1 : Option Addr) (n1 c1 : Nat) (A2 : Option Addr) (n2 c2 : Nat) (f1 f2 : Nat → Int), e = .returned (MV at' A1 n1 c1 A2 n2 c2) ∧ Nums w' A1 n1 f1 ∧ Nums w' A2 n2 f2 ∧ (n1 ≤ 8 ∧ n2 ≤ 8) ∧ ((∀ b off, A1 = some ⟨b, off, none⟩ → w.heap.size + 1 ≤ b) ∧ ∀ b off, A2 = some ⟨b, off, none⟩ → w.heap.size + 1 ≤ b) ∧ w.grownBy w' (some g)


set_option maxHeartbeats 8000000 in
theorem someMachine_any {A : Option Addr} {n cap g : Nat} {zs : List Int} {p : Nat} {w : World} (h : Rd w g A n cap zs p) (hp : p + 100 < 1000000) :
    Calls Tryd.prog 26 #[.pointer (some ⟨g, 0, none⟩)] w (SMOk w g) := by
  have hg := h.blk.inside
  have HL := shade (fun b off (hA : A = some ⟨b, off, none⟩) (hn : 0 < n) => h.low hA hn)
  have HR0 := shade (h.alloc (.cells #[.int .i64 0, .slice none 0 0, .slice none 0 0] 26))
  have HSN := shade (specNewMachine_any (w.alloc (.cells #[.int .i64 0, .slice none 0 0, .slice none 0 0] 26)))
  clear h
  go_enter Tryd.func26, Tryd.ntmps26
  go_wp2_with fail
  refine HSN.out.mono ?_
  rintro e w1 ⟨g1, c1, g2, c2, rfl, hne, ho1, ho2, hgr⟩
  rw [World.size_alloc] at ho1 ho2
  have hA := World.grownBy_alloc w1 (.cells #[.int .i64 0, .slice (some ⟨g1, 0, none⟩) 4 c1, .slice (some ⟨g2, 0, none⟩) 8 c2] 26) none
  have hB := grown_same hgr hA
  have l1 := ho1.lt
  have l2 := ho2.lt
  have z1 := hgr.size
  rw [World.size_alloc] at z1
  have hM : SMB w (w1.alloc (.cells #[.int .i64 0, .slice (some ⟨g1, 0, none⟩) 4 c1, .slice (some ⟨g2, 0, none⟩) 8 c2] 26)) g w1.heap.size A n cap zs p 0 g1 c1 g2 c2 (fun _ => 0) (fun _ => 0) :=
    ⟨(HR0.out.below (below_of_grown hgr)).alloc _, (Holds5.fresh w 26 #[.int .i64 0, .slice none 0 0, .slice none 0 0]).grown hB (by intro e; cases e), Holds5.fresh _ _ _, ho1.on hA, ho2.on hA, only_of (grown_same (World.grownBy_alloc _ _ _) hB), ⟨hg, by omega, hne, by omega, by omega⟩, HL.out⟩
  obtain ⟨B, hBB⟩ : ∃ B, w1.heap.size = B := ⟨_, rfl⟩
  obtain ⟨W2, hW2⟩ : ∃ W2, w1.alloc (.cells #[.int .i64 0, .slice (some ⟨g1, 0, none⟩) 4 c1, .slice (some ⟨g2, 0, none⟩) 8 c2] 26) = W2 := ⟨_, rfl⟩
  rw [hW2, hBB] at hM
  have HM := shade hM
  have HW2 := shade hW2
  have HBB := shade hBB
  clear hM hW2 hBB hA hB ho1 ho2 hgr HR0 HSN l1 l2 z1
  go_wp2_with fail
  rw [HW2.out, HBB.out]
  clear HW2 HBB
  go_wp2_with fail
  go_loopw [4] (fun i wr => ∃ (k q : Nat) (f1 : Nat → Int), k ≤ 4 ∧ i = .int .i64 k ∧ q ≤ p + 3 * k ∧ SMB w wr g B A n cap zs q 0 g1 c1 g2 c2 f1 (fun _ => 0)) (fun i _ => 4 - (intOf i).toNat)
  case atStart => exact ⟨0, p, _, Nat.zero_le _, rfl, by omega, HM.out⟩
  case round =>
    obtain ⟨k, p, f1, hk, rfl, hq0, hs⟩ := hrel
    by_cases hkn : k < 4
    · go_wp2_with fail
      have HS := shade hs
      clear hs
      have hN0 := only_drewN (only_refl wr g) 1
      have H0 := shade (HS.out.step (w2 := wr.drew) (p2 := p) HS.out.rd.drew hN0)
      have S0 := (H0.out.var.look 1).trans (show _ = some (Value.slice (some ⟨g1, 0, none⟩) 4 c1) from rfl)
      clear HS hN0
      go_region_held3 (fun w' => w'.cell? ⟨B, 1, none⟩ = some (.slice (some ⟨g1, 0, none⟩) 4 c1)) (first | exact S0 | exact S1 | exact S2 | exact S3 | exact S4 | exact (World.cell?_setCell_far _ _ _ _ (fun e => H4.out.sep.1.2.2.2.1 e.symm)).trans S4)
        (first
          | (have hq := H3; go_at_call 40; refine (one_rel (fun x => 0 ≤ x ∧ x ≤ 255) H3.out.rd (by omega) _ _ _ (by omega) (by omega) (by omega) (by have := H2.out.sep; have := H2.out.rd.blk.inside; omega) (by
              intro j hj
              rw [World.cell?_alloc_new]
              rcases (show j = 0 ∨ j = 1 ∨ j = 2 by omega) with rfl | rfl | rfl <;> exact ⟨_, by constructor <;> omega, rfl⟩)).mono ?_; rintro e w4 ⟨x, hx, rfl, hR, hG⟩; have H4 := shade (H3.out.step hR hG); have S4 := (H4.out.var.look 1).trans (show _ = some (Value.slice (some ⟨g1, 0, none⟩) 4 c1) from rfl); have b0 := (H4.out.o1).nums.cell hkn; have f0 := World.ownsRow.frozenAt (H4.out.o1) k; rw [Nat.zero_add] at b0; clear hR hG)
          | (have hq := H1; go_at_call 42; refine (pick_rel 256 H1.out.rd (by omega)).mono ?_; rintro e w2 ⟨y2, ⟨y2a, y2b, _⟩, rfl, hR, hG⟩; have y2c := y2b (by omega); have H2 := shade (H1.out.step hR hG); have S2 := (H2.out.var.look 1).trans (show _ = some (Value.slice (some ⟨g1, 0, none⟩) 4 c1) from rfl); have H3 := shade (H2.out.step (w2 := w2.alloc (.cells #[.int .i64 y1, .int .i64 y2, .int .i64 0] 3)) (H2.out.rd.alloc _) (only_of (World.grownBy_alloc _ _ _))); have S3 := (H3.out.var.look 1).trans (show _ = some (Value.slice (some ⟨g1, 0, none⟩) 4 c1) from rfl); clear hR hG y2b)
          | (go_at_call 42; refine (pick_rel 4 H0.out.rd (by omega)).mono ?_; rintro e w1 ⟨y1, ⟨y1a, y1b, _⟩, rfl, hR, hG⟩; have y1c := y1b (by omega); have H1 := shade (H0.out.step hR hG); have S1 := (H1.out.var.look 1).trans (show _ = some (Value.slice (some ⟨g1, 0, none⟩) 4 c1) from rfl); clear hR hG y1b))
      rename_i hHeld
      clear hHeld
      go_wp2_with fail
      go_roundw
      case rel => exact ⟨k + 1, _, _, by omega, by go_num, by omega, H4.out.put1 k hkn x⟩
      case measure => simp [intOf]; omega
    · have hkn2 : k = 4 := by omega
      subst hkn2
      have HS := shade hs
      clear hs
      go_wp2_with fail
      go_loopw [5] (fun i wr => ∃ (k q : Nat) (f2 : Nat → Int), k ≤ 8 ∧ i = .int .i64 k ∧ q ≤ p + 3 * k ∧ SMB w wr g B A n cap zs q 0 g1 c1 g2 c2 f1 f2) (fun i _ => 8 - (intOf i).toNat)
      case atStart => exact ⟨0, p, _, Nat.zero_le _, rfl, by omega, HS.out⟩
      case round =>
        clear HS
        obtain ⟨k, p, f2, hk, rfl, hq0, hs⟩ := hrel
        by_cases hkn : k < 8
        · go_wp2_with fail
          have HS := shade hs
          clear hs
          have hN0 := only_drewN (only_refl wr g) 1
          have H0 := shade (HS.out.step (w2 := wr.drew) (p2 := p) HS.out.rd.drew hN0)
          have S0 := (H0.out.var.look 2).trans (show _ = some (Value.slice (some ⟨g2, 0, none⟩) 8 c2) from rfl)
          clear HS hN0
          go_region_held3 (fun w' => w'.cell? ⟨B, 2, none⟩ = some (.slice (some ⟨g2, 0, none⟩) 8 c2)) (first | exact S0 | exact S1 | exact S2 | exact S3 | exact S4 | exact (World.cell?_setCell_far _ _ _ _ (fun e => H4.out.sep.1.2.2.2.2 e.symm)).trans S4)
            (first
              | (have hq := H3; go_at_call 40; refine (one_rel (fun x => 0 ≤ x ∧ x ≤ 255) H3.out.rd (by omega) _ _ _ (by omega) (by omega) (by omega) (by have := H2.out.sep; have := H2.out.rd.blk.inside; omega) (by
                  intro j hj
                  rw [World.cell?_alloc_new]
                  rcases (show j = 0 ∨ j = 1 ∨ j = 2 ∨ j = 3 by omega) with rfl | rfl | rfl | rfl <;> exact ⟨_, by constructor <;> omega, rfl⟩)).mono ?_; rintro e w4 ⟨x, hx, rfl, hR, hG⟩; have H4 := shade (H3.out.step hR hG); have S4 := (H4.out.var.look 2).trans (show _ = some (Value.slice (some ⟨g2, 0, none⟩) 8 c2) from rfl); have b0 := (H4.out.o2).nums.cell hkn; have f0 := World.ownsRow.frozenAt (H4.out.o2) k; rw [Nat.zero_add] at b0; clear hR hG)
              | (have hq := H1; go_at_call 42; refine (pick_rel 256 H1.out.rd (by omega)).mono ?_; rintro e w2 ⟨y2, ⟨y2a, y2b, _⟩, rfl, hR, hG⟩; have y2c := y2b (by omega); have H2 := shade (H1.out.step hR hG); have S2 := (H2.out.var.look 2).trans (show _ = some (Value.slice (some ⟨g2, 0, none⟩) 8 c2) from rfl); have H3 := shade (H2.out.step (w2 := w2.alloc (.cells #[.int .i64 y1, .int .i64 y2, .int .i64 0, .int .i64 0] 3)) (H2.out.rd.alloc _) (only_of (World.grownBy_alloc _ _ _))); have S3 := (H3.out.var.look 2).trans (show _ = some (Value.slice (some ⟨g2, 0, none⟩) 8 c2) from rfl); clear hR hG y2b)
              | (go_at_call 42; refine (pick_rel 5 H0.out.rd (by omega)).mono ?_; rintro e w1 ⟨y1, ⟨y1a, y1b, _⟩, rfl, hR, hG⟩; have y1c := y1b (by omega); have H1 := shade (H0.out.step hR hG); have S1 := (H1.out.var.look 2).trans (show _ = some (Value.slice (some ⟨g2, 0, none⟩) 8 c2) from rfl); clear hR hG y1b))
          rename_i hHeld
          clear hHeld
          go_wp2_with fail
          go_roundw
          case rel =>
            exact ⟨_, _, _, _, _, _, _, _, _, _, _, _, _, _, _, _, ⟨k + 1, _, _, by omega, rfl, by omega, H4.out.put2 k hkn x⟩, rfl⟩
          case measure => simp [intOf]; omega
        · have hkn2 : k = 8 := by omega
          subst hkn2
          have HS := shade hs
          clear hs
          go_wp2_with fail
          refine (pick_rel 40 HS.out.rd (by omega)).mono ?_
          rintro e w5 ⟨v, ⟨v0, v1, _⟩, rfl, hR, hG⟩
          have v2 := v1 (by omega)
          have H5 := shade (HS.out.step hR hG)
          clear hR hG v1 HS HM HL
          obtain ⟨hl1, hl2⟩ : g1 ≠ w.heap.size ∧ g2 ≠ w.heap.size := by
            have l1 := H5.out.o1.lt
            have l2 := H5.out.o2.lt
            omega
          by_cases q0 : v = 0
          · subst q0
            have z0 := H5.out.var.look 0; have zf := H5.out.var.free 0; have zs := H5.out.var.inside
            simp at z0
            go_wp2_with fail
            refine (one_rel (fun x => -1 ≤ x ∧ x ≤ 41) (H5.out.rd.alloc _) (by omega) _ _ _ (by omega) (by omega) (by omega) (by have := H5.out.rd.blk.inside; omega) (by
              intro j hj
              rw [World.cell?_alloc_new]
              rcases (show j = 0 ∨ j = 1 ∨ j = 2 ∨ j = 3 by omega) with rfl | rfl | rfl | rfl <;> exact ⟨_, by constructor <;> omega, rfl⟩)).mono ?_
            rintro e w6 ⟨x, hx, rfl, hR, hG⟩
            have H6 := shade (H5.out.step hR (only_trans (only_of (World.grownBy_alloc _ _ _)) hG))
            have H9 := shade (H6.out.at0 x)
            clear hR hG z0 zf H5
            have z0 := H6.out.var.look 0; have zf := H6.out.var.free 0
            simp at z0
            have x0 := H9.out.var.look 0; have x1 := H9.out.var.look 1; have x2 := H9.out.var.look 2
            have y0 := H9.out.res.look 0; have y1 := H9.out.res.look 1; have y2 := H9.out.res.look 2
            have t0 := H9.out.res.free 0; have t1 := H9.out.res.free 1; have t2 := H9.out.res.free 2
            simp at x0 x1 x2 y0 y1 y2
            go_wp2_with fail
            have hH := ((H9.out.res.put 0 (.int .i64 x)).put 1 (.slice (some ⟨g1, 0, none⟩) 4 c1)).put 2 (.slice (some ⟨g2, 0, none⟩) 8 c2)
            simp at hH
            have hl := only_put (only_put (only_put H9.out.low (p := ⟨w.heap.size, 0, none⟩) (.inl (Nat.le_refl _)) (.int .i64 x)) (p := ⟨w.heap.size, 1, none⟩) (.inl (Nat.le_refl _)) (.slice (some ⟨g1, 0, none⟩) 4 c1)) (p := ⟨w.heap.size, 2, none⟩) (.inl (Nat.le_refl _)) (.slice (some ⟨g2, 0, none⟩) 8 c2)
            have m1 := ((H9.out.o1.far (r := w.heap.size) hl1 0 (.int .i64 x)).far (r := w.heap.size) hl1 1 (.slice (some ⟨g1, 0, none⟩) 4 c1)).far (r := w.heap.size) hl1 2 (.slice (some ⟨g2, 0, none⟩) 8 c2)
            have m2 := ((H9.out.o2.far (r := w.heap.size) hl2 0 (.int .i64 x)).far (r := w.heap.size) hl2 1 (.slice (some ⟨g1, 0, none⟩) 4 c1)).far (r := w.heap.size) hl2 2 (.slice (some ⟨g2, 0, none⟩) 8 c2)
            refine bodyPost_ret (results_cell_row rfl _ _ _ _ _ (0, 0) _ rfl hH Tryd.underlying26 rfl (by kernel_rfl)) rfl ?_
            exact ⟨x, _, 4, c1, _, 8, c2, f1, f2, rfl, m1.nums, m2.nums, ⟨by omega, by omega⟩, ⟨low_of m1 _, low_of m2 _⟩, hl⟩
          by_cases q1 : v = 1
          · subst q1
            have hN0 := only_drewN (only_refl w5 g) 1
            have H6 := shade (H5.out.step (w2 := w5.drew) H5.out.rd.drew hN0)
            have S0 := (H6.out.var.look 1).trans (show _ = some (Value.slice (some ⟨g1, 0, none⟩) 4 c1) from rfl)
            have H7 := shade (H6.out.step (w2 := w5.drew.alloc (.cells #[.int .i64 (-1), .int .i64 256] 3)) (H6.out.rd.alloc _) (only_of (World.grownBy_alloc _ _ _)))
            have S1 := (H7.out.var.look 1).trans (show _ = some (Value.slice (some ⟨g1, 0, none⟩) 4 c1) from rfl)
            clear hN0 H5
            go_wp2_with fail
            go_region_held3 (fun w' => w'.cell? ⟨B, 1, none⟩ = some (.slice (some ⟨g1, 0, none⟩) 4 c1)) (first | exact S0 | exact S1 | exact S8 | exact (World.cell?_setCell_far _ _ _ _ (fun e => H8.out.sep.1.2.2.2.1 e.symm)).trans S8)
              (first
                | (go_at_call 40; refine (one_rel (fun x => -1 ≤ x ∧ x ≤ 256) H7.out.rd (by omega) w5.heap.size 2 2 (by omega) (by omega) (by omega) (by have e : w5.drew.heap.size = w5.heap.size := rfl; have := H6.out.rd.blk.inside; omega) (by
                    intro j hj
                    rw [show w5.heap.size = w5.drew.heap.size from rfl, World.cell?_alloc_new]
                    rcases (show j = 0 ∨ j = 1 by omega) with rfl | rfl <;> exact ⟨_, by constructor <;> omega, rfl⟩)).mono ?_; rintro e w8 ⟨x, hx, rfl, hR, hG⟩; have H8 := shade (H7.out.step hR hG); have S8 := (H8.out.var.look 1).trans (show _ = some (Value.slice (some ⟨g1, 0, none⟩) 4 c1) from rfl); have b0 := H8.out.o1.nums.cell (j := 0) (by omega); have f0 := World.ownsRow.frozenAt H8.out.o1 0; rw [Nat.add_zero] at b0; clear hR hG))
            rename_i hHeld
            clear hHeld
            have H9 := shade (H8.out.put1 0 (by omega) x)
            generalize hw9 : (w8.setCell ⟨g1, 0, none⟩ (.int .i64 x)) = w9 at *
            clear S0 S1 S8 b0 f0 H8 H7 H6 hw9
            have x0 := H9.out.var.look 0; have x1 := H9.out.var.look 1; have x2 := H9.out.var.look 2
            have y0 := H9.out.res.look 0; have y1 := H9.out.res.look 1; have y2 := H9.out.res.look 2
            have t0 := H9.out.res.free 0; have t1 := H9.out.res.free 1; have t2 := H9.out.res.free 2
            simp at x0 x1 x2 y0 y1 y2
            go_wp2_with fail
            have hH := ((H9.out.res.put 0 (.int .i64 0)).put 1 (.slice (some ⟨g1, 0, none⟩) 4 c1)).put 2 (.slice (some ⟨g2, 0, none⟩) 8 c2)
            simp at hH
            have hl := only_put (only_put (only_put H9.out.low (p := ⟨w.heap.size, 0, none⟩) (.inl (Nat.le_refl _)) (.int .i64 0)) (p := ⟨w.heap.size, 1, none⟩) (.inl (Nat.le_refl _)) (.slice (some ⟨g1, 0, none⟩) 4 c1)) (p := ⟨w.heap.size, 2, none⟩) (.inl (Nat.le_refl _)) (.slice (some ⟨g2, 0, none⟩) 8 c2)
            have m1 := ((H9.out.o1.far (r := w.heap.size) hl1 0 (.int .i64 0)).far (r := w.heap.size) hl1 1 (.slice (some ⟨g1, 0, none⟩) 4 c1)).far (r := w.heap.size) hl1 2 (.slice (some ⟨g2, 0, none⟩) 8 c2)
            have m2 := ((H9.out.o2.far (r := w.heap.size) hl2 0 (.int .i64 0)).far (r := w.heap.size) hl2 1 (.slice (some ⟨g1, 0, none⟩) 4 c1)).far (r := w.heap.size) hl2 2 (.slice (some ⟨g2, 0, none⟩) 8 c2)
            refine bodyPost_ret (results_cell_row rfl _ _ _ _ _ (0, 0) _ rfl hH Tryd.underlying26 rfl (by kernel_rfl)) rfl ?_
            exact ⟨0, _, 4, c1, _, 8, c2, _, f2, rfl, m1.nums, m2.nums, ⟨by omega, by omega⟩, ⟨low_of m1 _, low_of m2 _⟩, hl⟩
          by_cases q2 : v = 2
          · subst q2
            have H9 := H5
            have x0 := H9.out.var.look 0; have x1 := H9.out.var.look 1; have x2 := H9.out.var.look 2
            have y0 := H9.out.res.look 0; have y1 := H9.out.res.look 1; have y2 := H9.out.res.look 2
            have t0 := H9.out.res.free 0; have t1 := H9.out.res.free 1; have t2 := H9.out.res.free 2
            simp at x0 x1 x2 y0 y1 y2
            have cp := (World.ownsRow.lt H9.out.o2 g2 rfl).2
            have cq := H9.out.o2.caps
            have ze := H9.out.var.free 2
            have sB := H9.out.sep.1.2.1
            have sC : B ≠ w.heap.size := by omega
            unfold maxLen at cq
            go_wp2_with fail
            have hH := (((H9.out.res.far (r := B) (by omega) 2 (.slice (some ⟨g2, 1, none⟩) 7 (c2 - 1))).put 0 (.int .i64 0)).put 1 (.slice (some ⟨g1, 0, none⟩) 4 c1)).put 2 (.slice (some ⟨g2, 1, none⟩) 7 (c2 - 1))
            simp at hH
            have hl := only_put (only_put (only_put (only_put H9.out.low (p := ⟨B, 2, none⟩) (.inl (by show w.heap.size ≤ B; omega)) (.slice (some ⟨g2, 1, none⟩) 7 (c2 - 1))) (p := ⟨w.heap.size, 0, none⟩) (.inl (Nat.le_refl _)) (.int .i64 0)) (p := ⟨w.heap.size, 1, none⟩) (.inl (Nat.le_refl _)) (.slice (some ⟨g1, 0, none⟩) 4 c1)) (p := ⟨w.heap.size, 2, none⟩) (.inl (Nat.le_refl _)) (.slice (some ⟨g2, 1, none⟩) 7 (c2 - 1))
            have m1 := (((H9.out.o1.far (r := B) (fun e => H9.out.sep.1.2.2.2.1 e.symm) 2 (.slice (some ⟨g2, 1, none⟩) 7 (c2 - 1))).far (r := w.heap.size) hl1 0 (.int .i64 0)).far (r := w.heap.size) hl1 1 (.slice (some ⟨g1, 0, none⟩) 4 c1)).far (r := w.heap.size) hl1 2 (.slice (some ⟨g2, 1, none⟩) 7 (c2 - 1))
            have m2 := (((H9.out.o2.far (r := B) (fun e => H9.out.sep.1.2.2.2.2 e.symm) 2 (.slice (some ⟨g2, 1, none⟩) 7 (c2 - 1))).far (r := w.heap.size) hl2 0 (.int .i64 0)).far (r := w.heap.size) hl2 1 (.slice (some ⟨g1, 0, none⟩) 4 c1)).far (r := w.heap.size) hl2 2 (.slice (some ⟨g2, 1, none⟩) 7 (c2 - 1))
            refine bodyPost_ret (results_cell_row rfl _ _ _ _ _ (0, 0) _ rfl hH Tryd.underlying26 rfl (by kernel_rfl)) rfl ?_
            exact ⟨0, _, 4, c1, some ⟨g2, 1, none⟩, 7, c2 - 1, f1, fun j => f2 (1 + j), rfl, m1.nums, .inr ⟨g2, 1, rfl, m2.lt.2, fun j hj => by
              have := m2.nums.cell (j := 1 + j) (by omega)
              rwa [Nat.zero_add] at this⟩, ⟨by omega, by omega⟩, ⟨low_of m1 _, low_of m2 _⟩, hl⟩
          · have H9 := H5
            have x0 := H9.out.var.look 0; have x1 := H9.out.var.look 1; have x2 := H9.out.var.look 2
            have y0 := H9.out.res.look 0; have y1 := H9.out.res.look 1; have y2 := H9.out.res.look 2
            have t0 := H9.out.res.free 0; have t1 := H9.out.res.free 1; have t2 := H9.out.res.free 2
            simp at x0 x1 x2 y0 y1 y2
            have q0 : (v == 0) = false := by rw [beq_eq_false_iff_ne]; exact q0
            have q1 : (v == 1) = false := by rw [beq_eq_false_iff_ne]; exact q1
            have q2 : (v == 2) = false := by rw [beq_eq_false_iff_ne]; exact q2
            go_wp2_with fail
            have hH := ((H9.out.res.put 0 (.int .i64 0)).put 1 (.slice (some ⟨g1, 0, none⟩) 4 c1)).put 2 (.slice (some ⟨g2, 0, none⟩) 8 c2)
            simp at hH
            have hl := only_put (only_put (only_put H9.out.low (p := ⟨w.heap.size, 0, none⟩) (.inl (Nat.le_refl _)) (.int .i64 0)) (p := ⟨w.heap.size, 1, none⟩) (.inl (Nat.le_refl _)) (.slice (some ⟨g1, 0, none⟩) 4 c1)) (p := ⟨w.heap.size, 2, none⟩) (.inl (Nat.le_refl _)) (.slice (some ⟨g2, 0, none⟩) 8 c2)
            have m1 := ((H9.out.o1.far (r := w.heap.size) hl1 0 (.int .i64 0)).far (r := w.heap.size) hl1 1 (.slice (some ⟨g1, 0, none⟩) 4 c1)).far (r := w.heap.size) hl1 2 (.slice (some ⟨g2, 0, none⟩) 8 c2)
            have m2 := ((H9.out.o2.far (r := w.heap.size) hl2 0 (.int .i64 0)).far (r := w.heap.size) hl2 1 (.slice (some ⟨g1, 0, none⟩) 4 c1)).far (r := w.heap.size) hl2 2 (.slice (some ⟨g2, 0, none⟩) 8 c2)
            refine bodyPost_ret (results_cell_row rfl _ _ _ _ _ (0, 0) _ rfl hH Tryd.underlying26 rfl (by kernel_rfl)) rfl ?_
            exact ⟨0, _, 4, c1, _, 8, c2, f1, f2, rfl, m1.nums, m2.nums, ⟨by omega, by omega⟩, ⟨low_of m1 _, low_of m2 _⟩, hl⟩

end Go.Proofs.YtcfnoihjpiklhaaDoor

namespace Go.Proofs.YtcfnoihjpiklhaaDoor
open Go.RowKit
/-- What someCode leaves; the reader goes on. -/
def SCRd (w : World) (g : Nat) (A : Option Addr) (n cap : Nat) (zs : List Int) (p : Nat) (e : Ending) (w' : World) : Prop :=
  ∃ (g' k c : Nat) (f : Nat → Ins), e = .returned (.slice (some ⟨g', 0, none⟩) k c) ∧ k ≤ 14 ∧ Code w' (some ⟨g', 0, none⟩) k f ∧ w.grownBy w' (some g) ∧ w.heap.size ≤ g' ∧ ∃ q, q ≤ p + 300 ∧ Rd w' g A n cap zs q
set_option maxHeartbeats 16000000 in
theorem someCode_rd {A : Option Addr} {n cap g : Nat} {zs : List Int} {p : Nat} {w : World} (h : Rd w g A n cap zs p) (hp : p + 400 < 1000000) :
    Calls Tryd.prog 25 #[.pointer (some ⟨g, 0, none⟩)] w (SCRd w g A n cap zs p) := by
  have hg := h.blk.inside
  have HL := shade (fun b off (hA : A = some ⟨b, off, none⟩) (hn : 0 < n) => h.low hA hn)
  have HR := shade h
  clear h
  go_enter Tryd.func25, Tryd.ntmps25
  go_wp2_with fail
  refine (one_rel (fun x => 0 ≤ x ∧ x ≤ 14) (HR.out.alloc _) (by omega) _ _ _ (by omega) (by omega) (by omega) (by omega) (by
    intro j hj
    rw [World.cell?_alloc_new]
    rcases (show j = 0 ∨ j = 1 ∨ j = 2 ∨ j = 3 ∨ j = 4 ∨ j = 5 ∨ j = 6 ∨ j = 7 ∨ j = 8 by omega) with rfl | rfl | rfl | rfl | rfl | rfl | rfl | rfl | rfl <;> exact ⟨_, by constructor <;> omega, rfl⟩)).mono ?_
  rintro e w1 ⟨x, ⟨n0, n1⟩, rfl, hR, hG⟩
  obtain ⟨nn, rfl⟩ := Int.eq_ofNat_of_zero_le n0
  have n2 : nn ≤ 14 := by omega
  have hT := only_trans (only_of (World.grownBy_alloc w _ none)) hG
  have hM : SCB w (w1.alloc (.cells #[] 37)) g A n cap zs (p + 1) (.slice (some ⟨w1.heap.size, 0, none⟩) 0 0) 0 (fun _ => zIns) :=
    ⟨hR.on (World.grownBy_alloc _ _ _), World.ownsRow_lit w1 #[] 0 hT.size (by decide) rfl, only_row hT (World.grownBy_alloc _ _ none) (by intro _ e; cases e), ⟨hg, HL.out⟩, (by intro e; injection e with e; cases e)⟩
  have HM := shade hM
  clear hM hR hG hT HR n0 n1
  go_wp2_with fail
  go_loopw [4] (fun v wr => ∃ (k q : Nat) (f : Nat → Ins), k ≤ nn ∧ q ≤ p + 1 + 13 * k ∧ SCB w wr g A n cap zs q v k f) (fun v _ => nn - lenOf v)
  case atStart => exact ⟨0, p + 1, _, Nat.zero_le _, by omega, HM.out⟩
  case round =>
    clear HM
    obtain ⟨k, p, f, hk, hq, hs⟩ := hrel
    obtain ⟨g', c', rfl, hC, hg'⟩ := hs.val
    have HS := shade hs
    clear hs hC
    by_cases hkn : k < nn
    · go_wp2_with fail
      refine (goodInstr_any nn (by omega) (by omega) HS.out.rd (by omega)).mono ?_
      rintro e w2 ⟨op, d, a, b, kk, q2, hq2, rfl, hR, hG⟩
      have H2 := HS.out.step hR hG
      clear hR hG HS
      go_upto_region 5 with (fail)
      have hP := Holds5.fresh w2 37 #[.string op, .int .i64 d, .int .i64 a, .int .i64 b, .int .i64 kk]
      have h3 := H2.on (World.grownBy_alloc w2 (.cells #[.string op, .int .i64 d, .int .i64 a, .int .i64 b, .int .i64 kk] 37) none)
      generalize w2.alloc (.cells #[.string op, .int .i64 d, .int .i64 a, .int .i64 b, .int .i64 kk] 37) = wc at *
      have bw := H2.low.size
      have bg := H2.sep.1
      have HQ := shade (fun j (e : (Value.slice (some ⟨g', 0, none⟩) k c').ownBlock = some j) => (World.ownsRow.lt H2.own j e).2)
      have H3 := shade h3
      have HP := shade hP
      clear H2 h3 hP
      have x0 := HP.out.look 0; have x1 := HP.out.look 1; have x2 := HP.out.look 2; have x3 := HP.out.look 3; have x4 := HP.out.look 4; have xf := HP.out.free 4; have xz := HP.out.inside
      simp at x0 x1 x2 x3 x4
      rcases e1 : (op.toList == [106, 109, 112]) with _ | _
      · rcases e2 : (op.toList == [98, 122]) with _ | _
        · have H7 := H3
          obtain ⟨i0, hi, hz0, hz1, hz2⟩ := info_parts info24
          go_wp2_with (first
            | (at_builtin; refine wpList_append_own _ rfl _ _ 23 rfl w.heap.size 37 i0 (.agg #[.string ⟨#[]⟩, .int .i64 0, .int .i64 0, .int .i64 0, .int .i64 0]) 5 48 Tryd.underlying23 hi hz0 hz1 hz2 rfl (by decide) _ _ _ rfl (H7.out.on (World.grownBy_alloc _ _ _)).own ⟨wc.heap.size, 0, none⟩ 1 1 [.string op, .int .i64 d, .int .i64 a, .int .i64 b, .int .i64 kk] rfl rfl (cells_new _ _ _ _ _ _ _) (one_cells _ _ _ _ _) (by unfold maxLen; omega) (by omega) (by have := H7.out.low.size; simp; omega) ?_)
            | go_in)
          intro v' w8 hown8 hgr8 hnil8
          rw [codeL_snoc k f ⟨op, d, a, b, kk⟩] at hown8
          have H8 := shade (H7.out.snoc (World.grownBy_alloc _ _ _) hown8 hgr8 hnil8)
          clear hown8 hgr8 hnil8 hi hz0 hz1 hz2
          go_wp2
          go_roundw
          case rel => exact ⟨k + 1, _, _, by omega, by omega, H8.out⟩
          case measure =>
            obtain ⟨A8, c8, e8, _⟩ := H8.out.val
            obtain ⟨A6, c6, e6, _⟩ := H7.out.val
            subst e8
            simp [lenOf]
            omega

        · by_cases hle : kk ≤ (k : Int)
          · go_wp2_with fail
            refine (pick_rel 3 H3.out.rd (by omega)).mono ?_
            rintro e w3 ⟨y, ⟨y0, y1, _⟩, rfl, hR, hG⟩
            have y2 := y1 (by omega)
            have H4 := shade (H3.out.step hR hG)
            have HP3 := shade (HP.out.grown hG (by intro e; injection e with e; omega))
            clear hR hG y1 H3 HP x0 x1 x2 x3 x4 xf xz
            have x0 := HP3.out.look 0; have x1 := HP3.out.look 1; have x2 := HP3.out.look 2; have x3 := HP3.out.look 3; have x4 := HP3.out.look 4; have xf := HP3.out.free 4; have xz := HP3.out.inside
            simp at x0 x1 x2 x3 x4
            by_cases hy : y = 0
            · subst hy
              have H7 := H4
              obtain ⟨i0, hi, hz0, hz1, hz2⟩ := info_parts info24
              go_wp2_with (first
                | (at_builtin; refine wpList_append_own _ rfl _ _ 23 rfl w.heap.size 37 i0 (.agg #[.string ⟨#[]⟩, .int .i64 0, .int .i64 0, .int .i64 0, .int .i64 0]) 5 48 Tryd.underlying23 hi hz0 hz1 hz2 rfl (by decide) _ _ _ rfl (H7.out.on (World.grownBy_alloc _ _ _)).own ⟨w3.heap.size, 0, none⟩ 1 1 [.string op, .int .i64 d, .int .i64 a, .int .i64 b, .int .i64 kk] rfl rfl (cells_new _ _ _ _ _ _ _) (one_cells _ _ _ _ _) (by unfold maxLen; omega) (by omega) (by have := H7.out.low.size; simp; omega) ?_)
                | go_in)
              intro v' w8 hown8 hgr8 hnil8
              rw [codeL_snoc k f ⟨op, d, a, b, kk⟩] at hown8
              have H8 := shade (H7.out.snoc (World.grownBy_alloc _ _ _) hown8 hgr8 hnil8)
              clear hown8 hgr8 hnil8 hi hz0 hz1 hz2
              go_wp2
              go_roundw
              case rel => exact ⟨k + 1, _, _, by omega, by omega, H8.out⟩
              case measure =>
                obtain ⟨A8, c8, e8, _⟩ := H8.out.val
                obtain ⟨A6, c6, e6, _⟩ := H7.out.val
                subst e8
                simp [lenOf]
                omega

            · have hy : 0 < y := by omega
              go_wp2_with fail
              refine (pick_rel 4 H4.out.rd (by omega)).mono ?_
              rintro e w4 ⟨z, ⟨z0, z1, _⟩, rfl, hR, hG⟩
              have z2 := z1 (by omega)
              have H5 := shade (H4.out.step hR hG)
              have HP4 := shade (HP3.out.grown hG (by intro e; injection e with e; omega))
              clear hR hG z1 H4 HP3 x0 x1 x2 x3 x4 xf xz
              have x0 := HP4.out.look 0; have x1 := HP4.out.look 1; have x2 := HP4.out.look 2; have x3 := HP4.out.look 3; have x4 := HP4.out.look 4; have xf := HP4.out.free 4; have xz := HP4.out.inside
              simp at x0 x1 x2 x3 x4
              by_cases hm : (k : Int) + 1 + z ≤ nn
              · go_upto_region 7 with (fail)
                have h6 := H5.out.far w2.heap.size 4 (.int .i64 ((k : Int) + 1 + z)) bw (fun j e => by have := HQ.out j e; omega)
                have hP6 := HP4.out.put 4 (.int .i64 ((k : Int) + 1 + z))
                simp at hP6
                generalize w4.setCell ⟨w2.heap.size, 4, none⟩ (.int .i64 ((k : Int) + 1 + z)) = w5 at *
                have H7 := shade h6
                have HP6 := shade hP6
                clear h6 hP6 H5 HP4 x0 x1 x2 x3 x4 xf xz
                have x0 := HP6.out.look 0; have x1 := HP6.out.look 1; have x2 := HP6.out.look 2; have x3 := HP6.out.look 3; have x4 := HP6.out.look 4; have xf := HP6.out.free 4; have xz := HP6.out.inside
                simp at x0 x1 x2 x3 x4
                obtain ⟨i0, hi, hz0, hz1, hz2⟩ := info_parts info24
                go_wp2_with (first
                  | (at_builtin; refine wpList_append_own _ rfl _ _ 23 rfl w.heap.size 37 i0 (.agg #[.string ⟨#[]⟩, .int .i64 0, .int .i64 0, .int .i64 0, .int .i64 0]) 5 48 Tryd.underlying23 hi hz0 hz1 hz2 rfl (by decide) _ _ _ rfl (H7.out.on (World.grownBy_alloc _ _ _)).own ⟨w5.heap.size, 0, none⟩ 1 1 [.string op, .int .i64 d, .int .i64 a, .int .i64 b, .int .i64 (k + 1 + z)] rfl rfl (cells_new _ _ _ _ _ _ _) (one_cells _ _ _ _ _) (by unfold maxLen; omega) (by omega) (by have := H7.out.low.size; simp; omega) ?_)
                  | go_in)
                intro v' w8 hown8 hgr8 hnil8
                rw [codeL_snoc k f ⟨op, d, a, b, (k + 1 + z)⟩] at hown8
                have H8 := shade (H7.out.snoc (World.grownBy_alloc _ _ _) hown8 hgr8 hnil8)
                clear hown8 hgr8 hnil8 hi hz0 hz1 hz2
                go_wp2
                go_roundw
                case rel => exact ⟨k + 1, _, _, by omega, by omega, H8.out⟩
                case measure =>
                  obtain ⟨A8, c8, e8, _⟩ := H8.out.val
                  obtain ⟨A6, c6, e6, _⟩ := H7.out.val
                  subst e8
                  simp [lenOf]
                  omega

              · have hm : (nn : Int) < (k : Int) + 1 + z := by omega
                go_upto_region 7 with (fail)
                have h6 := H5.out.far w2.heap.size 4 (.int .i64 (nn : Int)) bw (fun j e => by have := HQ.out j e; omega)
                have hP6 := HP4.out.put 4 (.int .i64 (nn : Int))
                simp at hP6
                generalize w4.setCell ⟨w2.heap.size, 4, none⟩ (.int .i64 (nn : Int)) = w5 at *
                have H7 := shade h6
                have HP6 := shade hP6
                clear h6 hP6 H5 HP4 x0 x1 x2 x3 x4 xf xz
                have x0 := HP6.out.look 0; have x1 := HP6.out.look 1; have x2 := HP6.out.look 2; have x3 := HP6.out.look 3; have x4 := HP6.out.look 4; have xf := HP6.out.free 4; have xz := HP6.out.inside
                simp at x0 x1 x2 x3 x4
                obtain ⟨i0, hi, hz0, hz1, hz2⟩ := info_parts info24
                go_wp2_with (first
                  | (at_builtin; refine wpList_append_own _ rfl _ _ 23 rfl w.heap.size 37 i0 (.agg #[.string ⟨#[]⟩, .int .i64 0, .int .i64 0, .int .i64 0, .int .i64 0]) 5 48 Tryd.underlying23 hi hz0 hz1 hz2 rfl (by decide) _ _ _ rfl (H7.out.on (World.grownBy_alloc _ _ _)).own ⟨w5.heap.size, 0, none⟩ 1 1 [.string op, .int .i64 d, .int .i64 a, .int .i64 b, .int .i64 nn] rfl rfl (cells_new _ _ _ _ _ _ _) (one_cells _ _ _ _ _) (by unfold maxLen; omega) (by omega) (by have := H7.out.low.size; simp; omega) ?_)
                  | go_in)
                intro v' w8 hown8 hgr8 hnil8
                rw [codeL_snoc k f ⟨op, d, a, b, nn⟩] at hown8
                have H8 := shade (H7.out.snoc (World.grownBy_alloc _ _ _) hown8 hgr8 hnil8)
                clear hown8 hgr8 hnil8 hi hz0 hz1 hz2
                go_wp2
                go_roundw
                case rel => exact ⟨k + 1, _, _, by omega, by omega, H8.out⟩
                case measure =>
                  obtain ⟨A8, c8, e8, _⟩ := H8.out.val
                  obtain ⟨A6, c6, e6, _⟩ := H7.out.val
                  subst e8
                  simp [lenOf]
                  omega

          · have hle : (k : Int) < kk := by omega
            have H7 := H3
            obtain ⟨i0, hi, hz0, hz1, hz2⟩ := info_parts info24
            go_wp2_with (first
              | (at_builtin; refine wpList_append_own _ rfl _ _ 23 rfl w.heap.size 37 i0 (.agg #[.string ⟨#[]⟩, .int .i64 0, .int .i64 0, .int .i64 0, .int .i64 0]) 5 48 Tryd.underlying23 hi hz0 hz1 hz2 rfl (by decide) _ _ _ rfl (H7.out.on (World.grownBy_alloc _ _ _)).own ⟨wc.heap.size, 0, none⟩ 1 1 [.string op, .int .i64 d, .int .i64 a, .int .i64 b, .int .i64 kk] rfl rfl (cells_new _ _ _ _ _ _ _) (one_cells _ _ _ _ _) (by unfold maxLen; omega) (by omega) (by have := H7.out.low.size; simp; omega) ?_)
              | go_in)
            intro v' w8 hown8 hgr8 hnil8
            rw [codeL_snoc k f ⟨op, d, a, b, kk⟩] at hown8
            have H8 := shade (H7.out.snoc (World.grownBy_alloc _ _ _) hown8 hgr8 hnil8)
            clear hown8 hgr8 hnil8 hi hz0 hz1 hz2
            go_wp2
            go_roundw
            case rel => exact ⟨k + 1, _, _, by omega, by omega, H8.out⟩
            case measure =>
              obtain ⟨A8, c8, e8, _⟩ := H8.out.val
              obtain ⟨A6, c6, e6, _⟩ := H7.out.val
              subst e8
              simp [lenOf]
              omega

      · by_cases hle : kk ≤ (k : Int)
        · go_wp2_with fail
          refine (pick_rel 3 H3.out.rd (by omega)).mono ?_
          rintro e w3 ⟨y, ⟨y0, y1, _⟩, rfl, hR, hG⟩
          have y2 := y1 (by omega)
          have H4 := shade (H3.out.step hR hG)
          have HP3 := shade (HP.out.grown hG (by intro e; injection e with e; omega))
          clear hR hG y1 H3 HP x0 x1 x2 x3 x4 xf xz
          have x0 := HP3.out.look 0; have x1 := HP3.out.look 1; have x2 := HP3.out.look 2; have x3 := HP3.out.look 3; have x4 := HP3.out.look 4; have xf := HP3.out.free 4; have xz := HP3.out.inside
          simp at x0 x1 x2 x3 x4
          by_cases hy : y = 0
          · subst hy
            have H7 := H4
            obtain ⟨i0, hi, hz0, hz1, hz2⟩ := info_parts info24
            go_wp2_with (first
              | (at_builtin; refine wpList_append_own _ rfl _ _ 23 rfl w.heap.size 37 i0 (.agg #[.string ⟨#[]⟩, .int .i64 0, .int .i64 0, .int .i64 0, .int .i64 0]) 5 48 Tryd.underlying23 hi hz0 hz1 hz2 rfl (by decide) _ _ _ rfl (H7.out.on (World.grownBy_alloc _ _ _)).own ⟨w3.heap.size, 0, none⟩ 1 1 [.string op, .int .i64 d, .int .i64 a, .int .i64 b, .int .i64 kk] rfl rfl (cells_new _ _ _ _ _ _ _) (one_cells _ _ _ _ _) (by unfold maxLen; omega) (by omega) (by have := H7.out.low.size; simp; omega) ?_)
              | go_in)
            intro v' w8 hown8 hgr8 hnil8
            rw [codeL_snoc k f ⟨op, d, a, b, kk⟩] at hown8
            have H8 := shade (H7.out.snoc (World.grownBy_alloc _ _ _) hown8 hgr8 hnil8)
            clear hown8 hgr8 hnil8 hi hz0 hz1 hz2
            go_wp2
            go_roundw
            case rel => exact ⟨k + 1, _, _, by omega, by omega, H8.out⟩
            case measure =>
              obtain ⟨A8, c8, e8, _⟩ := H8.out.val
              obtain ⟨A6, c6, e6, _⟩ := H7.out.val
              subst e8
              simp [lenOf]
              omega

          · have hy : 0 < y := by omega
            go_wp2_with fail
            refine (pick_rel 4 H4.out.rd (by omega)).mono ?_
            rintro e w4 ⟨z, ⟨z0, z1, _⟩, rfl, hR, hG⟩
            have z2 := z1 (by omega)
            have H5 := shade (H4.out.step hR hG)
            have HP4 := shade (HP3.out.grown hG (by intro e; injection e with e; omega))
            clear hR hG z1 H4 HP3 x0 x1 x2 x3 x4 xf xz
            have x0 := HP4.out.look 0; have x1 := HP4.out.look 1; have x2 := HP4.out.look 2; have x3 := HP4.out.look 3; have x4 := HP4.out.look 4; have xf := HP4.out.free 4; have xz := HP4.out.inside
            simp at x0 x1 x2 x3 x4
            by_cases hm : (k : Int) + 1 + z ≤ nn
            · go_upto_region 7 with (fail)
              have h6 := H5.out.far w2.heap.size 4 (.int .i64 ((k : Int) + 1 + z)) bw (fun j e => by have := HQ.out j e; omega)
              have hP6 := HP4.out.put 4 (.int .i64 ((k : Int) + 1 + z))
              simp at hP6
              generalize w4.setCell ⟨w2.heap.size, 4, none⟩ (.int .i64 ((k : Int) + 1 + z)) = w5 at *
              have H7 := shade h6
              have HP6 := shade hP6
              clear h6 hP6 H5 HP4 x0 x1 x2 x3 x4 xf xz
              have x0 := HP6.out.look 0; have x1 := HP6.out.look 1; have x2 := HP6.out.look 2; have x3 := HP6.out.look 3; have x4 := HP6.out.look 4; have xf := HP6.out.free 4; have xz := HP6.out.inside
              simp at x0 x1 x2 x3 x4
              obtain ⟨i0, hi, hz0, hz1, hz2⟩ := info_parts info24
              go_wp2_with (first
                | (at_builtin; refine wpList_append_own _ rfl _ _ 23 rfl w.heap.size 37 i0 (.agg #[.string ⟨#[]⟩, .int .i64 0, .int .i64 0, .int .i64 0, .int .i64 0]) 5 48 Tryd.underlying23 hi hz0 hz1 hz2 rfl (by decide) _ _ _ rfl (H7.out.on (World.grownBy_alloc _ _ _)).own ⟨w5.heap.size, 0, none⟩ 1 1 [.string op, .int .i64 d, .int .i64 a, .int .i64 b, .int .i64 (k + 1 + z)] rfl rfl (cells_new _ _ _ _ _ _ _) (one_cells _ _ _ _ _) (by unfold maxLen; omega) (by omega) (by have := H7.out.low.size; simp; omega) ?_)
                | go_in)
              intro v' w8 hown8 hgr8 hnil8
              rw [codeL_snoc k f ⟨op, d, a, b, (k + 1 + z)⟩] at hown8
              have H8 := shade (H7.out.snoc (World.grownBy_alloc _ _ _) hown8 hgr8 hnil8)
              clear hown8 hgr8 hnil8 hi hz0 hz1 hz2
              go_wp2
              go_roundw
              case rel => exact ⟨k + 1, _, _, by omega, by omega, H8.out⟩
              case measure =>
                obtain ⟨A8, c8, e8, _⟩ := H8.out.val
                obtain ⟨A6, c6, e6, _⟩ := H7.out.val
                subst e8
                simp [lenOf]
                omega

            · have hm : (nn : Int) < (k : Int) + 1 + z := by omega
              go_upto_region 7 with (fail)
              have h6 := H5.out.far w2.heap.size 4 (.int .i64 (nn : Int)) bw (fun j e => by have := HQ.out j e; omega)
              have hP6 := HP4.out.put 4 (.int .i64 (nn : Int))
              simp at hP6
              generalize w4.setCell ⟨w2.heap.size, 4, none⟩ (.int .i64 (nn : Int)) = w5 at *
              have H7 := shade h6
              have HP6 := shade hP6
              clear h6 hP6 H5 HP4 x0 x1 x2 x3 x4 xf xz
              have x0 := HP6.out.look 0; have x1 := HP6.out.look 1; have x2 := HP6.out.look 2; have x3 := HP6.out.look 3; have x4 := HP6.out.look 4; have xf := HP6.out.free 4; have xz := HP6.out.inside
              simp at x0 x1 x2 x3 x4
              obtain ⟨i0, hi, hz0, hz1, hz2⟩ := info_parts info24
              go_wp2_with (first
                | (at_builtin; refine wpList_append_own _ rfl _ _ 23 rfl w.heap.size 37 i0 (.agg #[.string ⟨#[]⟩, .int .i64 0, .int .i64 0, .int .i64 0, .int .i64 0]) 5 48 Tryd.underlying23 hi hz0 hz1 hz2 rfl (by decide) _ _ _ rfl (H7.out.on (World.grownBy_alloc _ _ _)).own ⟨w5.heap.size, 0, none⟩ 1 1 [.string op, .int .i64 d, .int .i64 a, .int .i64 b, .int .i64 nn] rfl rfl (cells_new _ _ _ _ _ _ _) (one_cells _ _ _ _ _) (by unfold maxLen; omega) (by omega) (by have := H7.out.low.size; simp; omega) ?_)
                | go_in)
              intro v' w8 hown8 hgr8 hnil8
              rw [codeL_snoc k f ⟨op, d, a, b, nn⟩] at hown8
              have H8 := shade (H7.out.snoc (World.grownBy_alloc _ _ _) hown8 hgr8 hnil8)
              clear hown8 hgr8 hnil8 hi hz0 hz1 hz2
              go_wp2
              go_roundw
              case rel => exact ⟨k + 1, _, _, by omega, by omega, H8.out⟩
              case measure =>
                obtain ⟨A8, c8, e8, _⟩ := H8.out.val
                obtain ⟨A6, c6, e6, _⟩ := H7.out.val
                subst e8
                simp [lenOf]
                omega

        · have hle : (k : Int) < kk := by omega
          have H7 := H3
          obtain ⟨i0, hi, hz0, hz1, hz2⟩ := info_parts info24
          go_wp2_with (first
            | (at_builtin; refine wpList_append_own _ rfl _ _ 23 rfl w.heap.size 37 i0 (.agg #[.string ⟨#[]⟩, .int .i64 0, .int .i64 0, .int .i64 0, .int .i64 0]) 5 48 Tryd.underlying23 hi hz0 hz1 hz2 rfl (by decide) _ _ _ rfl (H7.out.on (World.grownBy_alloc _ _ _)).own ⟨wc.heap.size, 0, none⟩ 1 1 [.string op, .int .i64 d, .int .i64 a, .int .i64 b, .int .i64 kk] rfl rfl (cells_new _ _ _ _ _ _ _) (one_cells _ _ _ _ _) (by unfold maxLen; omega) (by omega) (by have := H7.out.low.size; simp; omega) ?_)
            | go_in)
          intro v' w8 hown8 hgr8 hnil8
          rw [codeL_snoc k f ⟨op, d, a, b, kk⟩] at hown8
          have H8 := shade (H7.out.snoc (World.grownBy_alloc _ _ _) hown8 hgr8 hnil8)
          clear hown8 hgr8 hnil8 hi hz0 hz1 hz2
          go_wp2
          go_roundw
          case rel => exact ⟨k + 1, _, _, by omega, by omega, H8.out⟩
          case measure =>
            obtain ⟨A8, c8, e8, _⟩ := H8.out.val
            obtain ⟨A6, c6, e6, _⟩ := H7.out.val
            subst e8
            simp [lenOf]
            omega

    · have hkn2 : k = nn := by omega
      subst hkn2
      by_cases h0 : k = 0
      · subst h0
        go_wp2_with fail
        go_ret
        exact ⟨g', 0, c', f, rfl, by omega, .inl rfl, HS.out.low, hg', _, by omega, HS.out.rd⟩
      · have h0' : (0 : Int) < k := by omega
        go_wp2_with fail
        refine (pick_rel 40 HS.out.rd (by omega)).mono ?_
        rintro e w5 ⟨y, ⟨y0, y1, _⟩, rfl, hR, hG⟩
        have H5 := shade (HS.out.step hR hG)
        clear hR hG HS
        by_cases hy : y = 0
        · subst hy
          go_wp2_with fail
          refine (pick_rel k H5.out.rd (by omega)).mono ?_
          rintro e w6 ⟨z, ⟨z0, z1, _⟩, rfl, hR, hG⟩
          have z2 := z1 (by omega)
          obtain ⟨z, rfl⟩ := Int.eq_ofNat_of_zero_le z0
          have H6 := shade (H5.out.step hR hG)
          clear hR hG H5 z0 z1
          have ho : OwnC w6 w.heap.size (some ⟨g', 0, none⟩) k c' f := H6.out.own
          have hz : z < k := by omega
          obtain ⟨p0, p1, p2, p3, p4⟩ := (OwnC.code ho).five hz
          have t0 := World.ownsRow.frozenAt ho (z * 5); have t1 := World.ownsRow.frozenAt ho (z * 5 + 1); have t2 := World.ownsRow.frozenAt ho (z * 5 + 2); have t3 := World.ownsRow.frozenAt ho (z * 5 + 3); have t4 := World.ownsRow.frozenAt ho (z * 5 + 4)
          simp only [Nat.zero_add] at p0 p1 p2 p3 p4
          have HO := shade (OwnC.put ho z ⟨⟨#[106, 109, 112]⟩, 0, 0, 0, (k : Int) + 1⟩)
          have HRD := shade (((((H6.out.rd.far (q := ⟨g', z * 5, none⟩) (.string ⟨#[106, 109, 112]⟩) (by show g ≠ g'; have := H6.out.sep.1; omega) (fun b off hA hn => by show b ≠ g'; have := H6.out.sep.2 b off hA hn; omega)).far (q := ⟨g', z * 5 + 1, none⟩) (.int .i64 0) (by show g ≠ g'; have := H6.out.sep.1; omega) (fun b off hA hn => by show b ≠ g'; have := H6.out.sep.2 b off hA hn; omega)).far (q := ⟨g', z * 5 + 2, none⟩) (.int .i64 0) (by show g ≠ g'; have := H6.out.sep.1; omega) (fun b off hA hn => by show b ≠ g'; have := H6.out.sep.2 b off hA hn; omega)).far (q := ⟨g', z * 5 + 3, none⟩) (.int .i64 0) (by show g ≠ g'; have := H6.out.sep.1; omega) (fun b off hA hn => by show b ≠ g'; have := H6.out.sep.2 b off hA hn; omega)).far (q := ⟨g', z * 5 + 4, none⟩) (.int .i64 ((k : Int) + 1)) (by show g ≠ g'; have := H6.out.sep.1; omega) (fun b off hA hn => by show b ≠ g'; have := H6.out.sep.2 b off hA hn; omega))
          have HL := shade (only_row (only_row (only_row (only_row (only_row H6.out.low (grown_set g' (z * 5) (.string ⟨#[106, 109, 112]⟩)) (by intro _ e; injection e; omega)) (grown_set g' (z * 5 + 1) (.int .i64 0)) (by intro _ e; injection e; omega)) (grown_set g' (z * 5 + 2) (.int .i64 0)) (by intro _ e; injection e; omega)) (grown_set g' (z * 5 + 3) (.int .i64 0)) (by intro _ e; injection e; omega)) (grown_set g' (z * 5 + 4) (.int .i64 ((k : Int) + 1))) (by intro _ e; injection e; omega))
          clear ho
          go_wp2_with fail
          go_ret
          exact ⟨_, k, c', _, rfl, by omega, OwnC.code HO.out, HL.out, hg', _, by omega, HRD.out⟩
        · have hy : (y == 0) = false := by rw [beq_eq_false_iff_ne]; exact hy
          go_wp2_with fail
          go_ret
          exact ⟨_, k, c', f, rfl, by omega, OwnC.code H5.out.own, H5.out.low, hg', _, by omega, H5.out.rd⟩
/-- What someMachine leaves: some machine whose numbers can be read; only the reader has changed. -/
def SMRd (w : World) (g : Nat) (A : Option Addr) (n cap : Nat) (zs : List Int) (p : Nat) (e : Ending) (w' : World) : Prop :=
  ∃ (at' : Int) (A1 : Option Addr) (n1 c1 : Nat) (A2 : Option Addr) (n2 c2 : Nat) (f1 f2 : Nat → Int), e = .returned (MV at' A1 n1 c1 A2 n2 c2) ∧ Nums w' A1 n1 f1 ∧ Nums w' A2 n2 f2 ∧ (n1 ≤ 8 ∧ n2 ≤ 8) ∧ ((∀ b off, A1 = some ⟨b, off, none⟩ → w.heap.size + 1 ≤ b) ∧ ∀ b off, A2 = some ⟨b, off, none⟩ → w.heap.size + 1 ≤ b) ∧ w.grownBy w' (some g) ∧ ∃ q, q ≤ p + 90 ∧ Rd w' g A n cap zs q


set_option maxHeartbeats 8000000 in
theorem someMachine_rd {A : Option Addr} {n cap g : Nat} {zs : List Int} {p : Nat} {w : World} (h : Rd w g A n cap zs p) (hp : p + 100 < 1000000) :
    Calls Tryd.prog 26 #[.pointer (some ⟨g, 0, none⟩)] w (SMRd w g A n cap zs p) := by
  have hg := h.blk.inside
  have HL := shade (fun b off (hA : A = some ⟨b, off, none⟩) (hn : 0 < n) => h.low hA hn)
  have HR0 := shade (h.alloc (.cells #[.int .i64 0, .slice none 0 0, .slice none 0 0] 26))
  have HSN := shade (specNewMachine_any (w.alloc (.cells #[.int .i64 0, .slice none 0 0, .slice none 0 0] 26)))
  clear h
  go_enter Tryd.func26, Tryd.ntmps26
  go_wp2_with fail
  refine HSN.out.mono ?_
  rintro e w1 ⟨g1, c1, g2, c2, rfl, hne, ho1, ho2, hgr⟩
  rw [World.size_alloc] at ho1 ho2
  have hA := World.grownBy_alloc w1 (.cells #[.int .i64 0, .slice (some ⟨g1, 0, none⟩) 4 c1, .slice (some ⟨g2, 0, none⟩) 8 c2] 26) none
  have hB := grown_same hgr hA
  have l1 := ho1.lt
  have l2 := ho2.lt
  have z1 := hgr.size
  rw [World.size_alloc] at z1
  have hM : SMB w (w1.alloc (.cells #[.int .i64 0, .slice (some ⟨g1, 0, none⟩) 4 c1, .slice (some ⟨g2, 0, none⟩) 8 c2] 26)) g w1.heap.size A n cap zs p 0 g1 c1 g2 c2 (fun _ => 0) (fun _ => 0) :=
    ⟨(HR0.out.below (below_of_grown hgr)).alloc _, (Holds5.fresh w 26 #[.int .i64 0, .slice none 0 0, .slice none 0 0]).grown hB (by intro e; cases e), Holds5.fresh _ _ _, ho1.on hA, ho2.on hA, only_of (grown_same (World.grownBy_alloc _ _ _) hB), ⟨hg, by omega, hne, by omega, by omega⟩, HL.out⟩
  obtain ⟨B, hBB⟩ : ∃ B, w1.heap.size = B := ⟨_, rfl⟩
  obtain ⟨W2, hW2⟩ : ∃ W2, w1.alloc (.cells #[.int .i64 0, .slice (some ⟨g1, 0, none⟩) 4 c1, .slice (some ⟨g2, 0, none⟩) 8 c2] 26) = W2 := ⟨_, rfl⟩
  rw [hW2, hBB] at hM
  have HM := shade hM
  have HW2 := shade hW2
  have HBB := shade hBB
  clear hM hW2 hBB hA hB ho1 ho2 hgr HR0 HSN l1 l2 z1
  go_wp2_with fail
  rw [HW2.out, HBB.out]
  clear HW2 HBB
  go_wp2_with fail
  go_loopw [4] (fun i wr => ∃ (k q : Nat) (f1 : Nat → Int), k ≤ 4 ∧ i = .int .i64 k ∧ q ≤ p + 3 * k ∧ SMB w wr g B A n cap zs q 0 g1 c1 g2 c2 f1 (fun _ => 0)) (fun i _ => 4 - (intOf i).toNat)
  case atStart => exact ⟨0, p, _, Nat.zero_le _, rfl, by omega, HM.out⟩
  case round =>
    obtain ⟨k, p, f1, hk, rfl, hq0, hs⟩ := hrel
    by_cases hkn : k < 4
    · go_wp2_with fail
      have HS := shade hs
      clear hs
      have hN0 := only_drewN (only_refl wr g) 1
      have H0 := shade (HS.out.step (w2 := wr.drew) (p2 := p) HS.out.rd.drew hN0)
      have S0 := (H0.out.var.look 1).trans (show _ = some (Value.slice (some ⟨g1, 0, none⟩) 4 c1) from rfl)
      clear HS hN0
      go_region_held3 (fun w' => w'.cell? ⟨B, 1, none⟩ = some (.slice (some ⟨g1, 0, none⟩) 4 c1)) (first | exact S0 | exact S1 | exact S2 | exact S3 | exact S4 | exact (World.cell?_setCell_far _ _ _ _ (fun e => H4.out.sep.1.2.2.2.1 e.symm)).trans S4)
        (first
          | (have hq := H3; go_at_call 40; refine (one_rel (fun x => 0 ≤ x ∧ x ≤ 255) H3.out.rd (by omega) _ _ _ (by omega) (by omega) (by omega) (by have := H2.out.sep; have := H2.out.rd.blk.inside; omega) (by
              intro j hj
              rw [World.cell?_alloc_new]
              rcases (show j = 0 ∨ j = 1 ∨ j = 2 by omega) with rfl | rfl | rfl <;> exact ⟨_, by constructor <;> omega, rfl⟩)).mono ?_; rintro e w4 ⟨x, hx, rfl, hR, hG⟩; have H4 := shade (H3.out.step hR hG); have S4 := (H4.out.var.look 1).trans (show _ = some (Value.slice (some ⟨g1, 0, none⟩) 4 c1) from rfl); have b0 := (H4.out.o1).nums.cell hkn; have f0 := World.ownsRow.frozenAt (H4.out.o1) k; rw [Nat.zero_add] at b0; clear hR hG)
          | (have hq := H1; go_at_call 42; refine (pick_rel 256 H1.out.rd (by omega)).mono ?_; rintro e w2 ⟨y2, ⟨y2a, y2b, _⟩, rfl, hR, hG⟩; have y2c := y2b (by omega); have H2 := shade (H1.out.step hR hG); have S2 := (H2.out.var.look 1).trans (show _ = some (Value.slice (some ⟨g1, 0, none⟩) 4 c1) from rfl); have H3 := shade (H2.out.step (w2 := w2.alloc (.cells #[.int .i64 y1, .int .i64 y2, .int .i64 0] 3)) (H2.out.rd.alloc _) (only_of (World.grownBy_alloc _ _ _))); have S3 := (H3.out.var.look 1).trans (show _ = some (Value.slice (some ⟨g1, 0, none⟩) 4 c1) from rfl); clear hR hG y2b)
          | (go_at_call 42; refine (pick_rel 4 H0.out.rd (by omega)).mono ?_; rintro e w1 ⟨y1, ⟨y1a, y1b, _⟩, rfl, hR, hG⟩; have y1c := y1b (by omega); have H1 := shade (H0.out.step hR hG); have S1 := (H1.out.var.look 1).trans (show _ = some (Value.slice (some ⟨g1, 0, none⟩) 4 c1) from rfl); clear hR hG y1b))
      rename_i hHeld
      clear hHeld
      go_wp2_with fail
      go_roundw
      case rel => exact ⟨k + 1, _, _, by omega, by go_num, by omega, H4.out.put1 k hkn x⟩
      case measure => simp [intOf]; omega
    · have hkn2 : k = 4 := by omega
      subst hkn2
      have HS := shade hs
      clear hs
      go_wp2_with fail
      go_loopw [5] (fun i wr => ∃ (k q : Nat) (f2 : Nat → Int), k ≤ 8 ∧ i = .int .i64 k ∧ q ≤ p + 3 * k ∧ SMB w wr g B A n cap zs q 0 g1 c1 g2 c2 f1 f2) (fun i _ => 8 - (intOf i).toNat)
      case atStart => exact ⟨0, p, _, Nat.zero_le _, rfl, by omega, HS.out⟩
      case round =>
        clear HS
        obtain ⟨k, p, f2, hk, rfl, hq0, hs⟩ := hrel
        by_cases hkn : k < 8
        · go_wp2_with fail
          have HS := shade hs
          clear hs
          have hN0 := only_drewN (only_refl wr g) 1
          have H0 := shade (HS.out.step (w2 := wr.drew) (p2 := p) HS.out.rd.drew hN0)
          have S0 := (H0.out.var.look 2).trans (show _ = some (Value.slice (some ⟨g2, 0, none⟩) 8 c2) from rfl)
          clear HS hN0
          go_region_held3 (fun w' => w'.cell? ⟨B, 2, none⟩ = some (.slice (some ⟨g2, 0, none⟩) 8 c2)) (first | exact S0 | exact S1 | exact S2 | exact S3 | exact S4 | exact (World.cell?_setCell_far _ _ _ _ (fun e => H4.out.sep.1.2.2.2.2 e.symm)).trans S4)
            (first
              | (have hq := H3; go_at_call 40; refine (one_rel (fun x => 0 ≤ x ∧ x ≤ 255) H3.out.rd (by omega) _ _ _ (by omega) (by omega) (by omega) (by have := H2.out.sep; have := H2.out.rd.blk.inside; omega) (by
                  intro j hj
                  rw [World.cell?_alloc_new]
                  rcases (show j = 0 ∨ j = 1 ∨ j = 2 ∨ j = 3 by omega) with rfl | rfl | rfl | rfl <;> exact ⟨_, by constructor <;> omega, rfl⟩)).mono ?_; rintro e w4 ⟨x, hx, rfl, hR, hG⟩; have H4 := shade (H3.out.step hR hG); have S4 := (H4.out.var.look 2).trans (show _ = some (Value.slice (some ⟨g2, 0, none⟩) 8 c2) from rfl); have b0 := (H4.out.o2).nums.cell hkn; have f0 := World.ownsRow.frozenAt (H4.out.o2) k; rw [Nat.zero_add] at b0; clear hR hG)
              | (have hq := H1; go_at_call 42; refine (pick_rel 256 H1.out.rd (by omega)).mono ?_; rintro e w2 ⟨y2, ⟨y2a, y2b, _⟩, rfl, hR, hG⟩; have y2c := y2b (by omega); have H2 := shade (H1.out.step hR hG); have S2 := (H2.out.var.look 2).trans (show _ = some (Value.slice (some ⟨g2, 0, none⟩) 8 c2) from rfl); have H3 := shade (H2.out.step (w2 := w2.alloc (.cells #[.int .i64 y1, .int .i64 y2, .int .i64 0, .int .i64 0] 3)) (H2.out.rd.alloc _) (only_of (World.grownBy_alloc _ _ _))); have S3 := (H3.out.var.look 2).trans (show _ = some (Value.slice (some ⟨g2, 0, none⟩) 8 c2) from rfl); clear hR hG y2b)
              | (go_at_call 42; refine (pick_rel 5 H0.out.rd (by omega)).mono ?_; rintro e w1 ⟨y1, ⟨y1a, y1b, _⟩, rfl, hR, hG⟩; have y1c := y1b (by omega); have H1 := shade (H0.out.step hR hG); have S1 := (H1.out.var.look 2).trans (show _ = some (Value.slice (some ⟨g2, 0, none⟩) 8 c2) from rfl); clear hR hG y1b))
          rename_i hHeld
          clear hHeld
          go_wp2_with fail
          go_roundw
          case rel =>
            exact ⟨_, _, _, _, _, _, _, _, _, _, _, _, _, _, _, _, ⟨k + 1, _, _, by omega, rfl, by omega, H4.out.put2 k hkn x⟩, rfl⟩
          case measure => simp [intOf]; omega
        · have hkn2 : k = 8 := by omega
          subst hkn2
          have HS := shade hs
          clear hs
          go_wp2_with fail
          refine (pick_rel 40 HS.out.rd (by omega)).mono ?_
          rintro e w5 ⟨v, ⟨v0, v1, _⟩, rfl, hR, hG⟩
          have v2 := v1 (by omega)
          have H5 := shade (HS.out.step hR hG)
          clear hR hG v1 HS HM HL
          obtain ⟨hl1, hl2⟩ : g1 ≠ w.heap.size ∧ g2 ≠ w.heap.size := by
            have l1 := H5.out.o1.lt
            have l2 := H5.out.o2.lt
            omega
          by_cases q0 : v = 0
          · subst q0
            have z0 := H5.out.var.look 0; have zf := H5.out.var.free 0; have zs := H5.out.var.inside
            simp at z0
            go_wp2_with fail
            refine (one_rel (fun x => -1 ≤ x ∧ x ≤ 41) (H5.out.rd.alloc _) (by omega) _ _ _ (by omega) (by omega) (by omega) (by have := H5.out.rd.blk.inside; omega) (by
              intro j hj
              rw [World.cell?_alloc_new]
              rcases (show j = 0 ∨ j = 1 ∨ j = 2 ∨ j = 3 by omega) with rfl | rfl | rfl | rfl <;> exact ⟨_, by constructor <;> omega, rfl⟩)).mono ?_
            rintro e w6 ⟨x, hx, rfl, hR, hG⟩
            have H6 := shade (H5.out.step hR (only_trans (only_of (World.grownBy_alloc _ _ _)) hG))
            have H9 := shade (H6.out.at0 x)
            clear hR hG z0 zf H5
            have z0 := H6.out.var.look 0; have zf := H6.out.var.free 0
            simp at z0
            have x0 := H9.out.var.look 0; have x1 := H9.out.var.look 1; have x2 := H9.out.var.look 2
            have y0 := H9.out.res.look 0; have y1 := H9.out.res.look 1; have y2 := H9.out.res.look 2
            have t0 := H9.out.res.free 0; have t1 := H9.out.res.free 1; have t2 := H9.out.res.free 2
            simp at x0 x1 x2 y0 y1 y2
            go_wp2_with fail
            have hH := ((H9.out.res.put 0 (.int .i64 x)).put 1 (.slice (some ⟨g1, 0, none⟩) 4 c1)).put 2 (.slice (some ⟨g2, 0, none⟩) 8 c2)
            simp at hH
            have sgw : g ≠ w.heap.size := by have := H9.out.sep.1.1; omega
            have sgB : g ≠ B := by have := H9.out.sep.1.1; have := H9.out.sep.1.2.1; omega
            have sbw : ∀ b off, A = some ⟨b, off, none⟩ → 0 < n → b ≠ w.heap.size := fun b off hA hn => by have := H9.out.sep.2 b off hA hn; omega
            have sbB : ∀ b off, A = some ⟨b, off, none⟩ → 0 < n → b ≠ B := fun b off hA hn => by have := H9.out.sep.2 b off hA hn; have := H9.out.sep.1.2.1; omega
            have hrd := (((H9.out.rd.far (q := ⟨w.heap.size, 0, none⟩) (.int .i64 x) sgw sbw).far (q := ⟨w.heap.size, 1, none⟩) (.slice (some ⟨g1, 0, none⟩) 4 c1) sgw sbw).far (q := ⟨w.heap.size, 2, none⟩) (.slice (some ⟨g2, 0, none⟩) 8 c2) sgw sbw)
            have hl := only_put (only_put (only_put H9.out.low (p := ⟨w.heap.size, 0, none⟩) (.inl (Nat.le_refl _)) (.int .i64 x)) (p := ⟨w.heap.size, 1, none⟩) (.inl (Nat.le_refl _)) (.slice (some ⟨g1, 0, none⟩) 4 c1)) (p := ⟨w.heap.size, 2, none⟩) (.inl (Nat.le_refl _)) (.slice (some ⟨g2, 0, none⟩) 8 c2)
            have m1 := ((H9.out.o1.far (r := w.heap.size) hl1 0 (.int .i64 x)).far (r := w.heap.size) hl1 1 (.slice (some ⟨g1, 0, none⟩) 4 c1)).far (r := w.heap.size) hl1 2 (.slice (some ⟨g2, 0, none⟩) 8 c2)
            have m2 := ((H9.out.o2.far (r := w.heap.size) hl2 0 (.int .i64 x)).far (r := w.heap.size) hl2 1 (.slice (some ⟨g1, 0, none⟩) 4 c1)).far (r := w.heap.size) hl2 2 (.slice (some ⟨g2, 0, none⟩) 8 c2)
            refine bodyPost_ret (results_cell_row rfl _ _ _ _ _ (0, 0) _ rfl hH Tryd.underlying26 rfl (by kernel_rfl)) rfl ?_
            exact ⟨x, _, 4, c1, _, 8, c2, f1, f2, rfl, m1.nums, m2.nums, ⟨by omega, by omega⟩, ⟨low_of m1 _, low_of m2 _⟩, hl, _, by omega, hrd⟩
          by_cases q1 : v = 1
          · subst q1
            have hN0 := only_drewN (only_refl w5 g) 1
            have H6 := shade (H5.out.step (w2 := w5.drew) H5.out.rd.drew hN0)
            have S0 := (H6.out.var.look 1).trans (show _ = some (Value.slice (some ⟨g1, 0, none⟩) 4 c1) from rfl)
            have H7 := shade (H6.out.step (w2 := w5.drew.alloc (.cells #[.int .i64 (-1), .int .i64 256] 3)) (H6.out.rd.alloc _) (only_of (World.grownBy_alloc _ _ _)))
            have S1 := (H7.out.var.look 1).trans (show _ = some (Value.slice (some ⟨g1, 0, none⟩) 4 c1) from rfl)
            clear hN0 H5
            go_wp2_with fail
            go_region_held3 (fun w' => w'.cell? ⟨B, 1, none⟩ = some (.slice (some ⟨g1, 0, none⟩) 4 c1)) (first | exact S0 | exact S1 | exact S8 | exact (World.cell?_setCell_far _ _ _ _ (fun e => H8.out.sep.1.2.2.2.1 e.symm)).trans S8)
              (first
                | (go_at_call 40; refine (one_rel (fun x => -1 ≤ x ∧ x ≤ 256) H7.out.rd (by omega) w5.heap.size 2 2 (by omega) (by omega) (by omega) (by have e : w5.drew.heap.size = w5.heap.size := rfl; have := H6.out.rd.blk.inside; omega) (by
                    intro j hj
                    rw [show w5.heap.size = w5.drew.heap.size from rfl, World.cell?_alloc_new]
                    rcases (show j = 0 ∨ j = 1 by omega) with rfl | rfl <;> exact ⟨_, by constructor <;> omega, rfl⟩)).mono ?_; rintro e w8 ⟨x, hx, rfl, hR, hG⟩; have H8 := shade (H7.out.step hR hG); have S8 := (H8.out.var.look 1).trans (show _ = some (Value.slice (some ⟨g1, 0, none⟩) 4 c1) from rfl); have b0 := H8.out.o1.nums.cell (j := 0) (by omega); have f0 := World.ownsRow.frozenAt H8.out.o1 0; rw [Nat.add_zero] at b0; clear hR hG))
            rename_i hHeld
            clear hHeld
            have H9 := shade (H8.out.put1 0 (by omega) x)
            generalize hw9 : (w8.setCell ⟨g1, 0, none⟩ (.int .i64 x)) = w9 at *
            clear S0 S1 S8 b0 f0 H8 H7 H6 hw9
            have x0 := H9.out.var.look 0; have x1 := H9.out.var.look 1; have x2 := H9.out.var.look 2
            have y0 := H9.out.res.look 0; have y1 := H9.out.res.look 1; have y2 := H9.out.res.look 2
            have t0 := H9.out.res.free 0; have t1 := H9.out.res.free 1; have t2 := H9.out.res.free 2
            simp at x0 x1 x2 y0 y1 y2
            go_wp2_with fail
            have hH := ((H9.out.res.put 0 (.int .i64 0)).put 1 (.slice (some ⟨g1, 0, none⟩) 4 c1)).put 2 (.slice (some ⟨g2, 0, none⟩) 8 c2)
            simp at hH
            have sgw : g ≠ w.heap.size := by have := H9.out.sep.1.1; omega
            have sgB : g ≠ B := by have := H9.out.sep.1.1; have := H9.out.sep.1.2.1; omega
            have sbw : ∀ b off, A = some ⟨b, off, none⟩ → 0 < n → b ≠ w.heap.size := fun b off hA hn => by have := H9.out.sep.2 b off hA hn; omega
            have sbB : ∀ b off, A = some ⟨b, off, none⟩ → 0 < n → b ≠ B := fun b off hA hn => by have := H9.out.sep.2 b off hA hn; have := H9.out.sep.1.2.1; omega
            have hrd := (((H9.out.rd.far (q := ⟨w.heap.size, 0, none⟩) (.int .i64 0) sgw sbw).far (q := ⟨w.heap.size, 1, none⟩) (.slice (some ⟨g1, 0, none⟩) 4 c1) sgw sbw).far (q := ⟨w.heap.size, 2, none⟩) (.slice (some ⟨g2, 0, none⟩) 8 c2) sgw sbw)
            have hl := only_put (only_put (only_put H9.out.low (p := ⟨w.heap.size, 0, none⟩) (.inl (Nat.le_refl _)) (.int .i64 0)) (p := ⟨w.heap.size, 1, none⟩) (.inl (Nat.le_refl _)) (.slice (some ⟨g1, 0, none⟩) 4 c1)) (p := ⟨w.heap.size, 2, none⟩) (.inl (Nat.le_refl _)) (.slice (some ⟨g2, 0, none⟩) 8 c2)
            have m1 := ((H9.out.o1.far (r := w.heap.size) hl1 0 (.int .i64 0)).far (r := w.heap.size) hl1 1 (.slice (some ⟨g1, 0, none⟩) 4 c1)).far (r := w.heap.size) hl1 2 (.slice (some ⟨g2, 0, none⟩) 8 c2)
            have m2 := ((H9.out.o2.far (r := w.heap.size) hl2 0 (.int .i64 0)).far (r := w.heap.size) hl2 1 (.slice (some ⟨g1, 0, none⟩) 4 c1)).far (r := w.heap.size) hl2 2 (.slice (some ⟨g2, 0, none⟩) 8 c2)
            refine bodyPost_ret (results_cell_row rfl _ _ _ _ _ (0, 0) _ rfl hH Tryd.underlying26 rfl (by kernel_rfl)) rfl ?_
            exact ⟨0, _, 4, c1, _, 8, c2, _, f2, rfl, m1.nums, m2.nums, ⟨by omega, by omega⟩, ⟨low_of m1 _, low_of m2 _⟩, hl, _, by omega, hrd⟩
          by_cases q2 : v = 2
          · subst q2
            have H9 := H5
            have x0 := H9.out.var.look 0; have x1 := H9.out.var.look 1; have x2 := H9.out.var.look 2
            have y0 := H9.out.res.look 0; have y1 := H9.out.res.look 1; have y2 := H9.out.res.look 2
            have t0 := H9.out.res.free 0; have t1 := H9.out.res.free 1; have t2 := H9.out.res.free 2
            simp at x0 x1 x2 y0 y1 y2
            have cp := (World.ownsRow.lt H9.out.o2 g2 rfl).2
            have cq := H9.out.o2.caps
            have ze := H9.out.var.free 2
            have sB := H9.out.sep.1.2.1
            have sC : B ≠ w.heap.size := by omega
            unfold maxLen at cq
            go_wp2_with fail
            have hH := (((H9.out.res.far (r := B) (by omega) 2 (.slice (some ⟨g2, 1, none⟩) 7 (c2 - 1))).put 0 (.int .i64 0)).put 1 (.slice (some ⟨g1, 0, none⟩) 4 c1)).put 2 (.slice (some ⟨g2, 1, none⟩) 7 (c2 - 1))
            simp at hH
            have sgw : g ≠ w.heap.size := by have := H9.out.sep.1.1; omega
            have sgB : g ≠ B := by have := H9.out.sep.1.1; have := H9.out.sep.1.2.1; omega
            have sbw : ∀ b off, A = some ⟨b, off, none⟩ → 0 < n → b ≠ w.heap.size := fun b off hA hn => by have := H9.out.sep.2 b off hA hn; omega
            have sbB : ∀ b off, A = some ⟨b, off, none⟩ → 0 < n → b ≠ B := fun b off hA hn => by have := H9.out.sep.2 b off hA hn; have := H9.out.sep.1.2.1; omega
            have hrd := ((((H9.out.rd.far (q := ⟨B, 2, none⟩) (.slice (some ⟨g2, 1, none⟩) 7 (c2 - 1)) sgB sbB).far (q := ⟨w.heap.size, 0, none⟩) (.int .i64 0) sgw sbw).far (q := ⟨w.heap.size, 1, none⟩) (.slice (some ⟨g1, 0, none⟩) 4 c1) sgw sbw).far (q := ⟨w.heap.size, 2, none⟩) (.slice (some ⟨g2, 1, none⟩) 7 (c2 - 1)) sgw sbw)
            have hl := only_put (only_put (only_put (only_put H9.out.low (p := ⟨B, 2, none⟩) (.inl (by show w.heap.size ≤ B; omega)) (.slice (some ⟨g2, 1, none⟩) 7 (c2 - 1))) (p := ⟨w.heap.size, 0, none⟩) (.inl (Nat.le_refl _)) (.int .i64 0)) (p := ⟨w.heap.size, 1, none⟩) (.inl (Nat.le_refl _)) (.slice (some ⟨g1, 0, none⟩) 4 c1)) (p := ⟨w.heap.size, 2, none⟩) (.inl (Nat.le_refl _)) (.slice (some ⟨g2, 1, none⟩) 7 (c2 - 1))
            have m1 := (((H9.out.o1.far (r := B) (fun e => H9.out.sep.1.2.2.2.1 e.symm) 2 (.slice (some ⟨g2, 1, none⟩) 7 (c2 - 1))).far (r := w.heap.size) hl1 0 (.int .i64 0)).far (r := w.heap.size) hl1 1 (.slice (some ⟨g1, 0, none⟩) 4 c1)).far (r := w.heap.size) hl1 2 (.slice (some ⟨g2, 1, none⟩) 7 (c2 - 1))
            have m2 := (((H9.out.o2.far (r := B) (fun e => H9.out.sep.1.2.2.2.2 e.symm) 2 (.slice (some ⟨g2, 1, none⟩) 7 (c2 - 1))).far (r := w.heap.size) hl2 0 (.int .i64 0)).far (r := w.heap.size) hl2 1 (.slice (some ⟨g1, 0, none⟩) 4 c1)).far (r := w.heap.size) hl2 2 (.slice (some ⟨g2, 1, none⟩) 7 (c2 - 1))
            refine bodyPost_ret (results_cell_row rfl _ _ _ _ _ (0, 0) _ rfl hH Tryd.underlying26 rfl (by kernel_rfl)) rfl ?_
            exact ⟨0, _, 4, c1, some ⟨g2, 1, none⟩, 7, c2 - 1, f1, fun j => f2 (1 + j), rfl, m1.nums, .inr ⟨g2, 1, rfl, m2.lt.2, fun j hj => by
              have := m2.nums.cell (j := 1 + j) (by omega)
              rwa [Nat.zero_add] at this⟩, ⟨by omega, by omega⟩, ⟨low_of m1 _, low_of m2 _⟩, hl, _, by omega, hrd⟩
          · have H9 := H5
            have x0 := H9.out.var.look 0; have x1 := H9.out.var.look 1; have x2 := H9.out.var.look 2
            have y0 := H9.out.res.look 0; have y1 := H9.out.res.look 1; have y2 := H9.out.res.look 2
            have t0 := H9.out.res.free 0; have t1 := H9.out.res.free 1; have t2 := H9.out.res.free 2
            simp at x0 x1 x2 y0 y1 y2
            have q0 : (v == 0) = false := by rw [beq_eq_false_iff_ne]; exact q0
            have q1 : (v == 1) = false := by rw [beq_eq_false_iff_ne]; exact q1
            have q2 : (v == 2) = false := by rw [beq_eq_false_iff_ne]; exact q2
            go_wp2_with fail
            have hH := ((H9.out.res.put 0 (.int .i64 0)).put 1 (.slice (some ⟨g1, 0, none⟩) 4 c1)).put 2 (.slice (some ⟨g2, 0, none⟩) 8 c2)
            simp at hH
            have sgw : g ≠ w.heap.size := by have := H9.out.sep.1.1; omega
            have sgB : g ≠ B := by have := H9.out.sep.1.1; have := H9.out.sep.1.2.1; omega
            have sbw : ∀ b off, A = some ⟨b, off, none⟩ → 0 < n → b ≠ w.heap.size := fun b off hA hn => by have := H9.out.sep.2 b off hA hn; omega
            have sbB : ∀ b off, A = some ⟨b, off, none⟩ → 0 < n → b ≠ B := fun b off hA hn => by have := H9.out.sep.2 b off hA hn; have := H9.out.sep.1.2.1; omega
            have hrd := (((H9.out.rd.far (q := ⟨w.heap.size, 0, none⟩) (.int .i64 0) sgw sbw).far (q := ⟨w.heap.size, 1, none⟩) (.slice (some ⟨g1, 0, none⟩) 4 c1) sgw sbw).far (q := ⟨w.heap.size, 2, none⟩) (.slice (some ⟨g2, 0, none⟩) 8 c2) sgw sbw)
            have hl := only_put (only_put (only_put H9.out.low (p := ⟨w.heap.size, 0, none⟩) (.inl (Nat.le_refl _)) (.int .i64 0)) (p := ⟨w.heap.size, 1, none⟩) (.inl (Nat.le_refl _)) (.slice (some ⟨g1, 0, none⟩) 4 c1)) (p := ⟨w.heap.size, 2, none⟩) (.inl (Nat.le_refl _)) (.slice (some ⟨g2, 0, none⟩) 8 c2)
            have m1 := ((H9.out.o1.far (r := w.heap.size) hl1 0 (.int .i64 0)).far (r := w.heap.size) hl1 1 (.slice (some ⟨g1, 0, none⟩) 4 c1)).far (r := w.heap.size) hl1 2 (.slice (some ⟨g2, 0, none⟩) 8 c2)
            have m2 := ((H9.out.o2.far (r := w.heap.size) hl2 0 (.int .i64 0)).far (r := w.heap.size) hl2 1 (.slice (some ⟨g1, 0, none⟩) 4 c1)).far (r := w.heap.size) hl2 2 (.slice (some ⟨g2, 0, none⟩) 8 c2)
            refine bodyPost_ret (results_cell_row rfl _ _ _ _ _ (0, 0) _ rfl hH Tryd.underlying26 rfl (by kernel_rfl)) rfl ?_
            exact ⟨0, _, 4, c1, _, 8, c2, f1, f2, rfl, m1.nums, m2.nums, ⟨by omega, by omega⟩, ⟨low_of m1 _, low_of m2 _⟩, hl, _, by omega, hrd⟩

end Go.Proofs.YtcfnoihjpiklhaaDoor

namespace Go.Proofs.YtcfnoihjpiklhaaDoor
open Go.RowKit
set_option linter.unusedSimpArgs false
theorem someFuel_rd {A : Option Addr} {n cap g : Nat} {zs : List Int} {p : Nat} {w : World} (h : Rd w g A n cap zs p) (hp : p + 1 < 1000000) :
    Calls Tryd.prog 27 #[.pointer (some ⟨g, 0, none⟩)] w (OneOk (fun x => -1 ≤ x ∧ x ≤ 301) w g A n cap zs p) := by
  have hgi := h.blk.inside
  have HR := shade h
  clear h
  go_enter Tryd.func27, Tryd.ntmps27
  go_wp2_with fail
  refine (one_rel (fun x => -1 ≤ x ∧ x ≤ 301) (HR.out.alloc _) hp _ _ _ (by omega) (by omega) (by omega) (by omega) (by
    intro j hj
    rw [World.cell?_alloc_new]
    rcases (show j = 0 ∨ j = 1 ∨ j = 2 ∨ j = 3 ∨ j = 4 ∨ j = 5 ∨ j = 6 ∨ j = 7 by omega) with rfl | rfl | rfl | rfl | rfl | rfl | rfl | rfl <;> exact ⟨_, by constructor <;> omega, rfl⟩)).mono ?_
  rintro e w1 ⟨x, hx, rfl, hR, hG⟩
  have HR1 := shade hR
  have HG1 := shade (only_trans (only_of (World.grownBy_alloc w _ none)) hG)
  have HX := shade hx
  clear hR hG hx
  go_wp2_with fail
  go_ret
  exact ⟨x, HX.out, rfl, HR1.out, HG1.out⟩
/-- What is drawn: a program, a machine, and some fuel; nothing that was there has changed. -/
def DrawM (w : World) (e : Ending) (w' : World) : Prop :=
  ∃ (A : Option Addr) (k c : Nat) (f : Nat → Ins) (at' : Int) (A1 : Option Addr) (n1 c1 : Nat) (A2 : Option Addr) (n2 c2 : Nat) (f1 f2 : Nat → Int) (fu : Int), e = .returned (.tuple #[.slice A k c, MV at' A1 n1 c1 A2 n2 c2, .int .i64 fu]) ∧ k ≤ 14 ∧ Code w' A k f ∧ Nums w' A1 n1 f1 ∧ Nums w' A2 n2 f2 ∧ (n1 ≤ 8 ∧ n2 ≤ 8) ∧ (-1 ≤ fu ∧ fu ≤ 301) ∧ w.grownBy w' none


set_option maxRecDepth 100000 in
set_option maxHeartbeats 8000000 in
theorem DrawStepsOf_any (A : Option Addr) (n cap : Nat) (zs : List Int) (w : World) (h : Bys w A n cap zs) :
    Calls Tryd.prog 5 #[.slice A n cap] w (DrawM w) := by
  have hga := World.grownBy_alloc w (.cells #[.int .i64 0, .slice none 0 0, .slice none 0 0] 26) none
  have hb : Bys (w.alloc (.cells #[.int .i64 0, .slice none 0 0, .slice none 0 0] 26)) A n cap zs := h.alloc _
  have HN := shade (newReader_any A n cap zs _ hb)
  have E3 := shade (show Holds5 (w.alloc (.cells #[.int .i64 0, .slice none 0 0, .slice none 0 0] 26)) w.heap.size 26 #[.int .i64 0, .slice none 0 0, .slice none 0 0] from Holds5.fresh w 26 #[.int .i64 0, .slice none 0 0, .slice none 0 0])
  have HG0 := shade hga
  clear hb hga h
  go_enter Tryd.func5, Tryd.ntmps5
  go_wp2_with fail
  refine HN.out.mono ?_
  rintro e w1 ⟨m, rfl, hR, hb1⟩
  rw [World.size_alloc] at hR hb1
  have hgr := grown_of_below (a := w.alloc (.cells #[.int .i64 0, .slice none 0 0, .slice none 0 0] 26)) (b := w1) (by rw [World.size_alloc]; exact hb1)
  have E31 := shade (E3.out.grown hgr (by intro e; cases e))
  have HG1 := shade (grown_same HG0.out hgr)
  have HR1 := shade hR
  clear hgr hb1 hR HN E3 HG0
  go_wp2_with fail
  refine (someCode_rd HR1.out (by omega)).mono ?_
  rintro e w2 ⟨g', k, c, f, rfl, hk, hC, hG, hg', q, hq, hR⟩
  have l1 := HR1.out.blk.inside
  have E32 := shade (E31.out.grown hG (by intro e; injection e; omega))
  have HG2 := shade (grown_row HG1.out hG (fun j e => by injection e; omega))
  have HC2 := shade hC
  have HR2 := shade hR
  have l2 := hG.size
  clear hC hG hR HR1 E31 HG1
  go_wp2_with fail
  refine (someMachine_rd HR2.out (by omega)).mono ?_
  rintro e w3 ⟨at', A1, n1, c1, A2, n2, c2, f1, f2, rfl, hN1, hN2, hn, ⟨hb1, hb2⟩, hG, q2, hq2, hR⟩
  have E33 := shade (E32.out.grown hG (by intro e; injection e; omega))
  have HG3 := shade (grown_row HG2.out hG (fun j e => by injection e; omega))
  have HC3 := shade (HC2.out.grown hG (by intro b off e e'; injection e with e; injection e with e; injection e' with e'; omega))
  have HN1 := shade hN1
  have HN2 := shade hN2
  have HR3 := shade hR
  have l3 := hG.size
  clear hN1 hN2 hG hR HR2 E32 HG2 HC2
  go_upto_region 4 with (fail)
  have hga := World.grownBy_alloc w3 (.cells #[.int .i64 at', .slice A1 n1 c1, .slice A2 n2 c2] 26) none
  have hX : Holds5 (w3.alloc (.cells #[.int .i64 at', .slice A1 n1 c1, .slice A2 n2 c2] 26)) w3.heap.size 26 #[.int .i64 at', .slice A1 n1 c1, .slice A2 n2 c2] := Holds5.fresh w3 26 #[.int .i64 at', .slice A1 n1 c1, .slice A2 n2 c2]
  have E34 := shade (E33.out.grown hga (by intro e; cases e))
  have HG4 := shade (grown_same HG3.out hga)
  have HC4 := shade (HC3.out.on hga)
  have HN14 := shade (HN1.out.on hga)
  have HN24 := shade (HN2.out.on hga)
  have HR4 := shade (HR3.out.on hga)
  obtain ⟨W4, hW⟩ : ∃ W4, w3.alloc (.cells #[.int .i64 at', .slice A1 n1 c1, .slice A2 n2 c2] 26) = W4 := ⟨_, rfl⟩
  have hz4 : W4.heap.size = w3.heap.size + 1 := by rw [← hW, World.size_alloc]
  rw [hW] at hga hX E34 HG4 HC4 HN14 HN24 HR4 ⊢
  have HX := shade hX
  have x0 := hX.look 0; have x1 := hX.look 1; have x2 := hX.look 2
  simp at x0 x1 x2
  have l4 := E33.out.inside
  clear hga hX hW E33 HG3 HC3 HN1 HN2 HR3
  go_region_with (first | (go_at_call 27; refine (someFuel_rd (HR4.out.on (grown_drew1 W4)) (by omega)).mono ?_; rintro e w5 ⟨fu, hfu, rfl, hR5, hG5⟩; have e5 := E34.out.drew.grown hG5 (by intro e; injection e; omega); have e6 := HX.out.drew.grown hG5 (by intro e; injection e; omega); have xx0 := e6.look 0; have xx1 := e6.look 1; have xx2 := e6.look 2; have y0 := e5.look 0; have y1 := e5.look 1; have y2 := e5.look 2; have t0 := e5.free 0; have t1 := e5.free 1; have t2 := e5.free 2; simp at xx0 xx1 xx2 y0 y1 y2; have hP := ((e5.put 0 (.int .i64 at')).put 1 (.slice A1 n1 c1)).put 2 (.slice A2 n2 c2); simp at hP; have hS := grown_set3 w5 w.heap.size (.int .i64 at') (.slice A1 n1 c1) (.slice A2 n2 c2); have F1 := shade hP; have F2 := shade ((HC4.out.on (grown_drew1 W4)).grown hG5 (by intro b off e e'; injection e with e; injection e with e; injection e' with e'; omega)); have F3 := shade ((HN14.out.on (grown_drew1 W4)).grown hG5 (by intro b off e e'; have := hb1 b off e; injection e' with e'; omega)); have F4 := shade ((HN24.out.on (grown_drew1 W4)).grown hG5 (by intro b off e e'; have := hb2 b off e; injection e' with e'; omega)); have F5 := shade hS; have F6 := shade (grown_row (grown_same HG4.out (grown_drew1 W4)) hG5 (fun j e => by injection e; omega)); have F7 := shade hfu; clear hR5 hG5 e5 e6 hP hS hfu))
  all_goals (go_wp2_with fail; have hP := F1.out; have r0 := hP.look 0; have r1 := hP.look 1; have r2 := hP.look 2; simp at r0 r1 r2; refine bodyPost_ret (v := .tuple #[.slice (some ⟨g', 0, none⟩) k c, MV at' A1 n1 c1 A2 n2 c2, .int .i64 fu]) (by simp [results, Tryd.results5, go_sem, r0, r1, r2]) rfl ?_; exact ⟨_, k, c, f, at', A1, n1, c1, A2, n2, c2, f1, f2, fu, rfl, hk, F2.out.grown F5.out (by intro b off e e'; injection e with e; injection e with e; injection e' with e'; omega), F3.out.grown F5.out (by intro b off e e'; have := hb1 b off e; injection e' with e'; omega), F4.out.grown F5.out (by intro b off e e'; have := hb2 b off e; injection e' with e'; omega), hn, F7.out, grown_then F6.out F5.out (Nat.le_refl _)⟩)


end Go.Proofs.YtcfnoihjpiklhaaDoor
