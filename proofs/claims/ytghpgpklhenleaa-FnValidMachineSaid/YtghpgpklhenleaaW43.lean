/- The model's someMachine returns a machine whose numbers can be read and changes nothing but the reader. -/
import Derived.Test.YtghpgpklhenleaaW42
import Derived.Test.YtghpgpklhenleaaW21
namespace Go.Proofs.Ytghpgpklhenleaa
open Go.RowKit
theorem Bys.rd {w : World} {A : Option Addr} {n cap : Nat} {zs : List Int} (h : Bys w A n cap zs) (m : Nat) (hm : m ≤ n) (hm2 : m ≤ 2000) :
    Rd (w.alloc (.cells #[.slice A m cap, .int .i64 0] 51)) w.heap.size A m cap zs 0 := by
  refine ⟨Holds5.fresh w _ _, hm2, by have := h.fits; omega, fun hn => ?_, fun j hj => h.rng j (by omega), by omega⟩
  obtain ⟨b, off, hA, hb, hc⟩ := h.cells (by omega)
  exact ⟨b, off, hA, by omega, fun j hj => (World.cell?_alloc_some w _ _ (by rw [hc j (by omega)]; rfl)).trans (hc j (by omega))⟩
/-- What newReader leaves. -/
def NewOk (w : World) (A : Option Addr) (cap : Nat) (zs : List Int) (e : Ending) (w' : World) : Prop :=
  ∃ m : Nat, e = .returned (.pointer (some ⟨w.heap.size, 0, none⟩)) ∧ Rd w' w.heap.size A m cap zs 0 ∧ Below w.heap.size w w'
set_option maxHeartbeats 1000000 in
theorem newReader_any (A : Option Addr) (n cap : Nat) (zs : List Int) (w : World) (h : Bys w A n cap zs) :
    Calls Try.prog 20 #[.slice A n cap] w (NewOk w A cap zs) := by
  have hcap := h.fits
  have hbig := h.big
  unfold maxLen at hbig
  by_cases hn : n ≤ 2000
  · have hR := h.rd n (by omega) hn
    have HR := shade hR
    clear hR h
    go_enter Try.func20, Try.ntmps20
    go_wp2
    go_ret
    exact ⟨n, rfl, HR.out, (Below.refl _ _).alloc (Nat.le_refl _) _⟩
  · have hR := h.rd 2000 (by omega) (by omega)
    obtain ⟨b, off, rfl, _, _⟩ := h.cells (by omega)
    have HR := shade hR
    clear hR h
    have hn2 : 2000 < n := by omega
    have hc2 : 2000 ≤ cap := by omega
    go_enter Try.func20, Try.ntmps20
    go_wp2
    go_ret
    exact ⟨2000, rfl, HR.out, (Below.refl _ _).alloc (Nat.le_refl _) _⟩


theorem Rd.below {w w' : World} {g : Nat} {A : Option Addr} {n cap : Nat} {zs : List Int} {p : Nat} (h : Rd w g A n cap zs p) (hb : Below w.heap.size w w') : Rd w' g A n cap zs p := by
  refine ⟨h.blk.below hb h.blk.inside, h.len, h.cap, fun hn => ?_, h.rng, h.few⟩
  obtain ⟨b, off, hA, hbg, hc⟩ := h.cells hn
  have hl := h.low hA hn
  exact ⟨b, off, hA, hbg, fun j hj => (hb.cell (p := ⟨b, off + j, none⟩) hl).trans (hc j hj)⟩
theorem Rd.drew {w : World} {g : Nat} {A : Option Addr} {n cap : Nat} {zs : List Int} {p : Nat} (h : Rd w g A n cap zs p) : Rd w.drew g A n cap zs p := ⟨h.blk, h.len, h.cap, h.cells, h.rng, h.few⟩
theorem only_of {a b : World} {g : Nat} (h : a.grownBy b none) : a.grownBy b (some g) := ⟨h.os, h.tape, h.output, h.size, fun i hi _ => h.block i hi (by simp)⟩
/-- What stands while a machine is drawn. -/
structure SMB (w wr : World) (g B : Nat) (A : Option Addr) (n cap : Nat) (zs : List Int) (p : Nat) (at' : Int) (g1 c1 g2 c2 : Nat) (f1 f2 : Nat → Int) : Prop where
  rd : Rd wr g A n cap zs p
  res : Holds5 wr w.heap.size 25 #[.int .i64 0, .slice none 0 0, .slice none 0 0]
  var : Holds5 wr B 25 #[.int .i64 at', .slice (some ⟨g1, 0, none⟩) 4 c1, .slice (some ⟨g2, 0, none⟩) 8 c2]
  o1 : Own wr (w.heap.size + 1) (some ⟨g1, 0, none⟩) 4 c1 f1
  o2 : Own wr (w.heap.size + 1) (some ⟨g2, 0, none⟩) 8 c2 f2
  low : w.grownBy wr (some g)
  sep : (g < w.heap.size ∧ w.heap.size < B ∧ g1 ≠ g2 ∧ B ≠ g1 ∧ B ≠ g2) ∧ ∀ b off, A = some ⟨b, off, none⟩ → 0 < n → b < w.heap.size
theorem SMB.step {{w wr : World}} {{g B : Nat}} {{A : Option Addr}} {{n cap : Nat}} {{zs : List Int}} {{p : Nat}} {{at' : Int}} {{g1 c1 g2 c2 : Nat}} {{f1 f2 : Nat → Int}} (h : SMB w wr g B A n cap zs p at' g1 c1 g2 c2 f1 f2) {w2 : World} {p2 : Nat} (hR : Rd w2 g A n cap zs p2) (hG : wr.grownBy w2 (some g)) : SMB w w2 g B A n cap zs p2 at' g1 c1 g2 c2 f1 f2 := by
  obtain ⟨⟨s1, s2, s3, s4, s5⟩, s6⟩ := h.sep
  have l1 := h.o1.lt
  have l2 := h.o2.lt
  refine ⟨hR, h.res.grown hG (by intro e; injection e; omega), h.var.grown hG (by intro e; injection e; omega), World.ownsRow.kept h.o1 hG (.inr ?_), World.ownsRow.kept h.o2 hG (.inr ?_), only_trans h.low hG, h.sep⟩
  · show some g1 ≠ some g
    intro e
    injection e
    omega
  · show some g2 ≠ some g
    intro e
    injection e
    omega
theorem SMB.put1 {{w wr : World}} {{g B : Nat}} {{A : Option Addr}} {{n cap : Nat}} {{zs : List Int}} {{p : Nat}} {{at' : Int}} {{g1 c1 g2 c2 : Nat}} {{f1 f2 : Nat → Int}} (h : SMB w wr g B A n cap zs p at' g1 c1 g2 c2 f1 f2) (k : Nat) (_hk : k < 4) (x : Int) : SMB w (wr.setCell ⟨g1, k, none⟩ (.int .i64 x)) g B A n cap zs p at' g1 c1 g2 c2 (fun j => if j = k then x else f1 j) f2 := by
  obtain ⟨⟨s1, s2, s3, s4, s5⟩, s6⟩ := h.sep
  have l1 := h.o1.lt
  refine ⟨h.rd.far (q := ⟨g1, k, none⟩) _ (by show g ≠ g1; omega) (fun b off e hn => by have := s6 b off e hn; show b ≠ g1; omega), h.res.far (by omega) _ _, h.var.far s4 _ _, ?_, h.o2.far (fun e => s3 e.symm) _ _, only_put h.low (.inl (by show w.heap.size ≤ g1; omega)) _, h.sep⟩
  have hs := (World.ownsRow.stored h.o1 k (.int .i64 x)).1
  rw [numL_set 4 f1 (fun j => if j = k then x else f1 j) k x (by simp) (fun j _ hne => by rw [if_neg hne])] at hs
  exact hs
theorem SMB.put2 {{w wr : World}} {{g B : Nat}} {{A : Option Addr}} {{n cap : Nat}} {{zs : List Int}} {{p : Nat}} {{at' : Int}} {{g1 c1 g2 c2 : Nat}} {{f1 f2 : Nat → Int}} (h : SMB w wr g B A n cap zs p at' g1 c1 g2 c2 f1 f2) (k : Nat) (_hk : k < 8) (x : Int) : SMB w (wr.setCell ⟨g2, k, none⟩ (.int .i64 x)) g B A n cap zs p at' g1 c1 g2 c2 f1 (fun j => if j = k then x else f2 j) := by
  obtain ⟨⟨s1, s2, s3, s4, s5⟩, s6⟩ := h.sep
  have l2 := h.o2.lt
  refine ⟨h.rd.far (q := ⟨g2, k, none⟩) _ (by show g ≠ g2; omega) (fun b off e hn => by have := s6 b off e hn; show b ≠ g2; omega), h.res.far (by omega) _ _, h.var.far s5 _ _, h.o1.far s3 _ _, ?_, only_put h.low (.inl (by show w.heap.size ≤ g2; omega)) _, h.sep⟩
  have hs := (World.ownsRow.stored h.o2 k (.int .i64 x)).1
  rw [numL_set 8 f2 (fun j => if j = k then x else f2 j) k x (by simp) (fun j _ hne => by rw [if_neg hne])] at hs
  exact hs
theorem SMB.at0 {{w wr : World}} {{g B : Nat}} {{A : Option Addr}} {{n cap : Nat}} {{zs : List Int}} {{p : Nat}} {{at' : Int}} {{g1 c1 g2 c2 : Nat}} {{f1 f2 : Nat → Int}} (h : SMB w wr g B A n cap zs p at' g1 c1 g2 c2 f1 f2) (x : Int) : SMB w (wr.setCell ⟨B, 0, none⟩ (.int .i64 x)) g B A n cap zs p x g1 c1 g2 c2 f1 f2 := by
  obtain ⟨⟨s1, s2, s3, s4, s5⟩, s6⟩ := h.sep
  refine ⟨h.rd.far (q := ⟨B, 0, none⟩) _ (by show g ≠ B; omega) (fun b off e hn => by have := s6 b off e hn; show b ≠ B; omega), h.res.far (by omega) _ _, ?_, h.o1.far (fun e => s4 e.symm) _ _, h.o2.far (fun e => s5 e.symm) _ _, only_put h.low (.inl (by show w.heap.size ≤ B; omega)) _, h.sep⟩
  have := h.var.put 0 (.int .i64 x)
  simpa using this
theorem low_of {w' : World} {B g n c : Nat} {f : Nat → Int} (h : Own w' B (some ⟨g, 0, none⟩) n c f) (o : Nat) : ∀ b off, (some ⟨g, o, none⟩ : Option Addr) = some ⟨b, off, none⟩ → B ≤ b := by
  intro b off e
  injection e with e
  injection e with e
  have := h.lt
  omega
/-- What someMachine leaves: some machine whose numbers can be read; only the reader has changed. -/
def SMOk (w : World) (g : Nat) (e : Ending) (w' : World) : Prop :=
  ∃ (at' : Int) (A1 : Option Addr) (n1 c1 : Nat) (A2 : Option Addr) (n2 c2 : Nat) (f1 f2 : Nat → Int), e = .returned (MV at' A1 n1 c1 A2 n2 c2) ∧ Nums w' A1 n1 f1 ∧ Nums w' A2 n2 f2 ∧ (n1 ≤ 8 ∧ n2 ≤ 8) ∧ ((∀ b off, A1 = some ⟨b, off, none⟩ → w.heap.size + 1 ≤ b) ∧ ∀ b off, A2 = some ⟨b, off, none⟩ → w.heap.size + 1 ≤ b) ∧ w.grownBy w' (some g)


set_option maxHeartbeats 8000000 in
theorem someMachine_any {A : Option Addr} {n cap g : Nat} {zs : List Int} {p : Nat} {w : World} (h : Rd w g A n cap zs p) (hp : p + 100 < 1000000) :
    Calls Try.prog 19 #[.pointer (some ⟨g, 0, none⟩)] w (SMOk w g) := by
  have hg := h.blk.inside
  have HL := shade (fun b off (hA : A = some ⟨b, off, none⟩) (hn : 0 < n) => h.low hA hn)
  have HR0 := shade (h.alloc (.cells #[.int .i64 0, .slice none 0 0, .slice none 0 0] 25))
  have HSN := shade (specNewMachine_any (w.alloc (.cells #[.int .i64 0, .slice none 0 0, .slice none 0 0] 25)))
  clear h
  go_enter Try.func19, Try.ntmps19
  go_wp2_with fail
  refine HSN.out.mono ?_
  rintro e w1 ⟨g1, c1, g2, c2, rfl, hne, ho1, ho2, hgr⟩
  rw [World.size_alloc] at ho1 ho2
  have hA := World.grownBy_alloc w1 (.cells #[.int .i64 0, .slice (some ⟨g1, 0, none⟩) 4 c1, .slice (some ⟨g2, 0, none⟩) 8 c2] 25) none
  have hB := grown_same hgr hA
  have l1 := ho1.lt
  have l2 := ho2.lt
  have z1 := hgr.size
  rw [World.size_alloc] at z1
  have hM : SMB w (w1.alloc (.cells #[.int .i64 0, .slice (some ⟨g1, 0, none⟩) 4 c1, .slice (some ⟨g2, 0, none⟩) 8 c2] 25)) g w1.heap.size A n cap zs p 0 g1 c1 g2 c2 (fun _ => 0) (fun _ => 0) :=
    ⟨(HR0.out.below (below_of_grown hgr)).alloc _, (Holds5.fresh w 25 #[.int .i64 0, .slice none 0 0, .slice none 0 0]).grown hB (by intro e; cases e), Holds5.fresh _ _ _, ho1.on hA, ho2.on hA, only_of (grown_same (World.grownBy_alloc _ _ _) hB), ⟨hg, by omega, hne, by omega, by omega⟩, HL.out⟩
  obtain ⟨B, hBB⟩ : ∃ B, w1.heap.size = B := ⟨_, rfl⟩
  obtain ⟨W2, hW2⟩ : ∃ W2, w1.alloc (.cells #[.int .i64 0, .slice (some ⟨g1, 0, none⟩) 4 c1, .slice (some ⟨g2, 0, none⟩) 8 c2] 25) = W2 := ⟨_, rfl⟩
  rw [hW2, hBB] at hM
  have HM := shade hM
  have HW2 := shade hW2
  have HBB := shade hBB
  clear hM hW2 hBB hA hB ho1 ho2 hgr HR0 HSN l1 l2 z1
  go_wp2_with fail
  rw [HW2.out, HBB.out]
  clear HW2 HBB
  go_wp2_with fail
  go_loopw [4] (fun i wr => ∃ (k q : Nat) (f1 : Nat → Int), k ≤ 4 ∧ i = .int .i64 k ∧ q ≤ p + 3 * k ∧ SMB w wr g B A n cap zs q 0 g1 c1 g2 c2 f1 (fun _ => 0)) (fun i _ => 4 - (intOf i).toNat)
  case atStart => exact ⟨0, p, _, Nat.zero_le _, rfl, by omega, HM.out⟩
  case round =>
    obtain ⟨k, p, f1, hk, rfl, hq0, hs⟩ := hrel
    by_cases hkn : k < 4
    · go_wp2_with fail
      have HS := shade hs
      clear hs
      have hN0 := only_drewN (only_refl wr g) 1
      have H0 := shade (HS.out.step (w2 := wr.drew) (p2 := p) HS.out.rd.drew hN0)
      have S0 := (H0.out.var.look 1).trans (show _ = some (Value.slice (some ⟨g1, 0, none⟩) 4 c1) from rfl)
      clear HS hN0
      go_region_held3 (fun w' => w'.cell? ⟨B, 1, none⟩ = some (.slice (some ⟨g1, 0, none⟩) 4 c1)) (first | exact S0 | exact S1 | exact S2 | exact S3 | exact S4 | exact (World.cell?_setCell_far _ _ _ _ (fun e => H4.out.sep.1.2.2.2.1 e.symm)).trans S4)
        (first
          | (have hq := H3; go_at_call 30; refine (one_rel (fun x => 0 ≤ x ∧ x ≤ 255) H3.out.rd (by omega) _ _ _ (by omega) (by omega) (by omega) (by have := H2.out.sep; have := H2.out.rd.blk.inside; omega) (by
              intro j hj
              rw [World.cell?_alloc_new]
              rcases (show j = 0 ∨ j = 1 ∨ j = 2 by omega) with rfl | rfl | rfl <;> exact ⟨_, by constructor <;> omega, rfl⟩)).mono ?_; rintro e w4 ⟨x, hx, rfl, hR, hG⟩; have H4 := shade (H3.out.step hR hG); have S4 := (H4.out.var.look 1).trans (show _ = some (Value.slice (some ⟨g1, 0, none⟩) 4 c1) from rfl); have b0 := (H4.out.o1).nums.cell hkn; have f0 := World.ownsRow.frozenAt (H4.out.o1) k; rw [Nat.zero_add] at b0; clear hR hG)
          | (have hq := H1; go_at_call 31; refine (pick_rel 256 H1.out.rd (by omega)).mono ?_; rintro e w2 ⟨y2, ⟨y2a, y2b, _⟩, rfl, hR, hG⟩; have y2c := y2b (by omega); have H2 := shade (H1.out.step hR hG); have S2 := (H2.out.var.look 1).trans (show _ = some (Value.slice (some ⟨g1, 0, none⟩) 4 c1) from rfl); have H3 := shade (H2.out.step (w2 := w2.alloc (.cells #[.int .i64 y1, .int .i64 y2, .int .i64 0] 3)) (H2.out.rd.alloc _) (only_of (World.grownBy_alloc _ _ _))); have S3 := (H3.out.var.look 1).trans (show _ = some (Value.slice (some ⟨g1, 0, none⟩) 4 c1) from rfl); clear hR hG y2b)
          | (go_at_call 31; refine (pick_rel 4 H0.out.rd (by omega)).mono ?_; rintro e w1 ⟨y1, ⟨y1a, y1b, _⟩, rfl, hR, hG⟩; have y1c := y1b (by omega); have H1 := shade (H0.out.step hR hG); have S1 := (H1.out.var.look 1).trans (show _ = some (Value.slice (some ⟨g1, 0, none⟩) 4 c1) from rfl); clear hR hG y1b))
      rename_i hHeld
      clear hHeld
      go_wp2_with fail
      go_roundw
      case rel => exact ⟨k + 1, _, _, by omega, by go_num, by omega, H4.out.put1 k hkn x⟩
      case measure => simp [intOf]; omega
    · have hkn2 : k = 4 := by omega
      subst hkn2
      have HS := shade hs
      clear hs
      go_wp2_with fail
      go_loopw [5] (fun i wr => ∃ (k q : Nat) (f2 : Nat → Int), k ≤ 8 ∧ i = .int .i64 k ∧ q ≤ p + 3 * k ∧ SMB w wr g B A n cap zs q 0 g1 c1 g2 c2 f1 f2) (fun i _ => 8 - (intOf i).toNat)
      case atStart => exact ⟨0, p, _, Nat.zero_le _, rfl, by omega, HS.out⟩
      case round =>
        clear HS
        obtain ⟨k, p, f2, hk, rfl, hq0, hs⟩ := hrel
        by_cases hkn : k < 8
        · go_wp2_with fail
          have HS := shade hs
          clear hs
          have hN0 := only_drewN (only_refl wr g) 1
          have H0 := shade (HS.out.step (w2 := wr.drew) (p2 := p) HS.out.rd.drew hN0)
          have S0 := (H0.out.var.look 2).trans (show _ = some (Value.slice (some ⟨g2, 0, none⟩) 8 c2) from rfl)
          clear HS hN0
          go_region_held3 (fun w' => w'.cell? ⟨B, 2, none⟩ = some (.slice (some ⟨g2, 0, none⟩) 8 c2)) (first | exact S0 | exact S1 | exact S2 | exact S3 | exact S4 | exact (World.cell?_setCell_far _ _ _ _ (fun e => H4.out.sep.1.2.2.2.2 e.symm)).trans S4)
            (first
              | (have hq := H3; go_at_call 30; refine (one_rel (fun x => 0 ≤ x ∧ x ≤ 255) H3.out.rd (by omega) _ _ _ (by omega) (by omega) (by omega) (by have := H2.out.sep; have := H2.out.rd.blk.inside; omega) (by
                  intro j hj
                  rw [World.cell?_alloc_new]
                  rcases (show j = 0 ∨ j = 1 ∨ j = 2 ∨ j = 3 by omega) with rfl | rfl | rfl | rfl <;> exact ⟨_, by constructor <;> omega, rfl⟩)).mono ?_; rintro e w4 ⟨x, hx, rfl, hR, hG⟩; have H4 := shade (H3.out.step hR hG); have S4 := (H4.out.var.look 2).trans (show _ = some (Value.slice (some ⟨g2, 0, none⟩) 8 c2) from rfl); have b0 := (H4.out.o2).nums.cell hkn; have f0 := World.ownsRow.frozenAt (H4.out.o2) k; rw [Nat.zero_add] at b0; clear hR hG)
              | (have hq := H1; go_at_call 31; refine (pick_rel 256 H1.out.rd (by omega)).mono ?_; rintro e w2 ⟨y2, ⟨y2a, y2b, _⟩, rfl, hR, hG⟩; have y2c := y2b (by omega); have H2 := shade (H1.out.step hR hG); have S2 := (H2.out.var.look 2).trans (show _ = some (Value.slice (some ⟨g2, 0, none⟩) 8 c2) from rfl); have H3 := shade (H2.out.step (w2 := w2.alloc (.cells #[.int .i64 y1, .int .i64 y2, .int .i64 0, .int .i64 0] 3)) (H2.out.rd.alloc _) (only_of (World.grownBy_alloc _ _ _))); have S3 := (H3.out.var.look 2).trans (show _ = some (Value.slice (some ⟨g2, 0, none⟩) 8 c2) from rfl); clear hR hG y2b)
              | (go_at_call 31; refine (pick_rel 5 H0.out.rd (by omega)).mono ?_; rintro e w1 ⟨y1, ⟨y1a, y1b, _⟩, rfl, hR, hG⟩; have y1c := y1b (by omega); have H1 := shade (H0.out.step hR hG); have S1 := (H1.out.var.look 2).trans (show _ = some (Value.slice (some ⟨g2, 0, none⟩) 8 c2) from rfl); clear hR hG y1b))
          rename_i hHeld
          clear hHeld
          go_wp2_with fail
          go_roundw
          case rel =>
            exact ⟨_, _, _, _, _, _, _, _, _, _, _, _, _, _, _, _, ⟨k + 1, _, _, by omega, rfl, by omega, H4.out.put2 k hkn x⟩, rfl⟩
          case measure => simp [intOf]; omega
        · have hkn2 : k = 8 := by omega
          subst hkn2
          have HS := shade hs
          clear hs
          go_wp2_with fail
          refine (pick_rel 40 HS.out.rd (by omega)).mono ?_
          rintro e w5 ⟨v, ⟨v0, v1, _⟩, rfl, hR, hG⟩
          have v2 := v1 (by omega)
          have H5 := shade (HS.out.step hR hG)
          clear hR hG v1 HS HM HL
          obtain ⟨hl1, hl2⟩ : g1 ≠ w.heap.size ∧ g2 ≠ w.heap.size := by
            have l1 := H5.out.o1.lt
            have l2 := H5.out.o2.lt
            omega
          by_cases q0 : v = 0
          · subst q0
            have z0 := H5.out.var.look 0; have zf := H5.out.var.free 0; have zs := H5.out.var.inside
            simp at z0
            go_wp2_with fail
            refine (one_rel (fun x => -1 ≤ x ∧ x ≤ 41) (H5.out.rd.alloc _) (by omega) _ _ _ (by omega) (by omega) (by omega) (by have := H5.out.rd.blk.inside; omega) (by
              intro j hj
              rw [World.cell?_alloc_new]
              rcases (show j = 0 ∨ j = 1 ∨ j = 2 ∨ j = 3 by omega) with rfl | rfl | rfl | rfl <;> exact ⟨_, by constructor <;> omega, rfl⟩)).mono ?_
            rintro e w6 ⟨x, hx, rfl, hR, hG⟩
            have H6 := shade (H5.out.step hR (only_trans (only_of (World.grownBy_alloc _ _ _)) hG))
            have H9 := shade (H6.out.at0 x)
            clear hR hG z0 zf H5
            have z0 := H6.out.var.look 0; have zf := H6.out.var.free 0
            simp at z0
            have x0 := H9.out.var.look 0; have x1 := H9.out.var.look 1; have x2 := H9.out.var.look 2
            have y0 := H9.out.res.look 0; have y1 := H9.out.res.look 1; have y2 := H9.out.res.look 2
            have t0 := H9.out.res.free 0; have t1 := H9.out.res.free 1; have t2 := H9.out.res.free 2
            simp at x0 x1 x2 y0 y1 y2
            go_wp2_with fail
            have hH := ((H9.out.res.put 0 (.int .i64 x)).put 1 (.slice (some ⟨g1, 0, none⟩) 4 c1)).put 2 (.slice (some ⟨g2, 0, none⟩) 8 c2)
            simp at hH
            have hl := only_put (only_put (only_put H9.out.low (p := ⟨w.heap.size, 0, none⟩) (.inl (Nat.le_refl _)) (.int .i64 x)) (p := ⟨w.heap.size, 1, none⟩) (.inl (Nat.le_refl _)) (.slice (some ⟨g1, 0, none⟩) 4 c1)) (p := ⟨w.heap.size, 2, none⟩) (.inl (Nat.le_refl _)) (.slice (some ⟨g2, 0, none⟩) 8 c2)
            have m1 := ((H9.out.o1.far (r := w.heap.size) hl1 0 (.int .i64 x)).far (r := w.heap.size) hl1 1 (.slice (some ⟨g1, 0, none⟩) 4 c1)).far (r := w.heap.size) hl1 2 (.slice (some ⟨g2, 0, none⟩) 8 c2)
            have m2 := ((H9.out.o2.far (r := w.heap.size) hl2 0 (.int .i64 x)).far (r := w.heap.size) hl2 1 (.slice (some ⟨g1, 0, none⟩) 4 c1)).far (r := w.heap.size) hl2 2 (.slice (some ⟨g2, 0, none⟩) 8 c2)
            refine bodyPost_ret (results_cell_row rfl _ _ _ _ _ (0, 0) _ rfl hH Try.underlying25 rfl (by kernel_rfl)) rfl ?_
            exact ⟨x, _, 4, c1, _, 8, c2, f1, f2, rfl, m1.nums, m2.nums, ⟨by omega, by omega⟩, ⟨low_of m1 _, low_of m2 _⟩, hl⟩
          by_cases q1 : v = 1
          · subst q1
            have hN0 := only_drewN (only_refl w5 g) 1
            have H6 := shade (H5.out.step (w2 := w5.drew) H5.out.rd.drew hN0)
            have S0 := (H6.out.var.look 1).trans (show _ = some (Value.slice (some ⟨g1, 0, none⟩) 4 c1) from rfl)
            have H7 := shade (H6.out.step (w2 := w5.drew.alloc (.cells #[.int .i64 (-1), .int .i64 256] 3)) (H6.out.rd.alloc _) (only_of (World.grownBy_alloc _ _ _)))
            have S1 := (H7.out.var.look 1).trans (show _ = some (Value.slice (some ⟨g1, 0, none⟩) 4 c1) from rfl)
            clear hN0 H5
            go_wp2_with fail
            go_region_held3 (fun w' => w'.cell? ⟨B, 1, none⟩ = some (.slice (some ⟨g1, 0, none⟩) 4 c1)) (first | exact S0 | exact S1 | exact S8 | exact (World.cell?_setCell_far _ _ _ _ (fun e => H8.out.sep.1.2.2.2.1 e.symm)).trans S8)
              (first
                | (go_at_call 30; refine (one_rel (fun x => -1 ≤ x ∧ x ≤ 256) H7.out.rd (by omega) w5.heap.size 2 2 (by omega) (by omega) (by omega) (by have e : w5.drew.heap.size = w5.heap.size := rfl; have := H6.out.rd.blk.inside; omega) (by
                    intro j hj
                    rw [show w5.heap.size = w5.drew.heap.size from rfl, World.cell?_alloc_new]
                    rcases (show j = 0 ∨ j = 1 by omega) with rfl | rfl <;> exact ⟨_, by constructor <;> omega, rfl⟩)).mono ?_; rintro e w8 ⟨x, hx, rfl, hR, hG⟩; have H8 := shade (H7.out.step hR hG); have S8 := (H8.out.var.look 1).trans (show _ = some (Value.slice (some ⟨g1, 0, none⟩) 4 c1) from rfl); have b0 := H8.out.o1.nums.cell (j := 0) (by omega); have f0 := World.ownsRow.frozenAt H8.out.o1 0; rw [Nat.add_zero] at b0; clear hR hG))
            rename_i hHeld
            clear hHeld
            have H9 := shade (H8.out.put1 0 (by omega) x)
            generalize hw9 : (w8.setCell ⟨g1, 0, none⟩ (.int .i64 x)) = w9 at *
            clear S0 S1 S8 b0 f0 H8 H7 H6 hw9
            have x0 := H9.out.var.look 0; have x1 := H9.out.var.look 1; have x2 := H9.out.var.look 2
            have y0 := H9.out.res.look 0; have y1 := H9.out.res.look 1; have y2 := H9.out.res.look 2
            have t0 := H9.out.res.free 0; have t1 := H9.out.res.free 1; have t2 := H9.out.res.free 2
            simp at x0 x1 x2 y0 y1 y2
            go_wp2_with fail
            have hH := ((H9.out.res.put 0 (.int .i64 0)).put 1 (.slice (some ⟨g1, 0, none⟩) 4 c1)).put 2 (.slice (some ⟨g2, 0, none⟩) 8 c2)
            simp at hH
            have hl := only_put (only_put (only_put H9.out.low (p := ⟨w.heap.size, 0, none⟩) (.inl (Nat.le_refl _)) (.int .i64 0)) (p := ⟨w.heap.size, 1, none⟩) (.inl (Nat.le_refl _)) (.slice (some ⟨g1, 0, none⟩) 4 c1)) (p := ⟨w.heap.size, 2, none⟩) (.inl (Nat.le_refl _)) (.slice (some ⟨g2, 0, none⟩) 8 c2)
            have m1 := ((H9.out.o1.far (r := w.heap.size) hl1 0 (.int .i64 0)).far (r := w.heap.size) hl1 1 (.slice (some ⟨g1, 0, none⟩) 4 c1)).far (r := w.heap.size) hl1 2 (.slice (some ⟨g2, 0, none⟩) 8 c2)
            have m2 := ((H9.out.o2.far (r := w.heap.size) hl2 0 (.int .i64 0)).far (r := w.heap.size) hl2 1 (.slice (some ⟨g1, 0, none⟩) 4 c1)).far (r := w.heap.size) hl2 2 (.slice (some ⟨g2, 0, none⟩) 8 c2)
            refine bodyPost_ret (results_cell_row rfl _ _ _ _ _ (0, 0) _ rfl hH Try.underlying25 rfl (by kernel_rfl)) rfl ?_
            exact ⟨0, _, 4, c1, _, 8, c2, _, f2, rfl, m1.nums, m2.nums, ⟨by omega, by omega⟩, ⟨low_of m1 _, low_of m2 _⟩, hl⟩
          by_cases q2 : v = 2
          · subst q2
            have H9 := H5
            have x0 := H9.out.var.look 0; have x1 := H9.out.var.look 1; have x2 := H9.out.var.look 2
            have y0 := H9.out.res.look 0; have y1 := H9.out.res.look 1; have y2 := H9.out.res.look 2
            have t0 := H9.out.res.free 0; have t1 := H9.out.res.free 1; have t2 := H9.out.res.free 2
            simp at x0 x1 x2 y0 y1 y2
            have cp := (World.ownsRow.lt H9.out.o2 g2 rfl).2
            have cq := H9.out.o2.caps
            have ze := H9.out.var.free 2
            have sB := H9.out.sep.1.2.1
            have sC : B ≠ w.heap.size := by omega
            unfold maxLen at cq
            go_wp2_with fail
            have hH := (((H9.out.res.far (r := B) (by omega) 2 (.slice (some ⟨g2, 1, none⟩) 7 (c2 - 1))).put 0 (.int .i64 0)).put 1 (.slice (some ⟨g1, 0, none⟩) 4 c1)).put 2 (.slice (some ⟨g2, 1, none⟩) 7 (c2 - 1))
            simp at hH
            have hl := only_put (only_put (only_put (only_put H9.out.low (p := ⟨B, 2, none⟩) (.inl (by show w.heap.size ≤ B; omega)) (.slice (some ⟨g2, 1, none⟩) 7 (c2 - 1))) (p := ⟨w.heap.size, 0, none⟩) (.inl (Nat.le_refl _)) (.int .i64 0)) (p := ⟨w.heap.size, 1, none⟩) (.inl (Nat.le_refl _)) (.slice (some ⟨g1, 0, none⟩) 4 c1)) (p := ⟨w.heap.size, 2, none⟩) (.inl (Nat.le_refl _)) (.slice (some ⟨g2, 1, none⟩) 7 (c2 - 1))
            have m1 := (((H9.out.o1.far (r := B) (fun e => H9.out.sep.1.2.2.2.1 e.symm) 2 (.slice (some ⟨g2, 1, none⟩) 7 (c2 - 1))).far (r := w.heap.size) hl1 0 (.int .i64 0)).far (r := w.heap.size) hl1 1 (.slice (some ⟨g1, 0, none⟩) 4 c1)).far (r := w.heap.size) hl1 2 (.slice (some ⟨g2, 1, none⟩) 7 (c2 - 1))
            have m2 := (((H9.out.o2.far (r := B) (fun e => H9.out.sep.1.2.2.2.2 e.symm) 2 (.slice (some ⟨g2, 1, none⟩) 7 (c2 - 1))).far (r := w.heap.size) hl2 0 (.int .i64 0)).far (r := w.heap.size) hl2 1 (.slice (some ⟨g1, 0, none⟩) 4 c1)).far (r := w.heap.size) hl2 2 (.slice (some ⟨g2, 1, none⟩) 7 (c2 - 1))
            refine bodyPost_ret (results_cell_row rfl _ _ _ _ _ (0, 0) _ rfl hH Try.underlying25 rfl (by kernel_rfl)) rfl ?_
            exact ⟨0, _, 4, c1, some ⟨g2, 1, none⟩, 7, c2 - 1, f1, fun j => f2 (1 + j), rfl, m1.nums, .inr ⟨g2, 1, rfl, m2.lt.2, fun j hj => by
              have := m2.nums.cell (j := 1 + j) (by omega)
              rwa [Nat.zero_add] at this⟩, ⟨by omega, by omega⟩, ⟨low_of m1 _, low_of m2 _⟩, hl⟩
          · have H9 := H5
            have x0 := H9.out.var.look 0; have x1 := H9.out.var.look 1; have x2 := H9.out.var.look 2
            have y0 := H9.out.res.look 0; have y1 := H9.out.res.look 1; have y2 := H9.out.res.look 2
            have t0 := H9.out.res.free 0; have t1 := H9.out.res.free 1; have t2 := H9.out.res.free 2
            simp at x0 x1 x2 y0 y1 y2
            have q0 : (v == 0) = false := by rw [beq_eq_false_iff_ne]; exact q0
            have q1 : (v == 1) = false := by rw [beq_eq_false_iff_ne]; exact q1
            have q2 : (v == 2) = false := by rw [beq_eq_false_iff_ne]; exact q2
            go_wp2_with fail
            have hH := ((H9.out.res.put 0 (.int .i64 0)).put 1 (.slice (some ⟨g1, 0, none⟩) 4 c1)).put 2 (.slice (some ⟨g2, 0, none⟩) 8 c2)
            simp at hH
            have hl := only_put (only_put (only_put H9.out.low (p := ⟨w.heap.size, 0, none⟩) (.inl (Nat.le_refl _)) (.int .i64 0)) (p := ⟨w.heap.size, 1, none⟩) (.inl (Nat.le_refl _)) (.slice (some ⟨g1, 0, none⟩) 4 c1)) (p := ⟨w.heap.size, 2, none⟩) (.inl (Nat.le_refl _)) (.slice (some ⟨g2, 0, none⟩) 8 c2)
            have m1 := ((H9.out.o1.far (r := w.heap.size) hl1 0 (.int .i64 0)).far (r := w.heap.size) hl1 1 (.slice (some ⟨g1, 0, none⟩) 4 c1)).far (r := w.heap.size) hl1 2 (.slice (some ⟨g2, 0, none⟩) 8 c2)
            have m2 := ((H9.out.o2.far (r := w.heap.size) hl2 0 (.int .i64 0)).far (r := w.heap.size) hl2 1 (.slice (some ⟨g1, 0, none⟩) 4 c1)).far (r := w.heap.size) hl2 2 (.slice (some ⟨g2, 0, none⟩) 8 c2)
            refine bodyPost_ret (results_cell_row rfl _ _ _ _ _ (0, 0) _ rfl hH Try.underlying25 rfl (by kernel_rfl)) rfl ?_
            exact ⟨0, _, 4, c1, _, 8, c2, f1, f2, rfl, m1.nums, m2.nums, ⟨by omega, by omega⟩, ⟨low_of m1 _, low_of m2 _⟩, hl⟩

end Go.Proofs.Ytghpgpklhenleaa
