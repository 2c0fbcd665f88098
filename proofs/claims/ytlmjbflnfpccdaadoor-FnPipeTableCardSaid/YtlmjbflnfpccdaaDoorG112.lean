/- A drawn trace: instructions, and whether they jump. The drawn lists, jumps and Booleans. -/
import Derived.Test.YtlmjbflnfpccdaaDoorG110
import Derived.Test.YtlmjbflnfpccdaaDoorG130
namespace Go.Proofs.YtlmjbflnfpccdaaDoor
open Go.RowKit
set_option linter.unusedSimpArgs false
/-- What aTrace leaves. -/
def TrRes (w : World) (g : Nat) (A : Option Addr) (n cap : Nat) (zs : List Int) (p : Nat) (e : Ending) (w' : World) : Prop :=
  ∃ (A1 : Option Addr) (k c : Nat) (G : Nat → Ins) (A2 : Option Addr) (m d : Nat) (J : Nat → Bool), e = .returned (.tuple #[.slice A1 k c, .slice A2 m d]) ∧ (k ≤ 300 ∧ m ≤ 300 ∧ k ≤ c ∧ m ≤ d) ∧ Code w' A1 k G ∧ Bols w' A2 m J ∧ ((∀ b off, A1 = some ⟨b, off, none⟩ → w.heap.size ≤ b) ∧ ∀ b off, A2 = some ⟨b, off, none⟩ → w.heap.size ≤ b) ∧ w.grownBy w' (some g) ∧ ∃ q, q ≤ p + 600 ∧ Rd w' g A n cap zs q
theorem ownsRow_capsz {w : World} {B n z : Nat} {A : Option Addr} {c : Nat} {xs : List Value} {e : TypeId} (h : w.ownsRow B e z (.slice A n c) n xs) : n ≤ c := by
  rcases h.2 with ⟨e1, h0⟩ | ⟨g, cap, cur, e1, _, _, hc, _⟩
  · omega
  · injection e1 with _ _ e3
    omega
theorem code_own {w : World} {B n c : Nat} {A : Option Addr} {f : Nat → Ins} (h : w.ownsRow B 53 5 (.slice A n c) n (codeL n f)) : Code w A n f := by
  rcases h.2 with ⟨e, h0⟩ | ⟨g', c', cur, e, hb, _⟩
  · exact .inl h0
  · injection e with e1 e2 e3
    subst e1 e3
    exact OwnC.code h
theorem bols_own {w : World} {B n c : Nat} {A : Option Addr} {f : Nat → Bool} (h : w.ownsRow B 4 1 (.slice A n c) n (bolL n f)) : Bols w A n f := by
  rcases h.2 with ⟨e, h0⟩ | ⟨g', c', cur, e, hb, _⟩
  · exact .inl h0
  · injection e with e1 e2 e3
    subst e1 e3
    exact OwnB.bols h
theorem bols_tail {w : World} {b off n : Nat} {f : Nat → Bool} (h : Bols w (some ⟨b, off, none⟩) (n + 1) f) : Bols w (some ⟨b, off + 1, none⟩) n (fun j => f (j + 1)) := by
  obtain ⟨b', off', e, hb, hc⟩ := h.resolve_left (by omega)
  injection e with e
  injection e with e1 e2
  subst e1 e2
  refine .inr ⟨b, off + 1, rfl, hb, fun j hj => ?_⟩
  rw [show off + 1 + j = off + (j + 1) by omega]
  exact hc (j + 1) (by omega)
set_option maxRecDepth 100000 in
set_option maxHeartbeats 8000000 in
theorem aTrace_any {A : Option Addr} {n cap g : Nat} {zs : List Int} {p : Nat} {w : World} (h : Rd w g A n cap zs p) (hp : p + 1000 < 1000000) :
    Calls Tryd.prog 50 #[.pointer (some ⟨g, 0, none⟩)] w (TrRes w g A n cap zs p) := by
  have hgi := h.blk.inside
  have HR0 := shade h
  have HLA := shade (fun b off (hA : A = some ⟨b, off, none⟩) (hn : 0 < n) => h.low hA hn)
  clear h
  go_enter Tryd.func50, Tryd.ntmps50
  go_wp2_with fail
  refine (someCode_rd HR0.out (by omega)).mono ?_
  rintro e w1 ⟨g', k1, c1, F, rfl, hk, hC, hG, hg', q1, hq1, hR⟩
  have HG1 := shade hG
  have HC1 := shade hC
  have HR1 := shade hR
  have s1 := hG.size
  clear hC hG hR
  go_wp2_with fail
  refine (someMachine_rd HR1.out (by omega)).mono ?_
  rintro e w2 ⟨at', B1, n1, d1, B2, n2, d2, f1, f2, rfl, hN1, hN2, hn, ⟨hb1, hb2⟩, hG, q2, hq2, hR⟩
  have HG2 := shade (only_trans HG1.out hG)
  have HC2 := shade (HC1.out.grown hG (by intro b off e e'; injection e with e; injection e with e; injection e' with e'; omega))
  have HN1 := shade hN1
  have HN2 := shade hN2
  have HR2 := shade hR
  have s2 := hG.size
  clear hN1 hN2 hG hR HG1 HC1 HR1 HR0
  go_wp2_with fail
  refine (one_rel (fun x => 0 ≤ x ∧ x ≤ 40) (HR2.out.alloc _) (by omega) _ _ _ (by omega) (by omega) (by omega) (by omega) (by
    intro j hj
    rw [World.cell?_alloc_new]
    rcases (show j = 0 ∨ j = 1 ∨ j = 2 by omega) with rfl | rfl | rfl <;> exact ⟨_, by constructor <;> omega, rfl⟩)).mono ?_
  rintro e w3 ⟨x, hx, rfl, hR, hG⟩
  have hGa := World.grownBy_alloc w2 (.cells #[.int .i64 20, .int .i64 40, .int .i64 8] 3) none
  have HG3 := shade (only_trans HG2.out (only_trans (only_of hGa) hG))
  have HC3 := shade ((HC2.out.on hGa).grown hG (by intro b off e e'; injection e with e; injection e with e; injection e' with e'; omega))
  have HM1 := shade ((HN1.out.on hGa).grown hG (by intro b off e e'; have := hb1 b off e; injection e' with e'; omega))
  have HM2 := shade ((HN2.out.on hGa).grown hG (by intro b off e e'; have := hb2 b off e; injection e' with e'; omega))
  have HR3 := shade hR
  have s3 := hGa.size
  have s4 := hG.size
  clear hG hR hGa HG2 HC2 HN1 HN2 HR2 hb1 hb2
  go_wp2_with fail
  refine (SStepsOf_any _ k1 c1 F at' B1 n1 d1 B2 n2 d2 f1 f2 x _ (by omega) HC3.out HM1.out HM2.out (by omega) (by omega)).mono ?_
  rintro e w4 ⟨k, G, J, hk3, v1, v2, rfl, p1, p2, hg⟩
  obtain ⟨A4, c4, rfl, hA4⟩ := ownsRow_slice p1
  obtain ⟨A5, c5, rfl, hA5⟩ := ownsRow_slice p2
  have HP1 := shade p1
  have HP2 := shade p2
  have HG4 := shade (only_trans HG3.out (only_of hg))
  have HR4 := shade (HR3.out.on hg)
  have s5 := hg.size
  clear p1 p2 hg HG3 HC3 HM1 HM2 HR3
  have k4 := ownsRow_capsz HP1.out
  have k5 := ownsRow_capsz HP2.out
  rcases k with _ | q
  · go_wp2_with fail
    go_ret2
    exact ⟨A4, 0, c4, G, A5, 0, c5, J, rfl, ⟨by omega, by omega, by omega, by omega⟩, .inl rfl, .inl rfl, ⟨fun b off e => by have := hA4 b off e; omega, fun b off e => by have := hA5 b off e; omega⟩, HG4.out, _, by omega, HR4.out⟩
  · obtain ⟨g4, o4, hA4e, hl4, _⟩ := (code_own HP1.out).resolve_left (by omega)
    obtain ⟨g5, o5, hA5e, hl5, _⟩ := (bols_own HP2.out).resolve_left (by omega)
    obtain ⟨z4, rfl⟩ : ∃ z, A4 = some ⟨z, 0, none⟩ := by
      rcases HP1.out.2 with ⟨e, h0⟩ | ⟨g', c', cur, e, hb, _⟩
      · omega
      · injection e with e1 e2 e3
        exact ⟨g', e1⟩
    obtain ⟨z5, rfl⟩ : ∃ z, A5 = some ⟨z, 0, none⟩ := by
      rcases HP2.out.2 with ⟨e, h0⟩ | ⟨g', c', cur, e, hb, _⟩
      · omega
      · injection e with e1 e2 e3
        exact ⟨g', e1⟩
    injection hA4e with hA4e
    injection hA4e with e1 e2
    subst e1 e2
    injection hA5e with hA5e
    injection hA5e with e1 e2
    subst e1 e2
    have l4 := (hA4 _ _ rfl).1
    have l5 := (hA5 _ _ rfl).1
    clear hA4 hA5
    have hne45 : z4 ≠ z5 := fun e => rows_other HP1.out HP2.out (by decide) (b := z4) rfl (by rw [e]; rfl)
    have i5 : (1 : Int) ≤ (c5 : Int) := by omega
    have i6 : (0 : Int) < (q : Int) + 1 := by omega
    have i7 : (1 : Int) ≤ (q : Int) + 1 := by omega
    have i8 : (q : Int) + 1 ≤ (c5 : Int) := by omega
    go_wp2_with fail
    refine (pick_rel 24 HR4.out (by omega)).mono ?_
    rintro e w5 ⟨v5, hv5, rfl, hR, hG⟩
    have HG5 := shade (only_trans HG4.out hG)
    have HR5 := shade hR
    have HO1 := shade (show OwnC w5 w3.heap.size (some ⟨z4, 0, none⟩) (q + 1) c4 G from World.ownsRow.kept HP1.out hG (.inr (fun e => by
      have e' : z4 = g := by injection e
      omega)))
    have HO2 := shade (show OwnB w5 w3.heap.size (some ⟨z5, 0, none⟩) (q + 1) c5 J from World.ownsRow.kept HP2.out hG (.inr (fun e => by
      have e' : z5 = g := by injection e
      omega)))
    have s6 := hG.size
    clear hG hR HP1 HP2 HG4 HR4
    by_cases h5 : v5 = 0
    · subst h5
      go_wp2_with fail
      refine (of_rel (fun _ => True) (HR5.out.alloc _) (by omega) _ _ _ (by omega) (by omega) (by omega) (by omega) (by
        intro j hj
        rw [World.cell?_alloc_new]
        rcases (show j = 0 ∨ j = 1 by omega) with rfl | rfl <;> exact ⟨_, trivial, rfl⟩)).mono ?_
      rintro e w6 ⟨op, -, rfl, hR, hG⟩
      have hGa := World.grownBy_alloc w5 (.cells #[.string ⟨#[104, 108, 116]⟩, .string ⟨#[110, 111, 112]⟩] 9) none
      have HG6 := shade (only_trans HG5.out (only_trans (only_of hGa) hG))
      have HR6 := shade hR
      have hp1 : OwnC w6 w3.heap.size (some ⟨z4, 0, none⟩) (q + 1) c4 G := World.ownsRow.kept (ownsRow_on HO1.out hGa) hG (.inr (fun e => by
        have e' : z4 = g := by injection e
        omega))
      have HO26 := shade (show OwnB w6 w3.heap.size (some ⟨z5, 0, none⟩) (q + 1) c5 J from World.ownsRow.kept (ownsRow_on HO2.out hGa) hG (.inr (fun e => by
        have e' : z5 = g := by injection e
        omega)))
      have s7 := hG.size
      have s8 := hGa.size
      have t0 := World.ownsRow.frozenAt hp1 0; have t1 := World.ownsRow.frozenAt hp1 1; have t2 := World.ownsRow.frozenAt hp1 2; have t3 := World.ownsRow.frozenAt hp1 3; have t4 := World.ownsRow.frozenAt hp1 4
      obtain ⟨r0, r1, r2, r3, r4⟩ := (OwnC.code hp1).five (show 0 < q + 1 by omega)
      simp only [Nat.zero_mul, Nat.add_zero, Nat.zero_add] at r0 r1 r2 r3 r4
      have hp2 := OwnC.put hp1 0 ⟨op, 0, 0, 0, 0⟩
      simp only [Nat.zero_mul, Nat.add_zero, Nat.zero_add] at hp2
      have HP2 := shade hp2
      have HP1 := shade hp1
      clear hR hG hGa hp1 hp2 HG5 HR5 HO1 HO2
      go_wp2_with fail
      obtain ⟨w7, hw7⟩ : ∃ w7, (((((w6.setCell ⟨z4, 0, none⟩ (.string op)).setCell ⟨z4, 1, none⟩ (.int .i64 0)).setCell ⟨z4, 2, none⟩ (.int .i64 0)).setCell ⟨z4, 3, none⟩ (.int .i64 0)).setCell ⟨z4, 4, none⟩ (.int .i64 0)) = w7 := ⟨_, rfl⟩
      have hg7 : w6.grownBy (((((w6.setCell ⟨z4, 0, none⟩ (.string op)).setCell ⟨z4, 1, none⟩ (.int .i64 0)).setCell ⟨z4, 2, none⟩ (.int .i64 0)).setCell ⟨z4, 3, none⟩ (.int .i64 0)).setCell ⟨z4, 4, none⟩ (.int .i64 0)) (some z4) := grown_same (grown_same (grown_same (grown_same (grown_set z4 0 _) (grown_set z4 1 _)) (grown_set z4 2 _)) (grown_set z4 3 _)) (grown_set z4 4 _)
      rw [hw7] at hg7 HP2 ⊢
      clear hw7 t0 t1 t2 t3 t4 r0 r1 r2 r3 r4
      have HRX := shade (HR6.out.kept hg7 (fun e => by
        have e' : g = z4 := by injection e
        omega) (fun b off hA hn e => by
        have e' : b = z4 := by injection e
        have := HLA.out b off hA hn
        omega))
      have HGX := shade (only_row HG6.out hg7 (fun j e => by
        have e' : z4 = j := by injection e
        omega))
      have HCX := shade (OwnC.code HP2.out)
      have HBX := shade (OwnB.bols (show OwnB w7 w3.heap.size (some ⟨z5, 0, none⟩) (q + 1) c5 J from World.ownsRow.kept HO26.out hg7 (.inr (fun e => by
        have e' : z5 = z4 := by injection e
        exact hne45 e'.symm))))
      have s9 := hg7.size
      clear hg7 HP1 HP2 HG6 HR6 HO26
      obtain ⟨G2, hG2⟩ : ∃ G2, (fun j => if j = 0 then (⟨op, 0, 0, 0, 0⟩ : Ins) else G j) = G2 := ⟨_, rfl⟩
      rw [hG2] at HCX
      clear hG2
      refine (pick_rel 30 HRX.out (by omega)).mono ?_
      rintro e w8 ⟨v8, hv8, rfl, hR, hG⟩
      have HG8 := shade (only_trans HGX.out hG)
      have HR8 := shade hR
      have HC8 := shade (HCX.out.grown hG (by intro b off e e'; injection e with e; injection e with e; injection e' with e'; omega))
      have HB8 := shade (HBX.out.grown hG (by intro b off e e'; injection e with e; injection e with e; injection e' with e'; omega))
      clear hG hR HRX HGX HCX HBX
      by_cases h8 : v8 = 0
      · subst h8
        have HC9 := shade (HC8.out.on (grown_drew1 w8))
        have HB9 := shade (HB8.out.grown (grown_drew1 w8) (by intro _ _ _ e; cases e))
        have HG9 := shade (only_row HG8.out (grown_drew1 w8) (by intro _ e; cases e))
        have HR9 := shade (HR8.out.drew)
        clear HC8 HB8 HG8 HR8
        by_cases hc5 : c5 = 1
        · obtain rfl : q = 0 := by omega
          subst hc5
          go_wp2_with fail
          go_region_held3 (fun _ => True) (exact trivial) (fail)
          go_wp2_with fail
          go_ret2
          exact ⟨_, 0 + 1, c4, G2, _, 0, _, J, rfl, ⟨by omega, by omega, by omega, by omega⟩, HC9.out, .inl rfl, ⟨fun b off e => by injection e with e; injection e with e; omega, fun b off e => by injection e with e; injection e with e; omega⟩, HG9.out, _, by omega, HR9.out⟩
        · have i9 : ¬ (c5 : Int) = 1 := by omega
          go_wp2_with fail
          go_region_held3 (fun _ => True) (exact trivial) (fail)
          go_wp2_with fail
          go_ret2
          exact ⟨_, q + 1, c4, G2, some ⟨z5, 1, none⟩, q, c5 - 1, _, rfl, ⟨by omega, by omega, by omega, by omega⟩, HC9.out, (by have h := bols_tail HB9.out; rwa [Nat.zero_add] at h), ⟨fun b off e => by injection e with e; injection e with e; omega, fun b off e => by injection e with e; injection e with e; omega⟩, HG9.out, _, by omega, HR9.out⟩
      · have e8 : (v8 == 0) = false := beq_eq_false_iff_ne.2 h8
        go_wp2_with fail
        go_ret2
        exact ⟨_, q + 1, c4, G2, _, q + 1, c5, J, rfl, ⟨by omega, by omega, by omega, by omega⟩, HC8.out, HB8.out, ⟨fun b off e => by injection e with e; injection e with e; omega, fun b off e => by injection e with e; injection e with e; omega⟩, HG8.out, _, by omega, HR8.out⟩

    · have e5 : (v5 == 0) = false := beq_eq_false_iff_ne.2 h5
      have HCX := shade (OwnC.code HO1.out)
      have HBX := shade (OwnB.bols HO2.out)
      have HGX := shade HG5.out
      have HRX := shade HR5.out
      obtain ⟨G2, hG2⟩ : ∃ G2, G = G2 := ⟨_, rfl⟩
      rw [hG2] at HCX
      clear hG2
      go_wp2_with fail
      refine (pick_rel 30 HRX.out (by omega)).mono ?_
      rintro e w8 ⟨v8, hv8, rfl, hR, hG⟩
      have HG8 := shade (only_trans HGX.out hG)
      have HR8 := shade hR
      have HC8 := shade (HCX.out.grown hG (by intro b off e e'; injection e with e; injection e with e; injection e' with e'; omega))
      have HB8 := shade (HBX.out.grown hG (by intro b off e e'; injection e with e; injection e with e; injection e' with e'; omega))
      clear hG hR HRX HGX HCX HBX
      by_cases h8 : v8 = 0
      · subst h8
        have HC9 := shade (HC8.out.on (grown_drew1 w8))
        have HB9 := shade (HB8.out.grown (grown_drew1 w8) (by intro _ _ _ e; cases e))
        have HG9 := shade (only_row HG8.out (grown_drew1 w8) (by intro _ e; cases e))
        have HR9 := shade (HR8.out.drew)
        clear HC8 HB8 HG8 HR8
        by_cases hc5 : c5 = 1
        · obtain rfl : q = 0 := by omega
          subst hc5
          go_wp2_with fail
          go_region_held3 (fun _ => True) (exact trivial) (fail)
          go_wp2_with fail
          go_ret2
          exact ⟨_, 0 + 1, c4, G2, _, 0, _, J, rfl, ⟨by omega, by omega, by omega, by omega⟩, HC9.out, .inl rfl, ⟨fun b off e => by injection e with e; injection e with e; omega, fun b off e => by injection e with e; injection e with e; omega⟩, HG9.out, _, by omega, HR9.out⟩
        · have i9 : ¬ (c5 : Int) = 1 := by omega
          go_wp2_with fail
          go_region_held3 (fun _ => True) (exact trivial) (fail)
          go_wp2_with fail
          go_ret2
          exact ⟨_, q + 1, c4, G2, some ⟨z5, 1, none⟩, q, c5 - 1, _, rfl, ⟨by omega, by omega, by omega, by omega⟩, HC9.out, (by have h := bols_tail HB9.out; rwa [Nat.zero_add] at h), ⟨fun b off e => by injection e with e; injection e with e; omega, fun b off e => by injection e with e; injection e with e; omega⟩, HG9.out, _, by omega, HR9.out⟩
      · have e8 : (v8 == 0) = false := beq_eq_false_iff_ne.2 h8
        go_wp2_with fail
        go_ret2
        exact ⟨_, q + 1, c4, G2, _, q + 1, c5, J, rfl, ⟨by omega, by omega, by omega, by omega⟩, HC8.out, HB8.out, ⟨fun b off e => by injection e with e; injection e with e; omega, fun b off e => by injection e with e; injection e with e; omega⟩, HG8.out, _, by omega, HR8.out⟩
end Go.Proofs.YtlmjbflnfpccdaaDoor

namespace Go.Proofs.YtlmjbflnfpccdaaDoor
open Go.RowKit
set_option linter.unusedSimpArgs false
/-- What is drawn: instructions, Booleans, and a Boolean; nothing that was there has changed. -/
def DrawP (w : World) (e : Ending) (w' : World) : Prop :=
  ∃ (A1 : Option Addr) (k c : Nat) (G : Nat → Ins) (A2 : Option Addr) (m d : Nat) (J : Nat → Bool) (fw : Bool), e = .returned (.tuple #[.slice A1 k c, .slice A2 m d, .bool fw]) ∧ (k ≤ 300 ∧ m ≤ 300 ∧ k ≤ c ∧ m ≤ d) ∧ Code w' A1 k G ∧ Bols w' A2 m J ∧ w.grownBy w' none
set_option maxRecDepth 100000 in
set_option maxHeartbeats 8000000 in
theorem DrawPipeTicks_any (A : Option Addr) (n cap : Nat) (zs : List Int) (w : World) (h : Bys w A n cap zs) :
    Calls Tryd.prog 32 #[.slice A n cap] w (DrawP w) := by
  have HN := shade (newReader_any A n cap zs w h)
  clear h
  go_enter Tryd.func32, Tryd.ntmps32
  go_wp2_with fail
  refine HN.out.mono ?_
  rintro e w1 ⟨m, rfl, hR, hb1⟩
  have HG1 := shade (grown_of_below hb1)
  have HR1 := shade hR
  clear hR hb1 HN
  go_wp2_with fail
  refine (aTrace_any HR1.out (by omega)).mono ?_
  rintro e w2 ⟨A1, k, c, G, A2, mm, d, J, rfl, hkk, hC, hB, ⟨hA1, hA2⟩, hG, q, hq, hR⟩
  have l1 := HR1.out.blk.inside
  have HG2 := shade (grown_then HG1.out hG (Nat.le_refl _))
  have HC2 := shade hC
  have HB2 := shade hB
  have HR2 := shade hR
  clear hC hB hG hR HG1 HR1
  go_wp2_with fail
  refine (pick_rel 2 HR2.out (by omega)).mono ?_
  rintro e w3 ⟨v, hv, rfl, hR, hG⟩
  have HC3 := shade (HC2.out.grown hG (by
    intro b off e e'
    have := hA1 b off e
    have e2 : b = w.heap.size := by injection e'
    omega))
  have HB3 := shade (HB2.out.grown hG (by
    intro b off e e'
    have := hA2 b off e
    have e2 : b = w.heap.size := by injection e'
    omega))
  have HG3 := shade (grown_then HG2.out hG (Nat.le_refl _))
  clear hR hG HC2 HB2 HG2 HR2
  go_wp2_with fail
  refine bodyPost_ret (v := .tuple #[.slice A1 k c, .slice A2 mm d, .bool (v == 0)]) (by simp [results, Tryd.results32, go_sem]) rfl ?_
  exact ⟨A1, k, c, G, A2, mm, d, J, _, rfl, hkk, HC3.out, HB3.out, HG3.out⟩
set_option maxRecDepth 100000 in
set_option maxHeartbeats 8000000 in
theorem DrawPipeTime_any (A : Option Addr) (n cap : Nat) (zs : List Int) (w : World) (h : Bys w A n cap zs) :
    Calls Tryd.prog 34 #[.slice A n cap] w (DrawP w) := by
  have HN := shade (newReader_any A n cap zs w h)
  clear h
  go_enter Tryd.func34, Tryd.ntmps34
  go_wp2_with fail
  refine HN.out.mono ?_
  rintro e w1 ⟨m, rfl, hR, hb1⟩
  have HG1 := shade (grown_of_below hb1)
  have HR1 := shade hR
  clear hR hb1 HN
  go_wp2_with fail
  refine (aTrace_any HR1.out (by omega)).mono ?_
  rintro e w2 ⟨A1, k, c, G, A2, mm, d, J, rfl, hkk, hC, hB, ⟨hA1, hA2⟩, hG, q, hq, hR⟩
  have l1 := HR1.out.blk.inside
  have HG2 := shade (grown_then HG1.out hG (Nat.le_refl _))
  have HC2 := shade hC
  have HB2 := shade hB
  have HR2 := shade hR
  clear hC hB hG hR HG1 HR1
  go_wp2_with fail
  refine (pick_rel 2 HR2.out (by omega)).mono ?_
  rintro e w3 ⟨v, hv, rfl, hR, hG⟩
  have HC3 := shade (HC2.out.grown hG (by
    intro b off e e'
    have := hA1 b off e
    have e2 : b = w.heap.size := by injection e'
    omega))
  have HB3 := shade (HB2.out.grown hG (by
    intro b off e e'
    have := hA2 b off e
    have e2 : b = w.heap.size := by injection e'
    omega))
  have HG3 := shade (grown_then HG2.out hG (Nat.le_refl _))
  clear hR hG HC2 HB2 HG2 HR2
  go_wp2_with fail
  refine bodyPost_ret (v := .tuple #[.slice A1 k c, .slice A2 mm d, .bool (v == 0)]) (by simp [results, Tryd.results34, go_sem]) rfl ?_
  exact ⟨A1, k, c, G, A2, mm, d, J, _, rfl, hkk, HC3.out, HB3.out, HG3.out⟩
set_option maxRecDepth 100000 in
set_option maxHeartbeats 8000000 in
theorem DrawPipeTable_any (A : Option Addr) (n cap : Nat) (zs : List Int) (w : World) (h : Bys w A n cap zs) :
    Calls Tryd.prog 35 #[.slice A n cap] w (DrawP w) := by
  have HN := shade (newReader_any A n cap zs w h)
  clear h
  go_enter Tryd.func35, Tryd.ntmps35
  go_wp2_with fail
  refine HN.out.mono ?_
  rintro e w1 ⟨m, rfl, hR, hb1⟩
  have HG1 := shade (grown_of_below hb1)
  have HR1 := shade hR
  clear hR hb1 HN
  go_wp2_with fail
  refine (aTrace_any HR1.out (by omega)).mono ?_
  rintro e w2 ⟨A1, k, c, G, A2, mm, d, J, rfl, hkk, hC, hB, ⟨hA1, hA2⟩, hG, q, hq, hR⟩
  have l1 := HR1.out.blk.inside
  have HG2 := shade (grown_then HG1.out hG (Nat.le_refl _))
  have HC2 := shade hC
  have HB2 := shade hB
  have HR2 := shade hR
  clear hC hB hG hR HG1 HR1
  go_wp2_with fail
  refine (pick_rel 2 HR2.out (by omega)).mono ?_
  rintro e w3 ⟨v, hv, rfl, hR, hG⟩
  have HC3 := shade (HC2.out.grown hG (by
    intro b off e e'
    have := hA1 b off e
    have e2 : b = w.heap.size := by injection e'
    omega))
  have HB3 := shade (HB2.out.grown hG (by
    intro b off e e'
    have := hA2 b off e
    have e2 : b = w.heap.size := by injection e'
    omega))
  have HG3 := shade (grown_then HG2.out hG (Nat.le_refl _))
  clear hR hG HC2 HB2 HG2 HR2
  go_wp2_with fail
  refine bodyPost_ret (v := .tuple #[.slice A1 k c, .slice A2 mm d, .bool (v == 0)]) (by simp [results, Tryd.results35, go_sem]) rfl ?_
  exact ⟨A1, k, c, G, A2, mm, d, J, _, rfl, hkk, HC3.out, HB3.out, HG3.out⟩
set_option maxRecDepth 100000 in
set_option maxHeartbeats 8000000 in
theorem DrawStallsOf_any (A : Option Addr) (n cap : Nat) (zs : List Int) (w : World) (h : Bys w A n cap zs) :
    Calls Tryd.prog 38 #[.slice A n cap] w (DrawP w) := by
  have HN := shade (newReader_any A n cap zs w h)
  clear h
  go_enter Tryd.func38, Tryd.ntmps38
  go_wp2_with fail
  refine HN.out.mono ?_
  rintro e w1 ⟨m, rfl, hR, hb1⟩
  have HG1 := shade (grown_of_below hb1)
  have HR1 := shade hR
  clear hR hb1 HN
  go_wp2_with fail
  refine (aTrace_any HR1.out (by omega)).mono ?_
  rintro e w2 ⟨A1, k, c, G, A2, mm, d, J, rfl, hkk, hC, hB, ⟨hA1, hA2⟩, hG, q, hq, hR⟩
  have l1 := HR1.out.blk.inside
  have HG2 := shade (grown_then HG1.out hG (Nat.le_refl _))
  have HC2 := shade hC
  have HB2 := shade hB
  have HR2 := shade hR
  clear hC hB hG hR HG1 HR1
  go_wp2_with fail
  refine (pick_rel 2 HR2.out (by omega)).mono ?_
  rintro e w3 ⟨v, hv, rfl, hR, hG⟩
  have HC3 := shade (HC2.out.grown hG (by
    intro b off e e'
    have := hA1 b off e
    have e2 : b = w.heap.size := by injection e'
    omega))
  have HB3 := shade (HB2.out.grown hG (by
    intro b off e e'
    have := hA2 b off e
    have e2 : b = w.heap.size := by injection e'
    omega))
  have HG3 := shade (grown_then HG2.out hG (Nat.le_refl _))
  clear hR hG HC2 HB2 HG2 HR2
  go_wp2_with fail
  refine bodyPost_ret (v := .tuple #[.slice A1 k c, .slice A2 mm d, .bool (v == 0)]) (by simp [results, Tryd.results38, go_sem]) rfl ?_
  exact ⟨A1, k, c, G, A2, mm, d, J, _, rfl, hkk, HC3.out, HB3.out, HG3.out⟩
end Go.Proofs.YtlmjbflnfpccdaaDoor
