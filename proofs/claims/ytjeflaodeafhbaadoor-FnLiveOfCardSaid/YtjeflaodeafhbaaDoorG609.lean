/- The model's dropDead. DropDead and its model answer alike. Shrinking: the same programs, one behind the other; walked. What DropDead leaves does as the program: from what is kept. -/
import Derived.Test.YtjeflaodeafhbaaDoorW604
import Derived.Test.YtjeflaodeafhbaaDoorG600
namespace Go.Proofs.YtjeflaodeafhbaaDoor
open Go.RowKit
set_option linter.unusedSimpArgs false
theorem kp_one : ∀ (r : Fin 4) (y : Fin 16), (bits .andNot .i64 (2 ^ r.val) (y.val : Int) != 0) = !(bits .and .i64 (2 ^ r.val) (y.val : Int) != 0) := by decide +kernel
theorem kp_none : ∀ y : Fin 16, (bits .andNot .i64 0 (y.val : Int) != 0) = false := by decide +kernel
theorem uw_one {F : Nat → Ins} {n x : Nat} (hv : vcB n F = true) : uwO F n x = 0 ∨ ∃ r, r < 4 ∧ uwO F n x = 2 ^ r := by
  unfold uwO
  by_cases hx : x < n
  · rw [if_pos hx]
    have h1 := okI_vcB hv hx
    unfold okI at h1
    simp only [Bool.and_eq_true] at h1
    obtain ⟨_, ⟨b1, b1'⟩, _⟩ := VI_bounds (vB_true.1 h1.1)
    unfold usesW
    split
    · have h := sh_two (F x).d.toNat (by omega)
      rw [Int.toNat_of_nonneg b1] at h
      exact .inr ⟨_, by omega, h⟩
    · exact .inl rfl
  · rw [if_neg hx]
    exact .inl rfl
/-- The model's test is the program's. -/
theorem kp_same {F : Nat → Ins} {n x : Nat} {y : Int} (hv : vcB n F = true) (hy : S4 y) :
    (!(bits .andNot .i64 (uwO F n x) y != 0)) = (decide (uwO F n x = 0) || (bits .and .i64 (uwO F n x) y != 0)) := by
  obtain ⟨z, rfl⟩ := hy.fin
  rcases uw_one (x := x) hv with e | ⟨r, hr, e⟩
  · rw [e, kp_none]
    rfl
  · have h := kp_one ⟨r, hr⟩ z
    rw [e]
    have h0 : ¬ ((2 : Int) ^ r = 0) := by
      rcases (show r = 0 ∨ r = 1 ∨ r = 2 ∨ r = 3 by omega) with rfl | rfl | rfl | rfl <;> decide
    rw [decide_eq_false h0, Bool.false_or]
    have h' : (bits .andNot .i64 (2 ^ r) (z.val : Int) != 0) = !(bits .and .i64 (2 ^ r) (z.val : Int) != 0) := h
    rw [h', Bool.not_not]
/-- The marks of what is kept, so far. -/
structure Kpr (w0 wr : World) (g n : Nat) (f : Nat → Bool) : Prop where
  own : OwnB wr w0.heap.size (some ⟨g, 0, none⟩) n n f
  low : w0.grownBy wr none
theorem Kpr.on {w0 wr w2 : World} {g n : Nat} {f : Nat → Bool} (h : Kpr w0 wr g n f) (hg : wr.grownBy w2 none) : Kpr w0 w2 g n f := ⟨h.own.on hg, grown_same h.low hg⟩
theorem Kpr.set {w0 wr : World} {g n : Nat} {f : Nat → Bool} (h : Kpr w0 wr g n f) (k : Nat) (x : Bool) : Kpr w0 (wr.setCell ⟨g, k, none⟩ (.bool x)) g n (fun j => if j = k then x else f j) :=
  ⟨h.own.set k x, grown_then h.low (grown_set g k _) h.own.lt.1⟩
set_option maxRecDepth 100000 in
set_option maxHeartbeats 16000000 in
theorem specDrop_any (A : Option Addr) (n c : Nat) (F : Nat → Ins) (f : Nat → Bool) (gx : Nat → Int) (w : World) (hv : vcB n F = true) (h : Code w A n F)
    (hf : ∀ y, f y = true ↔ Way F n noCut 0 y) (hgx : ∀ x, S4 (gx x) ∧ ∀ r, r < 4 → (bt (gx x) r = true ↔ Need F n r x)) :
    Calls Tryd.prog 49 #[.slice A n c] w (CodeRes (ctK (kpD F n f gx) n) (koP F (kpD F n f gx) n) w) := by
  have hn := vcB_40 hv
  have HV := shade hv; have HC := shade h; have HF := shade hf; have HGX := shade hgx
  clear hv h hf hgx
  have HR := shade (show Calls Tryd.prog 80 #[.slice A n c] w (MarkRes (n + 1) f w) from (specReached_any A n c F w HV.out HC.out).mono fun e w' h => by
    obtain ⟨r, hr, hm⟩ := h
    exact hm.congr (fun y hy => by rw [Bool.eq_iff_iff, hr y (by omega), HF.out y]))
  have HL := shade (fun W (hC : Code W A n F) => specLive_any A n c F gx W HV.out hC HGX.out)
  obtain ⟨i0, hi, hz0, hz1, hz2⟩ := info_parts info4b
  go_enter Tryd.func49, Tryd.ntmps49
  go_wp2_with fail
  refine HR.out.mono ?_
  rintro e w1 ⟨v1, rfl, ho1, hg1⟩
  obtain ⟨A1, c1, rfl, hb1⟩ := own_bols ho1
  have HG1 := shade hg1
  have HB1 := shade hb1
  clear ho1 hg1 hb1 HR
  go_wp2_with fail
  refine (HL.out _ (HC.out.on HG1.out)).mono ?_
  rintro e w2 ⟨v2, rfl, ho2, hg2⟩
  obtain ⟨A2, c2, rfl, hn2⟩ := own_nums ho2
  have HG2 := shade (grown_same HG1.out hg2)
  have HB2 := shade (HB1.out.grown hg2 (by intro _ _ _ e; cases e))
  have HN2 := shade hn2
  clear ho2 hg2 hn2 HL HG1 HB1
  go_wp2_with (first
    | (at_make; refine wpList_make_full _ rfl _ _ 82 rfl w2.heap.size 4 i0 (.bool false) 1 Tryd.underlying82 hi hz0 hz1 .i64 .i64 n n n rfl rfl rfl rfl (by rw [hz2]; omega) (by unfold maxLen; omega) (Nat.le_refl _) ?_)
    | go_in)
  intro w3 hown3 hgr3
  simp only [Nat.mul_one, made_bools] at hown3
  have K0 := shade (show Kpr w2 w3 w2.heap.size n (fun _ => false) from ⟨hown3, hgr3⟩)
  clear hown3 hgr3 hi hz0 hz1 hz2
  go_wp2_with fail
  go_loopw [6] (fun q wr => ∃ (i : Nat) (kf : Nat → Bool), i ≤ n ∧ q = .int .i64 (i : Int) ∧ (∀ j, j < i → kf j = kpD F n f gx j) ∧ Kpr w2 wr w2.heap.size n kf) (fun q _ => n - (intOf q).toNat)
  case atStart => exact ⟨0, _, Nat.zero_le _, rfl, fun j hj => absurd hj (Nat.not_lt_zero j), K0.out⟩
  case round =>
    clear K0
    obtain ⟨i, kf, hi, rfl, hk, hp⟩ := hrel
    have HP := shade hp; have HK := shade hk
    clear hp hk
    by_cases hin : i < n
    · obtain ⟨cb, co, rfl, -⟩ := HC.out.resolve_left (by omega)
      obtain ⟨q0, q1, q2, q3, q4⟩ := (HC.out.on (grown_same HG2.out HP.out.low)).five hin
      have HX := shade (word_small HV.out hin)
      have HU := shade (show Calls Tryd.prog 68 #[IV (F i).op (F i).d (F i).a (F i).b (F i).k] wr fun e w' => e = .returned (.tuple #[.int .i64 (urO F n i), .int .i64 (uwO F n i)]) ∧ Below wr.heap.size wr w' from by
        have h := specUsesOf_any (F i).op (F i).d (F i).a (F i).b (F i).k HX.out.1 (wordN (F i).op.toList).toNat (by have := HX.out.2; omega) (by have := HX.out.2; omega) wr
        rw [show urO F n i = _ from if_pos hin, show uwO F n i = _ from if_pos hin]
        exact h)
      have HNX := shade (fun b (hb : b = kpD F n f gx i) => (show ∀ j, j < i + 1 → (if j = i then b else kf j) = kpD F n f gx j from fun j hj => by
        by_cases e : j = i
        · rw [if_pos e, e, hb]
        · rw [if_neg e]
          exact HK.out j (by omega)))
      have HKP := shade (show kpD F n f gx i = (f i && (decide (uwO F n i = 0) || (bits .and .i64 (uwO F n i) (gx (i + 1)) != 0))) from by
        unfold kpD
        rw [kp_same HV.out (HGX.out (i + 1)).1])
      clear HX HK
      obtain ⟨b, hb⟩ : ∃ b, kpD F n f gx i = b := ⟨_, rfl⟩
      rw [hb] at HKP HNX
      clear hb
      generalize urO F n i = u at *
      generalize uwO F n i = v at *
      generalize F i = cc at *
      obtain ⟨op, d, a, b', kk⟩ := cc
      simp only [] at q0 q1 q2 q3 q4 HU
      go_wp2_with fail
      refine HU.out.mono ?_
      rintro e w5 ⟨rfl, hb5⟩
      have hg5 := grown_of_below hb5
      have HP5 := shade (HP.out.on hg5)
      have HY := HB2.out.grown (grown_same HP.out.low hg5) (by intro _ _ _ e; cases e)
      have HZ := HN2.out.grown (grown_same HP.out.low hg5) (by intro _ _ _ e; cases e)
      obtain ⟨a1, o1, rfl, -⟩ := HY.resolve_left (by omega)
      obtain ⟨a2, o2, rfl, -⟩ := HZ.resolve_left (by omega)
      have s1 := HY.cell (j := i) (by omega)
      have s2 := HZ.cell (j := i + 1) (by omega)
      have s3 := HP5.out.own.bols.cell (j := i) hin
      rw [Nat.zero_add] at s3
      have s4 := World.ownsRow.frozenAt HP5.out.own i
      have HS := shade (fun x => HP5.out.set i x)
      clear hb5 hg5 HY HZ HU HP q0 q1 q2 q3 q4
      rcases hf : f i with _ | _
      · rw [hf] at s1
        have hb0 : b = false := by rw [HKP.out, hf, Bool.false_and]
        subst hb0
        clear hf HKP
        go_wp2_with fail
        go_roundw
        case rel => exact ⟨i + 1, _, by omega, by go_num, HNX.out false rfl, HS.out false⟩
        case measure => simp [intOf]; omega
      · rw [hf] at s1
        have hk1 := HKP.out
        rw [hf, Bool.true_and] at hk1
        by_cases hv0 : v = 0
        · subst hv0
          have hb0 : b = true := by rw [hk1]; rfl
          subst hb0
          clear hf HKP hk1
          go_wp2_with fail
          go_roundw
          case rel => exact ⟨i + 1, _, by omega, by go_num, HNX.out true rfl, HS.out true⟩
          case measure => simp [intOf]; omega
        · rw [decide_eq_false hv0, Bool.false_or] at hk1
          have hv1 : (v == 0) = false := beq_eq_false_iff_ne.2 hv0
          have HB := shade hk1
          clear hf HKP hk1
          generalize gx (i + 1) = y at *
          go_wp2_with fail
          go_roundw
          case rel => exact ⟨i + 1, _, by omega, by go_num, HNX.out b rfl, by rw [HB.out]; exact HS.out _⟩
          case measure => simp [intOf]; omega
    · obtain rfl : i = n := by omega
      have HBK := shade (HP.out.own.bols.congr (fun j hj => HK.out j hj))
      have HLO := shade (grown_same HG2.out HP.out.low)
      go_wp2_with fail
      refine (keepOnly_any A _ i c _ F (kpD F i f gx) _ HV.out (HC.out.on HLO.out) HBK.out).mono ?_
      rintro e w5 ⟨v5, rfl, ho5, hg5⟩
      have HO := shade (CodeRes.after HLO.out (show CodeRes (ctK (kpD F i f gx) i) (koP F (kpD F i f gx) i) wr (.returned v5) w5 from ⟨v5, rfl, ho5, hg5⟩))
      clear ho5 hg5
      go_wp2_with fail
      go_ret
      exact HO.out
end Go.Proofs.YtjeflaodeafhbaaDoor

namespace Go.Proofs.YtjeflaodeafhbaaDoor
open Go.RowKit
set_option linter.unusedSimpArgs false
/-- What DropDead keeps. -/
def DropG (F : Nat → Ins) (n : Nat) (g : Nat → Bool) : Prop :=
  ∃ (f : Nat → Bool) (gx : Nat → Int), (∀ y, f y = true ↔ Way F n noCut 0 y) ∧ (∀ x, S4 (gx x) ∧ ∀ r, r < 4 → (bt (gx x) r = true ↔ Need F n r x)) ∧ g = kpD F n f gx
set_option maxHeartbeats 4000000 in
theorem drop_both (n : Nat) (F : Nat → Ins) (hn : n ≤ 9223372036854775807) :
    ∃ (K : Nat) (f : Nat → Ins), K ≤ 300 ∧ (∀ (A : Option Addr) (c : Nat) (W : World), Code W A n F → Calls Tryd.prog 20 #[.slice A n c] W (CodeRes K f W)) ∧
      (∀ (A : Option Addr) (c : Nat) (W : World), WT W → Code W A n F → Calls Tryd.prog 18 #[.slice A n c] W (CodeRes K f W)) ∧
      ((vcB n F = false ∧ K = 0) ∨ (vcB n F = true ∧ ∃ g, DropG F n g ∧ K = ctK g n ∧ f = koP F g n)) := by
  rcases hv : vcB n F with _ | _
  · refine ⟨0, fun _ => zIns, by omega, fun A c W hC => ?_, fun A c W hg hC => ?_, .inl ⟨rfl, rfl⟩⟩
    · have HV := shade (validCode_any A n c F W hn hC)
      rw [hv] at HV
      clear hv hC
      go_enter Tryd.func20, Tryd.ntmps20
      go_wp2_with fail
      refine HV.out.mono ?_
      rintro e w1 ⟨rfl, hgr⟩
      have HR := shade hgr
      clear hgr HV
      go_wp2_with fail
      go_ret
      exact CodeRes.nil _ _ _ HR.out
    · have HV := shade (ValidCode_any A n c F W hg hn hC)
      rw [hv] at HV
      clear hv hC hg
      go_enter Tryd.func18, Tryd.ntmps18
      go_wp2_with fail
      refine HV.out.mono ?_
      rintro e w1 ⟨rfl, hgr⟩
      have HR := shade hgr
      clear hgr HV
      go_wp2_with fail
      go_ret
      exact CodeRes.nil _ _ _ HR.out
  · have hn40 := vcB_40 hv
    have HVT := shade hv
    obtain ⟨gx, hgx⟩ := need_sets F n
    obtain ⟨f, hf⟩ : ∃ f : Nat → Bool, ∀ y, f y = true ↔ Way F n noCut 0 y := ⟨fun y => @decide _ (Classical.propDecidable (Way F n noCut 0 y)), fun y => @decide_eq_true_iff _ (Classical.propDecidable _)⟩
    have HF := shade hf; have HGX := shade hgx
    have HPOST : ∃ g, DropG F n g ∧ ctK (kpD F n f gx) n = ctK g n ∧ koP F (kpD F n f gx) n = koP F g n := ⟨kpD F n f gx, ⟨f, gx, hf, hgx, rfl⟩, rfl, rfl⟩
    clear hf hgx
    refine ⟨ctK (kpD F n f gx) n, koP F (kpD F n f gx) n, by have := ctK_le (kpD F n f gx) n; omega, fun A c W hC => ?_, fun A c W hg hC => ?_, .inr ⟨rfl, HPOST⟩⟩
    · have HV := shade (validCode_any A n c F W hn hC)
      rw [hv] at HV
      have HC := shade hC
      skip
      clear hv hC
      go_enter Tryd.func20, Tryd.ntmps20
      go_wp2_with fail
      refine HV.out.mono ?_
      rintro e w1 ⟨rfl, hgr⟩
      have HR := shade hgr
      clear hgr HV
      go_wp2_with fail
      refine (specDrop_any A n c F f gx w1 HVT.out (HC.out.on HR.out) HF.out HGX.out).mono ?_
      rintro e w2 ⟨v, rfl, ho, hg2⟩
      have HO := shade (CodeRes.after HR.out (show CodeRes (ctK (kpD F n f gx) n) (koP F (kpD F n f gx) n) w1 (.returned v) w2 from ⟨v, rfl, ho, hg2⟩))
      clear ho hg2
      go_wp2_with fail
      go_ret
      exact HO.out
    · have HV := shade (ValidCode_any A n c F W hg hn hC)
      rw [hv] at HV
      have HC := shade hC
      have HG := shade hg
      clear hv hC hg
      go_enter Tryd.func18, Tryd.ntmps18
      go_wp2_with fail
      refine HV.out.mono ?_
      rintro e w1 ⟨rfl, hgr⟩
      have HR := shade hgr
      clear hgr HV
      go_wp2_with fail
      refine (dropDead_any A n c F f gx w1 HVT.out (HG.out.below (below_of_grown HR.out) (wt_lt HG.out)) (HC.out.on HR.out) HF.out HGX.out).mono ?_
      rintro e w2 ⟨v, rfl, ho, hg2⟩
      have HO := shade (CodeRes.after HR.out (show CodeRes (ctK (kpD F n f gx) n) (koP F (kpD F n f gx) n) w1 (.returned v) w2 from ⟨v, rfl, ho, hg2⟩))
      clear ho hg2
      go_wp2_with fail
      go_ret
      exact HO.out
end Go.Proofs.YtjeflaodeafhbaaDoor

namespace Go.Proofs.YtjeflaodeafhbaaDoor
open Go.RowKit
set_option linter.unusedSimpArgs false
/-- The programs, one behind the other, each without what the one ahead of it does not need. -/
structure Chn (F : Nat → Ins) (n : Nat) (s : Nat → (Nat → Ins) × Nat) (k : Nat) : Prop where
  zero : s 0 = (F, n)
  val : ∀ j, vcB (s j).2 (s j).1 = true
  next : ∀ j, ∃ g, DropG (s j).1 (s j).2 g ∧ s (j + 1) = (koP (s j).1 g (s j).2, ctK g (s j).2)
  last : (s (k + 1)).2 = (s k).2
  less : ∀ j, j < k → (s (j + 1)).2 < (s j).2
theorem chn_row {α : Type} {R : α → α → Prop} (h : ∀ p, ∃ q, R p q) (p0 : α) : ∃ s : Nat → α, s 0 = p0 ∧ ∀ j, R (s j) (s (j + 1)) :=
  ⟨fun k => Nat.rec p0 (fun _ p => Classical.choose (h p)) k, rfl, fun _ => Classical.choose_spec (h _)⟩
theorem chn_stop (m : Nat → Nat) (hm : ∀ j, m (j + 1) ≤ m j) : ∃ k, m (k + 1) = m k ∧ ∀ j, j < k → m (j + 1) < m j := by
  have h : ∀ b i, m i ≤ b → (∀ j, j < i → m (j + 1) < m j) → ∃ k, m (k + 1) = m k ∧ ∀ j, j < k → m (j + 1) < m j := by
    intro b
    induction b with
    | zero =>
      intro i hi hj
      exact ⟨i, by have := hm i; omega, hj⟩
    | succ b ih =>
      intro i hi hj
      by_cases e : m (i + 1) = m i
      · exact ⟨i, e, hj⟩
      · refine ih (i + 1) (by have := hm i; omega) (fun j hj2 => ?_)
        by_cases e2 : j = i
        · rw [e2]
          have := hm i
          omega
        · exact hj j (by omega)
  exact h (m 0) 0 (Nat.le_refl _) (fun j hj => absurd hj (Nat.not_lt_zero j))
theorem drop_some (F : Nat → Ins) (n : Nat) : ∃ g, DropG F n g := by
  obtain ⟨gx, hgx⟩ := need_sets F n
  exact ⟨_, fun y => @decide _ (Classical.propDecidable (Way F n noCut 0 y)), gx, fun y => @decide_eq_true_iff _ (Classical.propDecidable _), hgx, rfl⟩
theorem chn_of {F : Nat → Ins} {n : Nat} (hv : vcB n F = true) : ∃ s k, Chn F n s k := by
  obtain ⟨s, h0, hs⟩ := chn_row (R := fun (p q : (Nat → Ins) × Nat) => ∃ g, DropG p.1 p.2 g ∧ q = (koP p.1 g p.2, ctK g p.2)) (fun p => by
    obtain ⟨g, hg⟩ := drop_some p.1 p.2
    exact ⟨_, g, hg, rfl⟩) (F, n)
  have hval : ∀ j, vcB (s j).2 (s j).1 = true := by
    intro j
    induction j with
    | zero =>
      rw [h0]
      exact hv
    | succ j ih =>
      obtain ⟨g, _, e⟩ := hs j
      rw [e]
      exact koP_valid g ih
  obtain ⟨k, h1, h2⟩ := chn_stop (fun j => (s j).2) (fun j => by
    obtain ⟨g, _, e⟩ := hs j
    show (s (j + 1)).2 ≤ (s j).2
    rw [e]
    exact ctK_le g _)
  exact ⟨s, k, h0, hval, hs, h1, h2⟩
theorem Chn.len {F : Nat → Ins} {n : Nat} {s : Nat → (Nat → Ins) × Nat} {k : Nat} (h : Chn F n s k) : ∀ j, (s j).2 ≤ 40 := fun j => vcB_40 (h.val j)
theorem codeRes_val {k : Nat} {f : Nat → Ins} {w w' : World} {v : Value} (h : w'.ownsRow w.heap.size 61 5 v k (codeL k f)) : ∃ A c, v = .slice A k c ∧ Code w' A k f := by
  rcases h.2 with ⟨e, h0⟩ | ⟨g', c, cur, e, hb, _⟩
  · exact ⟨none, 0, by rw [e, h0], .inl h0⟩
  · have ho := h
    rw [e] at ho
    exact ⟨some ⟨g', 0, none⟩, c, e, OwnC.code ho⟩
set_option maxRecDepth 100000 in
set_option maxHeartbeats 8000000 in
theorem shrink_any (A : Option Addr) (n c : Nat) (F : Nat → Ins) (s : Nat → (Nat → Ins) × Nat) (k : Nat) (w : World) (hch : Chn F n s k) (hwt : WT w) (h : Code w A n F) :
    Calls Tryd.prog 52 #[.slice A n c] w (CodeRes (s (k + 1)).2 (s (k + 1)).1 w) := by
  have HCH := shade hch
  have H0 := shade (show Code w A (s 0).2 (s 0).1 from by rw [hch.zero]; exact h)
  have HN := shade (show n = (s 0).2 from by rw [hch.zero])
  have HWT := shade hwt
  clear hch h
  go_enter Tryd.func52, Tryd.ntmps52
  go_wp2_with fail
  go_loopw [0] (fun v wr => ∃ (j : Nat) (A : Option Addr) (c m : Nat), j ≤ k ∧ v = .slice A m c ∧ m = (s j).2 ∧ Code wr A m (s j).1 ∧ w.grownBy wr none) (fun v _ => lenV v)
  case atStart => exact ⟨0, A, c, n, Nat.zero_le _, rfl, HN.out, by rw [HN.out]; exact H0.out, grown_refl _ _⟩
  case round =>
    clear H0 HN
    obtain ⟨j, A', c', m, hj, rfl, hm, hco, hgr⟩ := hrel
    have HCO := shade hco; have HGR := shade hgr; have HM := shade hm
    have hm40 := HCH.out.len j
    rw [← hm] at hm40
    obtain ⟨g, ⟨f, gx, hf, hgx, rfl⟩, hnx⟩ := HCH.out.next j
    have HD := shade (show Calls Tryd.prog 48 #[.slice A' m c'] wr (CodeRes (s (j + 1)).2 (s (j + 1)).1 wr) from by
      have h := dropDead_any A' (s j).2 c' (s j).1 f gx wr (HCH.out.val j) (HWT.out.below (below_of_grown hgr) (wt_lt HWT.out)) (by rw [← hm]; exact hco) hf hgx
      rw [← hm] at h
      rw [hnx, ← hm]
      exact h)
    have HL := shade (HCH.out.less j)
    have HZ := shade (show j = k → (s (j + 1)).2 = m from fun e => by rw [e, HCH.out.last, ← e, hm])
    have hl1 := HCH.out.len (j + 1)
    obtain ⟨m2, hm2⟩ : ∃ m2, (s (j + 1)).2 = m2 := ⟨_, rfl⟩
    rw [hm2] at HD HZ hl1
    have HM2 := shade hm2
    clear hco hgr hm hf hgx hnx hm2
    go_wp2_with fail
    refine HD.out.mono ?_
    rintro e w2 ⟨v2, rfl, ho, hg2⟩
    obtain ⟨A2, c2, rfl, hco2⟩ := codeRes_val ho
    have HO2 := shade ho
    have HC2 := shade hco2
    have HG2 := shade (grown_same HGR.out hg2)
    have hgsz := HGR.out.size
    clear ho hco2 hg2 HD
    by_cases hjk : j = k
    · have hmm := HZ.out hjk
      have hb : ((m2 : Int) == (m : Int)) = true := by rw [hmm]; simp
      go_wp2_with fail
      go_ret
      have ho := HO2.out
      rw [hmm] at ho
      refine ⟨_, rfl, ?_, HG2.out⟩
      rw [← hjk, HM2.out, hmm]
      exact World.ownsRow.mono ho hgsz
    · have hlt := HL.out (by omega)
      rw [HM2.out, ← HM.out] at hlt
      have hb : ((m2 : Int) == (m : Int)) = false := beq_eq_false_iff_ne.2 (by omega)
      go_wp2_with fail
      go_roundw
      case rel => exact ⟨j + 1, A2, c2, m2, by omega, rfl, HM2.out.symm, HC2.out, HG2.out⟩
      case measure => simp [lenV]; omega
set_option maxRecDepth 100000 in
set_option maxHeartbeats 8000000 in
theorem specShrink_any (A : Option Addr) (n c : Nat) (F : Nat → Ins) (s : Nat → (Nat → Ins) × Nat) (k : Nat) (w : World) (hch : Chn F n s k) (h : Code w A n F) :
    Calls Tryd.prog 53 #[.slice A n c] w (CodeRes (s (k + 1)).2 (s (k + 1)).1 w) := by
  have HCH := shade hch
  have H0 := shade (show Code w A (s 0).2 (s 0).1 from by rw [hch.zero]; exact h)
  have HN := shade (show n = (s 0).2 from by rw [hch.zero])
  clear hch h
  go_enter Tryd.func53, Tryd.ntmps53
  go_wp2_with fail
  go_loopw [0] (fun v wr => ∃ (j : Nat) (A : Option Addr) (c m : Nat), j ≤ k ∧ v = .slice A m c ∧ m = (s j).2 ∧ Code wr A m (s j).1 ∧ w.grownBy wr none) (fun v _ => lenV v)
  case atStart => exact ⟨0, A, c, n, Nat.zero_le _, rfl, HN.out, by rw [HN.out]; exact H0.out, grown_refl _ _⟩
  case round =>
    clear H0 HN
    obtain ⟨j, A', c', m, hj, rfl, hm, hco, hgr⟩ := hrel
    have HCO := shade hco; have HGR := shade hgr; have HM := shade hm
    have hm40 := HCH.out.len j
    rw [← hm] at hm40
    obtain ⟨g, ⟨f, gx, hf, hgx, rfl⟩, hnx⟩ := HCH.out.next j
    have HD := shade (show Calls Tryd.prog 49 #[.slice A' m c'] wr (CodeRes (s (j + 1)).2 (s (j + 1)).1 wr) from by
      have h := specDrop_any A' (s j).2 c' (s j).1 f gx wr (HCH.out.val j) (by rw [← hm]; exact hco) hf hgx
      rw [← hm] at h
      rw [hnx, ← hm]
      exact h)
    have HL := shade (HCH.out.less j)
    have HZ := shade (show j = k → (s (j + 1)).2 = m from fun e => by rw [e, HCH.out.last, ← e, hm])
    have hl1 := HCH.out.len (j + 1)
    obtain ⟨m2, hm2⟩ : ∃ m2, (s (j + 1)).2 = m2 := ⟨_, rfl⟩
    rw [hm2] at HD HZ hl1
    have HM2 := shade hm2
    clear hco hgr hm hf hgx hnx hm2
    go_wp2_with fail
    refine HD.out.mono ?_
    rintro e w2 ⟨v2, rfl, ho, hg2⟩
    obtain ⟨A2, c2, rfl, hco2⟩ := codeRes_val ho
    have HO2 := shade ho
    have HC2 := shade hco2
    have HG2 := shade (grown_same HGR.out hg2)
    have hgsz := HGR.out.size
    clear ho hco2 hg2 HD
    by_cases hjk : j = k
    · have hmm := HZ.out hjk
      have hb : ((m2 : Int) == (m : Int)) = true := by rw [hmm]; simp
      go_wp2_with fail
      go_ret
      have ho := HO2.out
      rw [hmm] at ho
      refine ⟨_, rfl, ?_, HG2.out⟩
      rw [← hjk, HM2.out, hmm]
      exact World.ownsRow.mono ho hgsz
    · have hlt := HL.out (by omega)
      rw [HM2.out, ← HM.out] at hlt
      have hb : ((m2 : Int) == (m : Int)) = false := beq_eq_false_iff_ne.2 (by omega)
      go_wp2_with fail
      go_roundw
      case rel => exact ⟨j + 1, A2, c2, m2, by omega, rfl, HM2.out.symm, HC2.out, HG2.out⟩
      case measure => simp [lenV]; omega
end Go.Proofs.YtjeflaodeafhbaaDoor

namespace Go.Proofs.YtjeflaodeafhbaaDoor
open Go.RowKit
set_option linter.unusedSimpArgs false
theorem drop_may {F : Nat → Ins} {n : Nat} {g : Nat → Bool} (hv : vcB n F = true) (hd : DropG F n g) : MayDrop F n g := by
  obtain ⟨f, gx, hf, hgx, rfl⟩ := hd
  intro i hi hw hg
  have hfi : f i = true := (hf i).2 hw
  unfold kpD at hg
  rw [hfi, Bool.true_and, Bool.not_eq_false'] at hg
  have hs := (uses_sets hv i).2
  have hy := hgx (i + 1)
  obtain ⟨h4, hbits⟩ := hs.andNot hy.1
  have hex : ∃ r, r < 4 ∧ (bt (uwO F n i) r && !bt (gx (i + 1)) r) = true := by
    refine Classical.byContradiction fun hno => ?_
    have h0 : bits .andNot .i64 (uwO F n i) (gx (i + 1)) = 0 := S4.ext h4 S4.zero (fun r hr => by
      rw [hbits r hr, bt_zero, Bool.eq_false_iff]
      exact fun h => hno ⟨r, hr, h⟩)
    rw [h0] at hg
    exact absurd hg (by decide)
  obtain ⟨r, hr, hb⟩ := hex
  simp only [Bool.and_eq_true, Bool.not_eq_true'] at hb
  have hu := (uses_bits (at' := (i : Int)) hv (by rw [Int.toNat_natCast]; exact hi)).2.2.2 r hr
  rw [Int.toNat_natCast, hb.1] at hu
  have hu2 := hu.symm
  simp only [Bool.and_eq_true, decide_eq_true_eq, beq_iff_eq] at hu2
  have e1 : nOf F (i : Int) = (wordN (F i).op.toList).toNat := by unfold nOf; rw [Int.toNat_natCast]
  have e2 : rdOf F (i : Int) = (F i).d.toNat := by unfold rdOf; rw [Int.toNat_natCast]
  refine ⟨by rw [← e1]; exact hu2.1, fun hneed => ?_⟩
  rw [← e2, hu2.2] at hneed
  rw [(hy.2 r hr).2 hneed] at hb
  exact absurd hb.2 (by decide)
/-- From the beginning on. -/
theorem drop_run {F : Nat → Ins} {n : Nat} {g : Nat → Bool} (hv : vcB n F = true) (hd : DropG F n g) (s : Sta) (hs : OkS s) (h0 : s.at' = 0) :
    ∀ K, (∀ i, i < K → sHalt n F (sN F s i) = false) → sHalt n F (sN F s K) = true → EndsBy (koP F g n) (ctK g n) s K (sN F s K).m :=
  fun K hgo hh => drop_ends hv (drop_may hv hd) K s s ⟨by rw [h0]; rfl, by rw [h0]; exact Nat.zero_le _, by rw [h0]; exact Way.start _ _ _ _, rfl, fun _ _ _ => rfl⟩ hs hgo hh
/-- The machine that is tried. -/
theorem try_ok (t : Int) : OkS ⟨0, trR t, trM t⟩ := ⟨Int.le_refl _, (by show (0 : Int) ≤ 40; decide), fun j _ => trR_in t j, fun j _ => trM_in t j⟩
theorem try_vm (t : Int) : vmB 0 4 8 (trR t) (trM t) = true := by
  have h1 : okL 4 (trR t) = true := okL_iff.2 (fun j _ => by have := trR_in t j; simp only [inRB, Bool.and_eq_true, decide_eq_true_eq]; exact this)
  have h2 : okL 8 (trM t) = true := okL_iff.2 (fun j _ => by have := trM_in t j; simp only [inRB, Bool.and_eq_true, decide_eq_true_eq]; exact this)
  simp [vmB, inRB, h1, h2]
end Go.Proofs.YtjeflaodeafhbaaDoor
