/- Rows of rows of numbers that a call has made: what it means; the laws' comparison and marks. Rows of rows of numbers: one more, and another one in place of one. Rows of rows of numbers that a call leaves; the exact laws' walk uses them. -/
import Derived.Test.YtlmjbflnfpccdaaDoorW97d
import Derived.Deep.RegionHeld3
import Derived.Test.YtlmjbflnfpccdaaDoorW401d
namespace Go.Proofs.YtlmjbflnfpccdaaDoor
open Go.RowKit
set_option linter.unusedSimpArgs false
/-- Only blocks of a stretch may have changed. -/
structure Chg (w w' : World) (lo hi : Nat) : Prop where
  os : w'.os = w.os
  tape : w'.tape = w.tape
  output : w'.output = w.output
  size : w.heap.size ≤ w'.heap.size
  block : ∀ i, i < w.heap.size → (i < lo ∨ hi ≤ i) → w'.heap[i]? = w.heap[i]?
theorem Chg.refl (w : World) (lo hi : Nat) : Chg w w lo hi := ⟨rfl, rfl, rfl, Nat.le_refl _, fun _ _ _ => rfl⟩
theorem Chg.trans {a b c : World} {lo hi : Nat} (h : Chg a b lo hi) (h' : Chg b c lo hi) : Chg a c lo hi :=
  ⟨h'.os.trans h.os, h'.tape.trans h.tape, h'.output.trans h.output, Nat.le_trans h.size h'.size, fun i hi' ho => (h'.block i (Nat.lt_of_lt_of_le hi' h.size) ho).trans (h.block i hi' ho)⟩
theorem Chg.of_row {w w' : World} {lo hi : Nat} {row : Option Nat} (h : w.grownBy w' row) (hr : ∀ b, row = some b → lo ≤ b ∧ b < hi) : Chg w w' lo hi :=
  ⟨h.os, h.tape, h.output, h.size, fun i hi' ho => h.block i hi' (fun e => by have := hr i e.symm; omega)⟩
theorem Chg.grown {a w w' : World} {lo hi : Nat} (hg : a.grownBy w none) (h : Chg w w' lo hi) (hl : a.heap.size ≤ lo) : a.grownBy w' none :=
  ⟨h.os.trans hg.os, h.tape.trans hg.tape, h.output.trans hg.output, Nat.le_trans hg.size h.size, fun i hi' _ => (h.block i (Nat.lt_of_lt_of_le hi' hg.size) (by omega)).trans (hg.block i hi' (by simp))⟩
theorem own_chg {w w' : World} {lo hi B : Nat} {e : TypeId} {z : Nat} {v : Value} {n : Nat} {xs : List Value} (h : w.ownsRow B e z v n xs) (hc : Chg w w' lo hi) (hv : ∀ b, v.ownBlock = some b → b < lo ∨ hi ≤ b) : w'.ownsRow B e z v n xs := by
  refine ⟨h.1, ?_⟩
  rcases h.2 with h' | ⟨g, c, cur, e1, h2, h3, h4⟩
  · exact .inl h'
  · have hl := (World.ownsRow.lt h g (by rw [e1]; rfl)).2
    exact .inr ⟨g, c, cur, e1, h2, (hc.block g hl (hv g (by rw [e1]; rfl))).trans h3, h4⟩
/-- How many stand in the first j rows. -/
def ps (len : Nat → Nat) : Nat → Nat
  | 0 => 0
  | j + 1 => ps len j + len j
theorem ps_mono (len : Nat → Nat) {i j : Nat} (h : i ≤ j) : ps len i ≤ ps len j := by
  induction j with
  | zero =>
    obtain rfl : i = 0 := by omega
    exact Nat.le_refl _
  | succ j ih =>
    by_cases e : i = j + 1
    · rw [e]
      exact Nat.le_refl _
    · have := ih (by omega)
      show ps len i ≤ ps len j + len j
      omega
/-- Rows of numbers in a row, all made by a call, in a stretch of memory. -/
structure Rws (wr : World) (lo hi : Nat) (v : Value) (K : Nat) (AS : Nat → Value) (len : Nat → Nat) (R : Nat → Nat → Int) : Prop where
  out : RowO wr lo hi 25 v K ((List.range K).map AS)
  row : ∀ j, j < K → RowO wr lo hi 3 (AS j) (len j) (numL (len j) (R j))
  sep : ∀ i j b, i < K → j < K → (AS i).ownBlock = some b → (AS j).ownBlock = some b → i = j
theorem RowO.chg {wr w2 : World} {lo hi lo' hi' : Nat} {e : TypeId} {v : Value} {K : Nat} {xs : List Value} (h : RowO wr lo hi e v K xs) (hc : Chg wr w2 lo' hi') (hd : hi ≤ lo' ∨ hi' ≤ lo) : RowO w2 lo hi e v K xs :=
  ⟨own_chg h.own hc (fun b hb => by have := h.rng hb; omega), h.hib⟩
section
variable {wr w2 : World} {lo hi : Nat} {v : Value} {K : Nat} {AS : Nat → Value} {len : Nat → Nat} {R R' : Nat → Nat → Int}
theorem Rws.grown (h : Rws wr lo hi v K AS len R) (hg : wr.grownBy w2 none) : Rws w2 lo hi v K AS len R := ⟨h.out.grown hg, fun j hj => (h.row j hj).grown hg, h.sep⟩
theorem Rws.chg {lo' hi' : Nat} (h : Rws wr lo hi v K AS len R) (hc : Chg wr w2 lo' hi') (hd : hi ≤ lo' ∨ hi' ≤ lo) : Rws w2 lo hi v K AS len R := ⟨h.out.chg hc hd, fun j hj => (h.row j hj).chg hc hd, h.sep⟩
theorem Rws.congr (h : Rws wr lo hi v K AS len R) (hr : ∀ j i, j < K → i < len j → R j i = R' j i) : Rws wr lo hi v K AS len R' := ⟨h.out, fun j hj => by
  rw [← numL_congr (len j) (R j) (R' j) (fun i hi => hr j i hj hi)]
  exact h.row j hj, h.sep⟩
theorem rows_other {W : World} {B B' : Nat} {e e' : TypeId} {z z' : Nat} {v v' : Value} {n n' : Nat} {xs xs' : List Value} (h : W.ownsRow B e z v n xs) (h' : W.ownsRow B' e' z' v' n' xs') (ht : e ≠ e') {b : Nat} (hb : v.ownBlock = some b) : v'.ownBlock ≠ some b := by
  intro hb'
  rcases h.2 with ⟨e1, h0⟩ | ⟨g, c, cur, e1, _, hw, _⟩
  · rw [e1] at hb
    cases hb
  · rcases h'.2 with ⟨e2, h0⟩ | ⟨g', c', cur', e2, _, hw', _⟩
    · rw [e2] at hb'
      cases hb'
    · rw [e1] at hb
      rw [e2] at hb'
      have a1 : g = b := by injection hb
      have a2 : g' = b := by injection hb'
      subst a1
      subst a2
      rw [hw] at hw'
      injection hw' with h1
      injection h1 with h2 h3
      exact ht h3
/-- One row is written anew. -/
theorem Rws.put (h : Rws wr lo hi v K AS len R) {i : Nat} (hi' : i < K) (hn : RowO w2 lo hi 3 (AS i) (len i) (numL (len i) (R' i))) (hg : wr.grownBy w2 (AS i).ownBlock) (hr : ∀ j, j < K → j ≠ i → R' j = R j) : Rws w2 lo hi v K AS len R' := by
  refine ⟨⟨?_, h.out.hib⟩, fun j hj => ?_, h.sep⟩
  · rcases e : (AS i).ownBlock with _ | b
    · rw [e] at hg
      exact World.ownsRow.kept h.out.own hg (Classical.em _)
    · exact World.ownsRow.kept h.out.own hg (.inr (by rw [e]; exact rows_other (h.row i hi').own h.out.own (by decide) e))
  · by_cases e : j = i
    · rw [e]
      exact hn
    · rw [hr j hj e]
      refine ⟨?_, (h.row j hj).hib⟩
      rcases eb : (AS i).ownBlock with _ | b
      · rw [eb] at hg
        exact World.ownsRow.kept (h.row j hj).own hg (Classical.em _)
      · exact World.ownsRow.kept (h.row j hj).own hg (.inr (by rw [eb]; exact fun e' => e (h.sep j i b hj hi' e' eb)))
/-- The outer row as a slice, and its cells. -/
theorem Rws.shape (h : Rws wr lo hi v K AS len R) : ∃ A c, v = .slice A K c ∧ (K = 0 ∨ ∃ g, A = some ⟨g, 0, none⟩ ∧ ∀ j, j < K → wr.cell? ⟨g, j, none⟩ = some (AS j)) := by
  rcases h.out.own.2 with ⟨e', h0⟩ | ⟨g', cap', cur, e', _⟩
  · exact ⟨none, 0, by rw [e', h0], .inl h0⟩
  · have ho := h.out.own
    rw [e'] at ho
    refine ⟨some ⟨g', 0, none⟩, cap', e', .inr ⟨g', rfl, fun j hj => ?_⟩⟩
    have := World.ownsRow.cellAt ho j (by omega)
    rw [this]
    simp [hj]
/-- A row as a slice. -/
theorem Rws.nums (h : Rws wr lo hi v K AS len R) {j : Nat} (hj : j < K) : ∃ A c, AS j = .slice A (len j) c ∧ Nums wr A (len j) (R j) := (h.row j hj).nums
end
set_option maxRecDepth 100000 in
set_option maxHeartbeats 4000000 in
theorem eqIntSS_rows (lo1 hi1 lo2 hi2 K : Nat) (v1 v2 : Value) (AS1 AS2 : Nat → Value) (len : Nat → Nat) (R : Nat → Nat → Int) (w : World) (hK : K ≤ 300) (hl : ∀ j, j < K → len j ≤ 2000) (h1 : Rws w lo1 hi1 v1 K AS1 len R) (h2 : Rws w lo2 hi2 v2 K AS2 len R) :
    Calls Tryd.prog 27 #[v1, v2] w fun e w' => e = .returned (.bool true) ∧ w.grownBy w' none := by
  obtain ⟨A1, c1, rfl, s1⟩ := h1.shape
  obtain ⟨A2, c2, rfl, s2⟩ := h2.shape
  have H1 := shade h1; have H2 := shade h2
  clear h1 h2 s1 s2
  go_enter Tryd.func27, Tryd.ntmps27
  go_wp2
  go_loopw [5] (fun i wr => ∃ k : Nat, k ≤ K ∧ i = .int .i64 k ∧ w.grownBy wr none) (fun i _ => K - (intOf i).toNat)
  case atStart => exact ⟨0, Nat.zero_le _, rfl, grown_refl _ _⟩
  case round =>
    obtain ⟨k, hk, rfl, hg⟩ := hrel
    have HG := shade hg
    by_cases hkn : k < K
    · have r1 := H1.out.grown hg
      have r2 := H2.out.grown hg
      obtain ⟨A1', c1', e1, s1⟩ := r1.shape
      obtain ⟨A2', c2', e2, s2⟩ := r2.shape
      injection e1 with e1a e1b e1c
      injection e2 with e2a e2b e2c
      obtain ⟨g1, e1g, q1⟩ := s1.resolve_left (by omega)
      obtain ⟨g2, e2g, q2⟩ := s2.resolve_left (by omega)
      have x1 := q1 k hkn
      have x2 := q2 k hkn
      obtain ⟨B1, d1, f1, n1⟩ := r1.nums hkn
      obtain ⟨B2, d2, f2, n2⟩ := r2.nums hkn
      rw [f1] at x1
      rw [f2] at x2
      rw [e1g] at e1a
      rw [e2g] at e2a
      subst e1a
      subst e2a
      have hlk := hl k hkn
      have HEQ := shade (fun (W : World) (n1 : Nums W B1 (len k) (R k)) (n2 : Nums W B2 (len k) (R k)) => eqIntS_any B1 B2 d1 d2 (len k) (R k) (R k) W (by omega) n1 n2 (fun _ _ => rfl))
      have N1 := shade n1; have N2 := shade n2
      clear hg r1 r2 s1 s2 q1 q2 f1 f2 n1 n2 e1b e1c e2b e2c e1g e2g hl
      go_upto_region 6 with (fail)
      go_region_held3 (fun w' => w'.cell? ⟨g1, k, none⟩ = some (.slice B1 (len k) d1) ∧ w'.cell? ⟨g2, k, none⟩ = some (.slice B2 (len k) d2))
        (first | exact ⟨x1, x2⟩ | exact ⟨z1, z2⟩)
        (first | (go_at_call 16; refine (HEQ.out _ (by first | exact N1.out | exact N1.out.drewN 1) (by first | exact N2.out | exact N2.out.drewN 1)).mono ?_; rintro e w2 ⟨rfl, m, rfl⟩; have z1 := x1; have z2 := x2))
      all_goals (go_wp2_with fail)
      all_goals (exact ⟨⟨k + 1, by omega, by go_num, grown_drewN HG.out _⟩, by simp [intOf]; omega⟩)
    · obtain rfl : k = K := by omega
      clear hg
      go_wp2_with fail
      go_ret
      exact ⟨rfl, HG.out⟩
/-- The marks from m on. -/
def mkR (m : Nat) (len : Nat → Nat) (j i : Nat) : Int := ((m + ps len j : Nat) : Int) + (i : Int)
set_option maxRecDepth 100000 in
set_option maxHeartbeats 4000000 in
theorem markIntSS_rows (lo hi K : Nat) (v : Value) (AS : Nat → Value) (len : Nat → Nat) (R : Nat → Nat → Int) (m : Nat) (w : World) (hK : K ≤ 300) (hm : m ≤ 1000) (hl : ps len K ≤ 1000000) (h : Rws w lo hi v K AS len R) :
    Calls Tryd.prog 28 #[v, .int .i64 m] w fun e w' => e = .returned (.int .i64 ((m + ps len K : Nat) : Int)) ∧ Rws w' lo hi v K AS len (mkR m len) ∧ Chg w w' lo hi := by
  obtain ⟨A1, c1, rfl, _⟩ := h.shape
  have H := shade h
  clear h
  go_enter Tryd.func28, Tryd.ntmps28
  go_wp2
  go_loopw [1, 5] (fun kk i wr => ∃ (k : Nat) (R' : Nat → Nat → Int), k ≤ K ∧ i = .int .i64 k ∧ kk = .int .i64 ((m + ps len k : Nat) : Int) ∧ Rws wr lo hi (.slice A1 K c1) K AS len R' ∧ (∀ j, j < k → R' j = mkR m len j) ∧ Chg w wr lo hi) (fun _ i _ => K - (intOf i).toNat)
  case atStart => exact ⟨0, R, Nat.zero_le _, rfl, rfl, H.out, fun j hj => absurd hj (Nat.not_lt_zero j), Chg.refl _ _ _⟩
  case round =>
    clear H
    obtain ⟨k, R', hk, rfl, rfl, hr, hR', hc⟩ := hrel
    have HR := shade hr; have HRR := shade hR'; have HC := shade hc
    clear hr hR' hc
    by_cases hkn : k < K
    · obtain ⟨A1', c1', e1, s1⟩ := HR.out.shape
      injection e1 with e1a e1b e1c
      obtain ⟨g1, e1g, q1⟩ := s1.resolve_left (by omega)
      have x1 := q1 k hkn
      rw [e1g] at e1a
      subst e1a
      have hpk := ps_mono len (show k ≤ K by omega)
      have hpk1 := ps_mono len (show k + 1 ≤ K by omega)
      have hps : ps len (k + 1) = ps len k + len k := rfl
      have HMK := shade (markIntS_row lo hi (len k) (AS k) (R' k) ((m + ps len k : Nat) : Int) wr (by omega) (by omega) (HR.out.row k hkn))
      obtain ⟨p, hp⟩ : ∃ p, ps len k = p := ⟨_, rfl⟩
      have hmp : (((m + p : Nat) : Int) + (len k : Int)) = ((m + (p + len k) : Nat) : Int) := by omega
      rw [hp] at HMK hps hpk ⊢
      have HP := shade hp; have HPS := shade hps; have HMP := shade hmp
      clear s1 q1 e1b e1c e1g hp hps hmp
      obtain ⟨B1, d1, f1, -⟩ := HR.out.nums hkn
      rw [f1] at x1
      rw [f1] at HMK
      have HF := shade f1
      clear f1
      obtain ⟨s, hs⟩ : ∃ s : Int, ((m + p : Nat) : Int) = s := ⟨_, rfl⟩
      rw [hs] at HMK HMP ⊢
      have HS := shade hs
      have hs0 : 0 ≤ s := by omega
      have hs1 : s ≤ 2000000 := by omega
      clear hs
      go_wp2_with fail
      refine HMK.out.mono ?_
      rintro e w2 ⟨rfl, hn, hg⟩
      rw [HMP.out]
      have HN := shade (HR.out.put hkn (R' := fun j i => if j = k then mkR m len k i else R' j i) (by
        have e : (fun i : Nat => if k = k then mkR m len k i else R' k i) = fun i : Nat => s + (i : Int) := funext fun i => by
          rw [if_pos rfl]
          unfold mkR
          rw [HP.out, HS.out]
        show RowO w2 lo hi 3 (AS k) (len k) (numL (len k) (fun i => if k = k then mkR m len k i else R' k i))
        rw [e, HF.out]
        exact hn) (by rw [HF.out]; exact hg) (fun j hj hne => funext fun i => if_neg hne))
      have HC2 := shade (HC.out.trans (Chg.of_row hg (fun b hb => by
        have := (HR.out.row k hkn).rng (i := b) (by rw [HF.out]; exact hb)
        exact this)))
      have HRR2 := shade (show ∀ j, j < k + 1 → (fun i => if j = k then mkR m len k i else R' j i) = mkR m len j from fun j hj => funext fun i => by
        by_cases e : j = k
        · rw [if_pos e, e]
        · rw [if_neg e, HRR.out j (by omega)])
      clear hn hg HR HC HRR HMK
      go_wp2_with fail
      go_roundw
      case rel => exact ⟨k + 1, _, by omega, by go_num, by rw [HPS.out]; go_num, HN.out, HRR2.out, HC2.out⟩
      case measure => simp [intOf]; omega
    · obtain rfl : k = K := by omega
      have HX := shade (HR.out.congr (R' := mkR m len) (fun j i hj _ => by rw [HRR.out j hj]))
      obtain ⟨p, hp⟩ : ∃ p, ps len k = p := ⟨_, rfl⟩
      rw [hp]
      go_wp2_with fail
      go_ret
      refine ⟨?_, HX.out, HC.out⟩
      show Ending.returned (Value.int .i64 ((m : Int) + (p : Int))) = _
      rw [show ((m : Int) + (p : Int)) = ((m + p : Nat) : Int) by omega, ← hp]
set_option maxRecDepth 100000 in
set_option maxHeartbeats 4000000 in
theorem heldIntSS_rows (lo hi K : Nat) (v : Value) (AS : Nat → Value) (len : Nat → Nat) (m : Nat) (w : World) (hK : K ≤ 300) (hm : m ≤ 1000) (hl : ps len K ≤ 1000000) (h : Rws w lo hi v K AS len (mkR m len)) :
    Calls Tryd.prog 29 #[v, .int .i64 m] w fun e w' => e = .returned (.int .i64 ((m + ps len K : Nat) : Int)) ∧ w.grownBy w' none := by
  obtain ⟨A1, c1, rfl, _⟩ := h.shape
  have H := shade h
  clear h
  go_enter Tryd.func29, Tryd.ntmps29
  go_wp2
  go_loopw [1, 5] (fun kk i wr => ∃ k : Nat, k ≤ K ∧ i = .int .i64 k ∧ kk = .int .i64 ((m + ps len k : Nat) : Int) ∧ w.grownBy wr none) (fun _ i _ => K - (intOf i).toNat)
  case atStart => exact ⟨0, Nat.zero_le _, rfl, rfl, grown_refl _ _⟩
  case round =>
    obtain ⟨k, hk, rfl, rfl, hg⟩ := hrel
    have HG := shade hg
    have HR := shade (H.out.grown hg)
    clear hg
    by_cases hkn : k < K
    · obtain ⟨A1', c1', e1, s1⟩ := HR.out.shape
      injection e1 with e1a e1b e1c
      obtain ⟨g1, e1g, q1⟩ := s1.resolve_left (by omega)
      have x1 := q1 k hkn
      rw [e1g] at e1a
      subst e1a
      have hpk := ps_mono len (show k ≤ K by omega)
      have hpk1 := ps_mono len (show k + 1 ≤ K by omega)
      have hps : ps len (k + 1) = ps len k + len k := rfl
      have HMK := shade (heldIntS_row lo hi (len k) (AS k) ((m + ps len k : Nat) : Int) wr (by omega) (by omega) (HR.out.row k hkn))
      obtain ⟨p, hp⟩ : ∃ p, ps len k = p := ⟨_, rfl⟩
      have hmp : (((m + p : Nat) : Int) + (len k : Int)) = ((m + (p + len k) : Nat) : Int) := by omega
      rw [hp] at HMK hps hpk ⊢
      have HPS := shade hps
      obtain ⟨B1, d1, f1, -⟩ := HR.out.nums hkn
      rw [f1] at x1 HMK
      obtain ⟨u, hu⟩ : ∃ u : Int, ((m + (p + len k) : Nat) : Int) = u := ⟨_, rfl⟩
      have hu0 : 0 ≤ u := by omega
      rw [hmp, hu] at HMK
      have HU := shade hu
      obtain ⟨s, hs⟩ : ∃ s : Int, ((m + p : Nat) : Int) = s := ⟨_, rfl⟩
      rw [hs] at HMK ⊢
      clear s1 q1 e1b e1c e1g hp hps hmp f1 hu hs
      go_wp2_with fail
      refine HMK.out.mono ?_
      rintro e w2 ⟨rfl, rfl⟩
      go_wp2_with fail
      go_roundw
      case rel => exact ⟨k + 1, by omega, by go_num, by rw [HPS.out, HU.out], HG.out⟩
      case measure => simp [intOf]; omega
    · obtain rfl : k = K := by omega
      obtain ⟨p, hp⟩ : ∃ p, ps len k = p := ⟨_, rfl⟩
      rw [hp]
      go_wp2_with fail
      go_ret
      refine ⟨?_, HG.out⟩
      show Ending.returned (Value.int .i64 ((m : Int) + (p : Int))) = _
      rw [show ((m : Int) + (p : Int)) = ((m + p : Nat) : Int) by omega, ← hp]
end Go.Proofs.YtlmjbflnfpccdaaDoor

namespace Go.Proofs.YtlmjbflnfpccdaaDoor
open Go.RowKit
section
variable {wr w2 w3 : World} {lo hi : Nat} {v : Value} {K : Nat} {AS AS' : Nat → Value} {len : Nat → Nat} {R R' : Nat → Nat → Int}
/-- One more row behind the others. -/
theorem Rws.snoc (h : Rws wr lo hi v K AS len R) (hhi : hi ≤ wr.heap.size) (hlo : lo ≤ wr.heap.size) {u v8 : Value} (hu : w2.ownsRow wr.heap.size 3 1 u (len K) (numL (len K) (R' K))) (hg : wr.grownBy w2 none)
    (h8 : w3.ownsRow lo 25 1 v8 (K + 1) ((List.range K).map AS ++ [u])) (hg3 : w2.grownBy w3 v.ownBlock) (hR : ∀ j, j < K → R' j = R j) (hA : ∀ j, j < K → AS' j = AS j) (hAK : AS' K = u) : Rws w3 lo w3.heap.size v8 (K + 1) AS' len R' := by
  have hs := hg.size
  have hs3 := hg3.size
  have hmap : (List.range (K + 1)).map AS' = (List.range K).map AS ++ [u] := by
    rw [List.range_succ, List.map_append]
    congr 1
    · exact List.map_congr_left fun j hj => hA j (List.mem_range.1 hj)
    · show [AS' K] = [u]
      rw [hAK]
  have hnew : ∀ b, u.ownBlock = some b → wr.heap.size ≤ b := fun b hb => (World.ownsRow.lt hu b hb).1
  have hold : ∀ j b, j < K → (AS j).ownBlock = some b → b < wr.heap.size := fun j b hj hb => by
    have := ((h.row j hj).rng hb).2
    omega
  refine ⟨⟨by rw [hmap]; exact h8, fun i hi' => (World.ownsRow.lt h8 i hi').2⟩, fun j hj => ?_, fun i j b hi' hj e1 e2 => ?_⟩
  · by_cases e : j = K
    · subst e
      rw [hAK]
      have hk : w3.ownsRow wr.heap.size 3 1 u (len j) (numL (len j) (R' j)) := by
        refine World.ownsRow.kept hu hg3 ?_
        rcases eu : u.ownBlock with _ | b
        · exact .inl rfl
        · refine .inr fun e' => ?_
          have h1 := hnew b eu
          have h2 := (h.out.rng (i := b) e'.symm).2
          omega
      exact ⟨World.ownsRow.mono hk hlo, fun i hi' => (World.ownsRow.lt hk i hi').2⟩
    · have hj' : j < K := by omega
      rw [hA j hj', hR j hj']
      have h2 := (h.row j hj').grown hg
      refine ⟨?_, fun i hi' => by
        have := hold j i hj' hi'
        omega⟩
      rcases eb : v.ownBlock with _ | b
      · rw [eb] at hg3
        exact World.ownsRow.kept h2.own hg3 (Classical.em _)
      · refine World.ownsRow.kept h2.own hg3 (.inr ?_)
        rw [eb]
        exact rows_other h.out.own (h.row j hj').own (by decide) eb
  · by_cases ei : i = K
    · by_cases ej : j = K
      · omega
      · rw [ei, hAK] at e1
        rw [hA j (by omega)] at e2
        have h1 := hnew b e1
        have h2 := hold j b (by omega) e2
        omega
    · by_cases ej : j = K
      · rw [ej, hAK] at e2
        rw [hA i (by omega)] at e1
        have h1 := hnew b e2
        have h2 := hold i b (by omega) e1
        omega
      · rw [hA i (by omega)] at e1
        rw [hA j (by omega)] at e2
        exact h.sep i j b (by omega) (by omega) e1 e2
/-- Another row in place of one. -/
theorem Rws.swap {g c : Nat} (h : Rws wr lo hi (.slice (some ⟨g, 0, none⟩) K c) K AS len R) (hhi : hi ≤ wr.heap.size) (hlo : lo ≤ wr.heap.size) {u : Value} {k : Nat} (hk : k < K) (hu : w2.ownsRow wr.heap.size 3 1 u (len k) (numL (len k) (R' k))) (hg : wr.grownBy w2 none)
    (hR : ∀ j, j < K → j ≠ k → R' j = R j) (hA : ∀ j, j < K → j ≠ k → AS' j = AS j) (hAk : AS' k = u) : Rws (w2.setCell ⟨g, k, none⟩ u) lo w2.heap.size (.slice (some ⟨g, 0, none⟩) K c) K AS' len R' := by
  have hs := hg.size
  have hnew : ∀ b, u.ownBlock = some b → wr.heap.size ≤ b ∧ b < w2.heap.size := fun b hb => World.ownsRow.lt hu b hb
  have hold : ∀ j b, j < K → (AS j).ownBlock = some b → b < wr.heap.size := fun j b hj hb => by
    have := ((h.row j hj).rng hb).2
    omega
  have h2 := h.grown hg
  have hst := (World.ownsRow.stored h2.out.own k u).1
  have hgs : w2.grownBy (w2.setCell ⟨g, k, none⟩ u) (some g) := grown_set g k u
  have hgb : (Value.slice (some ⟨g, 0, none⟩) K c).ownBlock = some g := rfl
  have hmap : (List.range K).map AS' = ((List.range K).map AS).set k u := by
    apply List.ext_getElem?
    intro j
    by_cases e : k = j
    · subst e
      rw [List.getElem?_set_self (by simpa using hk)]
      simp [hk, hAk]
    · rw [List.getElem?_set_ne e]
      by_cases hj : j < K
      · simp [hj, hA j hj (fun e' => e e'.symm)]
      · simp [hj]
  refine ⟨⟨by rw [hmap]; exact hst, fun i hi' => ?_⟩, fun j hj => ?_, fun i j b hi' hj e1 e2 => ?_⟩
  · have := (h.out.rng hi').2
    omega
  · by_cases e : j = k
    · subst e
      rw [hAk]
      have hk' : (w2.setCell ⟨g, j, none⟩ u).ownsRow wr.heap.size 3 1 u (len j) (numL (len j) (R' j)) := by
        refine World.ownsRow.kept hu hgs ?_
        rcases eu : u.ownBlock with _ | b
        · exact .inl rfl
        · refine .inr fun e' => ?_
          injection e' with e'
          have h1 := (hnew b eu).1
          have h2 := (h.out.rng (i := b) (by rw [hgb, e'])).2
          omega
      exact ⟨World.ownsRow.mono hk' hlo, fun i hi' => (hnew i hi').2⟩
    · rw [hA j hj e, hR j hj e]
      refine ⟨World.ownsRow.kept (h2.row j hj).own hgs (.inr (rows_other h.out.own (h.row j hj).own (by decide) hgb)), fun i hi' => ?_⟩
      have := hold j i hj hi'
      omega
  · by_cases ei : i = k
    · by_cases ej : j = k
      · omega
      · rw [ei, hAk] at e1
        rw [hA j hj ej] at e2
        have h1 := (hnew b e1).1
        have h2 := hold j b hj e2
        omega
    · by_cases ej : j = k
      · rw [ej, hAk] at e2
        rw [hA i hi' ei] at e1
        have h1 := (hnew b e2).1
        have h2 := hold i b hi' e1
        omega
      · rw [hA i hi' ei] at e1
        rw [hA j hj ej] at e2
        exact h.sep i j b hi' hj e1 e2
end
end Go.Proofs.YtlmjbflnfpccdaaDoor

namespace Go.Proofs.YtlmjbflnfpccdaaDoor
open Go.RowKit
/-- What a call leaves that makes rows of rows of numbers. -/
def RwsRes (K : Nat) (len : Nat → Nat) (R : Nat → Nat → Int) (w : World) (e : Ending) (w' : World) : Prop :=
  ∃ (v : Value) (AS : Nat → Value), e = .returned v ∧ Rws w' w.heap.size w'.heap.size v K AS len R ∧ w.grownBy w' none
theorem RwsRes.nil (len : Nat → Nat) (R : Nat → Nat → Int) (w w' : World) (hg : w.grownBy w' none) : RwsRes 0 len R w (.returned (.slice none 0 0)) w' :=
  ⟨_, fun _ => .slice none 0 0, rfl, ⟨⟨World.ownsRow_nil _ _ _ _, fun _ h => (by cases h)⟩, fun j hj => absurd hj (Nat.not_lt_zero j), fun i _ _ hi => absurd hi (Nat.not_lt_zero i)⟩, hg⟩
theorem RwsRes.row {K : Nat} {len : Nat → Nat} {R : Nat → Nat → Int} {w w' : World} {e : Ending} (h : RwsRes K len R w e w') : ∃ (v : Value) (AS : Nat → Value), e = .returned v ∧ Rws w' w.heap.size w'.heap.size v K AS len R ∧ w.grownBy w' none := h
theorem RwsRes.congr {K : Nat} {len : Nat → Nat} {R R' : Nat → Nat → Int} {w w' : World} {e : Ending} (h : RwsRes K len R w e w') (hr : ∀ j i, j < K → i < len j → R j i = R' j i) : RwsRes K len R' w e w' := by
  obtain ⟨v, AS, he, hR, hg⟩ := h
  exact ⟨v, AS, he, hR.congr hr, hg⟩
theorem Rws.lower {wr : World} {lo lo' hi hi' : Nat} {v : Value} {K : Nat} {AS : Nat → Value} {len : Nat → Nat} {R : Nat → Nat → Int} (h : Rws wr lo hi v K AS len R) (hl : lo' ≤ lo) (hh : hi ≤ hi') : Rws wr lo' hi' v K AS len R :=
  ⟨⟨World.ownsRow.mono h.out.own hl, fun b hb => Nat.lt_of_lt_of_le (h.out.hib b hb) hh⟩, fun j hj => ⟨World.ownsRow.mono (h.row j hj).own hl, fun b hb => Nat.lt_of_lt_of_le ((h.row j hj).hib b hb) hh⟩, h.sep⟩
theorem RwsRes.after {K : Nat} {len : Nat → Nat} {R : Nat → Nat → Int} {w w1 w2 : World} {e : Ending} (hg : w.grownBy w1 none) (h : RwsRes K len R w1 e w2) : RwsRes K len R w e w2 := by
  obtain ⟨v, AS, he, hR, h2⟩ := h
  exact ⟨v, AS, he, hR.lower hg.size (Nat.le_refl _), grown_same hg h2⟩
theorem SC.chg {w wr w2 : World} {A : Option Addr} {n : Nat} {F : Nat → Ins} {lo hi : Nat} (h : SC w wr A n F) (hc : Chg wr w2 lo hi) (hl : w.heap.size ≤ lo) : SC w w2 A n F := ⟨h.wt0, h.code0, Chg.grown h.base hc hl⟩
end Go.Proofs.YtlmjbflnfpccdaaDoor
