/- A source that is drawn; what holds of the words of a text; the law of TokensOf. -/
import Derived.Test.YtghjppijcneamaaW222
import Derived.Test.YtghjppijcneamaaW204
import Derived.Deep.DeepCutAuto
namespace Go.Proofs.Ytghjppijcneamaa
open Go.RowKit
set_option linter.unusedSimpArgs false
/-- Bytes that came in. -/
structure Bys (w : World) (A : Option Addr) (n cap : Nat) (zs : List Int) : Prop where
  fits : n ≤ cap
  big : cap ≤ maxLen
  cells : 0 < n → ∃ b off, A = some ⟨b, off, none⟩ ∧ b < w.heap.size ∧ ∀ j, j < n → w.cell? ⟨b, off + j, none⟩ = some (.int .u8 (zs.getD j 0))
  rng : ∀ j, j < n → 0 ≤ zs.getD j 0 ∧ zs.getD j 0 ≤ 255
theorem Bys.rd {w : World} {A : Option Addr} {n cap : Nat} {zs : List Int} (h : Bys w A n cap zs) (m : Nat) (hm : m ≤ n) (hm2 : m ≤ 2000) :
    Rd (w.alloc (.cells #[.slice A m cap, .int .i64 0] 41)) w.heap.size A m cap zs 0 := by
  refine ⟨Holds5.fresh w _ _, hm2, by have := h.fits; omega, fun hn => ?_, fun j hj => h.rng j (by omega), by omega⟩
  obtain ⟨b, off, hA, hb, hc⟩ := h.cells (by omega)
  exact ⟨b, off, hA, by omega, fun j hj => (World.cell?_alloc_some w _ _ (by rw [hc j (by omega)]; rfl)).trans (hc j (by omega))⟩


/-- What newReader leaves. -/
def NewOk (w : World) (A : Option Addr) (cap : Nat) (zs : List Int) (e : Ending) (w' : World) : Prop :=
  ∃ m : Nat, e = .returned (.pointer (some ⟨w.heap.size, 0, none⟩)) ∧ Rd w' w.heap.size A m cap zs 0 ∧ Below w.heap.size w w'
set_option maxHeartbeats 1000000 in
theorem newReader_any (A : Option Addr) (n cap : Nat) (zs : List Int) (w : World) (h : Bys w A n cap zs) :
    Calls Try.prog 13 #[.slice A n cap] w (NewOk w A cap zs) := by
  have hcap := h.fits
  have hbig := h.big
  unfold maxLen at hbig
  by_cases hn : n ≤ 2000
  · have hR := h.rd n (by omega) hn
    have HR := shade hR
    clear hR h
    go_enter Try.func13, Try.ntmps13
    go_wp2
    go_ret
    exact ⟨n, rfl, HR.out, (Below.refl _ _).alloc (Nat.le_refl _) _⟩
  · have hR := h.rd 2000 (by omega) (by omega)
    obtain ⟨b, off, rfl, _, _⟩ := h.cells (by omega)
    have HR := shade hR
    clear hR h
    have hn2 : 2000 < n := by omega
    have hc2 : 2000 ≤ cap := by omega
    go_enter Try.func13, Try.ntmps13
    go_wp2
    go_ret
    exact ⟨2000, rfl, HR.out, (Below.refl _ _).alloc (Nat.le_refl _) _⟩

theorem below_of_only {w w' : World} {g : Nat} (h : w.grownBy w' (some g)) (B : Nat) (hB : B ≤ g) (hw : B ≤ w.heap.size) : Below B w w' :=
  ⟨h.os, h.tape, h.output, h.size, fun i hi => h.block i (by omega) (by intro e; injection e; omega)⟩
/-- What is drawn: some text, and nothing that was there has changed. -/
theorem DrawTokensOf_any (A : Option Addr) (n cap : Nat) (zs : List Int) (w : World) (h : Bys w A n cap zs) :
    Calls Try.prog 5 #[.slice A n cap] w fun e w' => ∃ l : List UInt8, l.length ≤ 10010 ∧ e = .returned (.string (tx l)) ∧ w.grownBy w' none := by
  have HN := shade (newReader_any A n cap zs w h)
  clear h
  go_enter Try.func5, Try.ntmps5
  go_wp2_with fail
  refine HN.out.mono ?_
  rintro e w1 ⟨m, rfl, hR, hb⟩
  have HR := shade hR
  have HB := shade hb
  clear hR hb HN
  go_wp2_with fail
  refine (someSource_any HR.out (by omega)).mono ?_
  rintro e w2 ⟨s, q, hs, hq, rfl, hR, hG⟩
  have HG := shade (grown_of_below ((HB.out).trans (below_of_only hG w.heap.size (Nat.le_refl _) HB.out.size)))
  clear hR hG HR
  go_wp2_with fail
  go_ret
  exact ⟨s.data.toList, (by show s.size ≤ 10010; exact hs), rfl, HG.out⟩
set_option maxHeartbeats 1000000 in
theorem equalTexts_row (lo1 hi1 lo2 hi2 K : Nat) (v1 v2 : Value) (f : Nat → ByteArray) (w : World) (hK : K ≤ 1048576) (h1 : RowS w lo1 hi1 v1 K f) (h2 : RowS w lo2 hi2 v2 K f) :
    Calls Try.prog 7 #[v1, v2] w fun e w' => e = .returned (.bool true) ∧ w.grownBy w' none := by
  obtain ⟨A1, c1, rfl, hn1⟩ := h1.strs
  obtain ⟨A2, c2, rfl, hn2⟩ := h2.strs
  clear h1 h2
  by_cases h0 : K = 0
  · subst h0
    go_enter Try.func7, Try.ntmps7
    go_wp2
    refine wp_loop_rounds 1 ?_
    rw [rounds_succ]
    go_wp2
    go_ret
    exact ⟨rfl, grown_refl _ _⟩
  obtain ⟨b1, rfl, _, q1⟩ := hn1.resolve_left h0
  obtain ⟨b2, rfl, _, q2⟩ := hn2.resolve_left h0
  have Q1 := shade q1
  have Q2 := shade q2
  clear hn1 hn2 q1 q2
  go_enter Try.func7, Try.ntmps7
  go_wp2
  go_loopw [5] (fun i wr => ∃ k m : Nat, k ≤ K ∧ i = .int .i64 k ∧ wr = w.drewN m) (fun i _ => K - (intOf i).toNat)
  case atStart => exact ⟨0, 0, Nat.zero_le _, rfl, rfl⟩
  case round =>
    obtain ⟨k, m, hk, rfl, rfl⟩ := hrel
    by_cases hkn : k < K
    · have q1 := Q1.out k hkn
      have q2 := Q2.out k hkn
      go_wp2
      go_quiet (fail)
      go_wp2
      go_roundw
      case rel => exact ⟨k + 1, _, by omega, by go_num, rfl⟩
      case measure => simp [intOf]; omega
    · have hkn2 : k = K := by omega
      subst hkn2
      go_wp2
      go_ret
      exact ⟨rfl, grown_drewN (grown_refl _ _) m⟩

/-- A word: bytes of one kind, and no space. -/
def WordOk (x : List UInt8) : Prop := ∃ c r, x = c :: r ∧ kd c ≠ 0 ∧ (∀ d ∈ r, kd d = kd c) ∧ (kd c = 3 → r = [])
def sumL (xs : List (List UInt8)) : Nat := (xs.map List.length).sum
theorem words_ok : ∀ (n : Nat) (l : List UInt8), l.length ≤ n → (∀ x ∈ tkw [] l, WordOk x) ∧ sumL (tkw [] l) ≤ l.length := by
  intro n
  induction n with
  | zero =>
    intro l hl
    obtain rfl := List.length_eq_zero_iff.1 (by omega : l.length = 0)
    exact ⟨by simp [tkw, one?], Nat.zero_le _⟩
  | succ n ih =>
    intro l hl
    rcases l with _ | ⟨c, r⟩
    · exact ⟨by simp [tkw, one?], Nat.zero_le _⟩
    · have hM := runLen_le (kd c) r
      have h := ih (r.drop (runLen (kd c) r)) (by simp at hl ⊢; omega)
      rw [tkw_step]
      by_cases h0 : kd c = 0
      · rw [if_pos h0, List.nil_append]
        refine ⟨h.1, Nat.le_trans h.2 ?_⟩
        simp
        omega
      · rw [if_neg h0]
        refine ⟨fun x hx => ?_, ?_⟩
        · rcases List.mem_append.1 hx with hx | hx
          · obtain rfl := List.mem_singleton.1 hx
            exact ⟨c, _, rfl, h0, runLen_mem (kd c) r, fun h3 => by rw [h3, runLen_three]; rfl⟩
          · exact h.1 x hx
        · have h2 := h.2
          unfold sumL at h2 ⊢
          rw [List.map_append, List.sum_append]
          simp only [List.map_cons, List.map_nil, List.sum_cons, List.sum_nil, List.length_cons, List.length_take, List.length_drop] at h2 ⊢
          omega
/-- The words with a space behind each. -/
def spacedL (xs : List (List UInt8)) : List UInt8 := xs.flatMap fun x => x ++ [32]
theorem tkw_spaced : ∀ (xs : List (List UInt8)), (∀ x ∈ xs, WordOk x) → tkw [] (spacedL xs) = xs
  | [], _ => rfl
  | x :: xs, h => by
    obtain ⟨c, r, rfl, h0, h1, h3⟩ := h x (by simp)
    have ih := tkw_spaced xs (fun y hy => h y (by simp [hy]))
    have hk : kd 32 = 0 := by decide
    show tkw [] (((c :: r) ++ [32]) ++ spacedL xs) = _
    rw [List.append_assoc, tkw_run c r ([32] ++ spacedL xs) h1 h3 (fun d l e => by
      injection e with e _
      rw [← e, hk]
      exact .inl (fun e => h0 e.symm)), if_neg h0, List.cons_append, List.nil_append, show [32] ++ spacedL xs = 32 :: spacedL xs from rfl, tkw_space _ _ _ hk, ih]
    rfl
theorem spaced_len : ∀ (xs : List (List UInt8)), (spacedL xs).length = sumL xs + xs.length
  | [] => rfl
  | x :: xs => by
    have ih := spaced_len xs
    show ((x ++ [32]) ++ spacedL xs).length = _
    unfold sumL at ih ⊢
    simp only [List.length_append, List.length_cons, List.length_nil, List.map_cons, List.sum_cons, ih]
    omega
theorem take_sum (xs : List (List UInt8)) (j : Nat) (h : j < xs.length) : sumL (xs.take (j + 1)) = sumL (xs.take j) + xs[j].length := by
  unfold sumL
  rw [List.take_succ_eq_append_getElem h, List.map_append, List.sum_append]
  simp
theorem take_spaced (xs : List (List UInt8)) (j : Nat) (h : j < xs.length) : spacedL (xs.take (j + 1)) = spacedL (xs.take j) ++ xs[j] ++ [32] := by
  unfold spacedL
  rw [List.take_succ_eq_append_getElem h, List.flatMap_append]
  simp
theorem sum_take_le (xs : List (List UInt8)) (j : Nat) : sumL (xs.take j) ≤ sumL xs := by
  have h : sumL xs = sumL (xs.take j) + sumL (xs.drop j) := by
    unfold sumL
    rw [← List.sum_append, ← List.map_append, List.take_append_drop]
  omega
end Go.Proofs.Ytghjppijcneamaa
