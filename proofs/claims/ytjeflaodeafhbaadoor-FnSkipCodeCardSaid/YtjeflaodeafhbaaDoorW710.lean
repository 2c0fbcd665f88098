/- A program whose jumps lead straight on does as the program: plain facts. -/
import Derived.Test.YtjeflaodeafhbaaDoorG609
import Derived.Test.YtjeflaodeafhbaaDoorG616
namespace Go.Proofs.YtjeflaodeafhbaaDoor
open Go.RowKit
/-- One run ends behind no more steps than another one, and leaves the same memory and registers. -/
def EndsAs (F : Nat → Ins) (n : Nat) (s : Sta) (K : Nat) (M R : Nat → Int) : Prop :=
  ∃ K', K' ≤ K ∧ (∀ i, i < K' → sHalt n F (sN F s i) = false) ∧ sHalt n F (sN F s K') = true ∧ (sN F s K').m = M ∧ (sN F s K').r = R
theorem EndsAs.by {F : Nat → Ins} {n : Nat} {s : Sta} {K : Nat} {M R : Nat → Int} (h : EndsAs F n s K M R) : EndsBy F n s K M := by
  obtain ⟨K', h1, h2, h3, h4, _⟩ := h
  exact ⟨K', h1, h2, h3, h4⟩
theorem EndsAs.here {F : Nat → Ins} {n : Nat} {s : Sta} {K : Nat} (h : sHalt n F s = true) : EndsAs F n s K s.m s.r := ⟨0, Nat.zero_le _, fun _ hi => absurd hi (Nat.not_lt_zero _), h, rfl, rfl⟩
theorem EndsAs.more {F : Nat → Ins} {n : Nat} {s : Sta} {K K2 : Nat} {M R : Nat → Int} (h : EndsAs F n s K M R) (hk : K ≤ K2) : EndsAs F n s K2 M R := by
  obtain ⟨K', h1, h2⟩ := h
  exact ⟨K', by omega, h2⟩
theorem EndsAs.step {F : Nat → Ins} {n : Nat} {s : Sta} {K : Nat} {M R : Nat → Int} (hh : sHalt n F s = false) (h : EndsAs F n (sNext F s) K M R) : EndsAs F n s (K + 1) M R := by
  obtain ⟨K', h1, h2, h3, h4, h5⟩ := h
  refine ⟨K' + 1, by omega, fun i hi => ?_, ?_, ?_, ?_⟩
  · rcases i with _ | i
    · exact hh
    · rw [← sN_front]
      exact h2 i (by omega)
  · rw [← sN_front]
    exact h3
  · rw [← sN_front]
    exact h4
  · rw [← sN_front]
    exact h5
/-- Two programs of which one does as the other: a relation of their states. -/
theorem ends_rel {F F2 : Nat → Ins} {n n2 : Nat} (Rl : Sta → Sta → Prop) (hv : vcB n F = true)
    (hr : ∀ s t, Rl s t → s.m = t.m ∧ s.r = t.r)
    (hh : ∀ s t, Rl s t → OkS s → sHalt n F s = true → sHalt n2 F2 t = true)
    (hs : ∀ s t, Rl s t → OkS s → sHalt n F s = false → Rl (sNext F s) t ∨ (sHalt n2 F2 t = false ∧ Rl (sNext F s) (sNext F2 t))) :
    ∀ K s t, Rl s t → OkS s → (∀ i, i < K → sHalt n F (sN F s i) = false) → sHalt n F (sN F s K) = true → EndsAs F2 n2 t K (sN F s K).m (sN F s K).r := by
  intro K
  induction K with
  | zero =>
    intro s t h hok _ he
    have h1 := EndsAs.here (K := 0) (hh s t h hok he)
    rw [← (hr s t h).1, ← (hr s t h).2] at h1
    exact h1
  | succ K ih =>
    intro s t h hok hgo he
    have h0 := hgo 0 (by omega)
    have hgo2 : ∀ i, i < K → sHalt n F (sN F (sNext F s) i) = false := fun i hi => by
      rw [sN_front]
      exact hgo (i + 1) (by omega)
    have hok2 := hok.next hv h0
    rw [← sN_front] at he ⊢
    rcases hs s t h hok h0 with h2 | ⟨hn, h2⟩
    · exact (ih _ _ h2 hok2 hgo2 he).more (by omega)
    · exact (ih _ _ h2 hok2 hgo2 he).step hn
theorem led_self {F : Nat → Ins} {n x : Nat} (h : isJ F n x = false) : ledN F n x = x := by
  have h1 := led_stop (F := F) (n := n) (x := x) (r := 0) (by omega) h
  exact h1
theorem stp_shift {F : Nat → Ins} {n x : Nat} (h : isJ F n x = true) : ∀ j, stp F n (F x).k.toNat j = stp F n x (j + 1) := by
  intro j
  induction j with
  | zero => exact (stp_yes (j := 0) h).symm
  | succ j ih =>
    show (if isJ F n (stp F n (F x).k.toNat j) = true then (F (stp F n (F x).k.toNat j)).k.toNat else stp F n (F x).k.toNat j) = (if isJ F n (stp F n x (j + 1)) = true then (F (stp F n x (j + 1))).k.toNat else stp F n x (j + 1))
    rw [ih]
/-- The next one of a row leads where the row leads. -/
theorem led_next {F : Nat → Ins} {n x : Nat} (h : isJ F n x = true) (hne : ledN F n x ≠ x) : ledN F n (F x).k.toNat = ledN F n x := by
  have h1 : isJ F n (stp F n x (n + 1)) = false := by
    rcases e : isJ F n (stp F n x (n + 1)) with _ | _
    · rfl
    · unfold ledN at hne
      rw [e, if_pos rfl] at hne
      exact absurd rfl hne
  have h2 : stp F n (F x).k.toNat (n + 1) = stp F n x (n + 1) := by
    rw [stp_shift h (n + 1)]
    exact stp_no h1
  unfold ledN
  rw [h2, h1, if_neg (by simp), if_neg (by simp)]
theorem isJ_word {F : Nat → Ins} {n x : Nat} (hv : vcB n F = true) (hx : x < n) : isJ F n x = true ↔ nOf F (x : Int) = 8 := by
  have e8 := word8 (F x).op.toList
  have hw := (word_small hv hx).2
  have e1 : nOf F (x : Int) = (wordN (F x).op.toList).toNat := by unfold nOf; rw [Int.toNat_natCast]
  unfold isJ
  rw [decide_eq_true hx, Bool.true_and, ← e8, beq_iff_eq, e1]
  omega
/-- The states of the two runs: the second one waits where a row of jmps leads. -/
structure Ldd (F : Nat → Ins) (n : Nat) (s t : Sta) : Prop where
  at_ : t.at' = s.at' ∨ t.at' = ((ledN F n s.at'.toNat : Nat) : Int)
  le : s.at'.toNat ≤ n
  mem : s.m = t.m
  reg : s.r = t.r
theorem led_same_step {F : Nat → Ins} {n : Nat} (hv : vcB n F = true) {s t : Sta} (_hs : OkS s) (hlt : s.at'.toNat < n) (hat : t.at' = s.at') (hm : s.m = t.m) (hr : s.r = t.r) :
    (sNext (ldF F n) t).m = (sNext F s).m ∧ (sNext (ldF F n) t).r = (sNext F s).r ∧ ((sNext (ldF F n) t).at' = (sNext F s).at' ∨ (sNext (ldF F n) t).at' = ((ledN F n (sNext F s).at'.toNat : Nat) : Int)) := by
  obtain ⟨m1, m2, m3, m4⟩ := ldF_op F n s.at'.toNat
  have eN : nOf (ldF F n) t.at' = nOf F s.at' := by unfold nOf; rw [hat, m1]
  have eD : rdOf (ldF F n) t.at' = rdOf F s.at' := by unfold rdOf; rw [hat, m2]
  have eA : raOf (ldF F n) t.at' = raOf F s.at' := by unfold raOf; rw [hat, m3]
  have eB : rbOf (ldF F n) t.at' = rbOf F s.at' := by unfold rbOf; rw [hat, m4]
  have hw : (wordN (F s.at'.toNat).op.toList : Int) = (nOf F s.at' : Int) := by
    have := (word_small hv hlt).2
    unfold nOf
    omega
  have eK : nOf F s.at' ≠ 7 → nOf F s.at' ≠ 8 → kOf (ldF F n) t.at' = kOf F s.at' := fun h7 h8 => by
    unfold kOf
    rw [hat, ldF_no (by
      rcases hj : jmpB (F s.at'.toNat).op.toList with _ | _
      · rfl
      · have := jmp78 hj
        omega)]
  have eJ : (nOf F s.at' = 7 ∨ nOf F s.at' = 8) → kOf (ldF F n) t.at' = ((ledN F n (kOf F s.at').toNat : Nat) : Int) := fun h => by
    have hj : jmpB (F s.at'.toNat).op.toList = true := jmp_word (by omega)
    unfold kOf
    rw [hat, ldF_yes hj]
  have e1 : t.at'.toNat = s.at'.toNat := by rw [hat]
  unfold sNext stAt stRegs stMem
  simp only []
  rw [eN, eD, eA, eB, e1, ← hm, ← hr]
  generalize nOf F s.at' = N at *
  refine ⟨?_, ?_, ?_⟩
  · unfold stepMem
    by_cases h6 : N = 6
    · rw [if_pos h6, if_pos h6, eK (by omega) (by omega)]
    · rw [if_neg h6, if_neg h6]
  · unfold stepRegs
    by_cases h5 : N ≤ 5
    · rw [if_pos h5, if_pos h5, eK (by omega) (by omega)]
    · rw [if_neg h5, if_neg h5]
  · unfold stepAt
    by_cases h7 : N = 7
    · rw [if_pos h7, if_pos h7]
      by_cases hz : s.r (raOf F s.at') = 0
      · rw [if_pos hz, if_pos hz]
        exact .inr (eJ (.inl h7))
      · rw [if_neg hz, if_neg hz]
        exact .inl rfl
    · rw [if_neg h7, if_neg h7]
      by_cases h8 : N = 8
      · rw [if_pos h8, if_pos h8]
        exact .inr (eJ (.inr h8))
      · rw [if_neg h8, if_neg h8]
        exact .inl rfl
/-- With straight jumps the program does the same. -/
theorem led_ends {F : Nat → Ins} {n : Nat} (hv : vcB n F = true) (s : Sta) (hs : OkS s) (h0 : s.at' = 0) (K : Nat) (hgo : ∀ i, i < K → sHalt n F (sN F s i) = false) (hh : sHalt n F (sN F s K) = true) :
    EndsAs (ldF F n) n s K (sN F s K).m (sN F s K).r := by
  refine ends_rel (Ldd F n) hv (fun s t h => ⟨h.mem, h.reg⟩) (fun s t h hok he => ?_) (fun s t h hok he => ?_) K s s ⟨.inl rfl, by rw [h0]; exact Nat.zero_le _, rfl, rfl⟩ hs hgo hh
  · have hle := h.le
    have h00 := hok.lo
    have hnj : isJ F n s.at'.toNat = false := by
      by_cases hn : s.at'.toNat = n
      · unfold isJ
        rw [hn, decide_eq_false (Nat.lt_irrefl n), Bool.false_and]
      · have h9 : ((F s.at'.toNat).op.toList == [104, 108, 116]) = true := by
          unfold sHalt haltB at he
          rw [decide_eq_false (by omega), Bool.false_or] at he
          exact he
        rcases e : isJ F n s.at'.toNat with _ | _
        · rfl
        · have h8 := (isJ_parts e).2
          rw [beq_iff_eq.1 h8] at h9
          exact absurd h9 (by decide)
    have hat : t.at' = s.at' := by
      rcases h.at_ with e | e
      · exact e
      · rw [e, led_self hnj]
        exact Int.toNat_of_nonneg h00
    unfold sHalt haltB at he ⊢
    rw [hat, (ldF_op F n _).1]
    exact he
  · have hlt := (halt_parts he).1
    have h00 := hok.lo
    have hin := sNext_in hv hok he
    obtain ⟨y, hy, hyn⟩ := nx_in hv hlt hin
    have hle2 : (sNext F s).at'.toNat ≤ n := by rw [hy, Int.toNat_natCast]; exact hyn
    by_cases hat : t.at' = s.at'
    · refine .inr ⟨?_, ?_⟩
      · have h9 := (halt_parts he).2
        unfold sHalt haltB
        rw [hat, (ldF_op F n _).1, h9, decide_eq_false (by omega)]
        rfl
      · obtain ⟨a1, a2, a3⟩ := led_same_step hv hok hlt hat h.mem h.reg
        exact ⟨a3, hle2, a1.symm, a2.symm⟩
    · have hled := h.at_.resolve_left hat
      have hne : ledN F n s.at'.toNat ≠ s.at'.toNat := fun e => hat (by rw [hled, e]; exact Int.toNat_of_nonneg h00)
      have hj : isJ F n s.at'.toNat = true := by
        rcases e : isJ F n s.at'.toNat with _ | _
        · exact absurd (led_self e) hne
        · rfl
      have h8 := (isJ_word hv hlt).1 hj
      rw [Int.toNat_of_nonneg h00] at h8
      have hnx : (sNext F s).at' = (F s.at'.toNat).k := by
        show stepAt (nOf F s.at') _ _ (kOf F s.at') _ = _
        unfold stepAt
        rw [if_neg (by omega), if_pos h8]
        rfl
      have hm2 : (sNext F s).m = s.m := by
        show stepMem (nOf F s.at') _ _ _ _ _ = _
        unfold stepMem
        rw [if_neg (by omega)]
      have hr2 : (sNext F s).r = s.r := by
        show stepRegs (nOf F s.at') _ _ _ _ _ _ = _
        unfold stepRegs
        rw [if_neg (by omega)]
      exact .inl ⟨.inr (by rw [hled, hnx, led_next hj hne]), hle2, by rw [hm2]; exact h.mem, by rw [hr2]; exact h.reg⟩
/-- The states of the two runs where jumps to the next one are dropped. -/
structure Skk (n : Nat) (g : Nat → Bool) (s t : Sta) : Prop where
  at_ : t.at' = ((ctK g s.at'.toNat : Nat) : Int)
  le : s.at'.toNat ≤ n
  mem : s.m = t.m
  reg : s.r = t.r
theorem skip_ends {F : Nat → Ins} {n : Nat} {g : Nat → Bool} (hv : vcB n F = true) (hg : ∀ i, i < n → g i = false → jmpB (F i).op.toList = true ∧ (F i).k = (i : Int) + 1) (s : Sta) (hs : OkS s) (h0 : s.at' = 0) (K : Nat) (hgo : ∀ i, i < K → sHalt n F (sN F s i) = false) (hh : sHalt n F (sN F s K) = true) :
    EndsAs (koP F g n) (ctK g n) s K (sN F s K).m (sN F s K).r := by
  refine ends_rel (Skk n g) hv (fun s t h => ⟨h.mem, h.reg⟩) (fun s t h hok he => ?_) (fun s t h hok he => ?_) K s s ⟨by rw [h0]; rfl, by rw [h0]; exact Nat.zero_le _, rfl, rfl⟩ hs hgo hh
  · have hle := h.le
    by_cases hn : s.at'.toNat = n
    · unfold sHalt haltB
      rw [h.at_, Int.toNat_natCast, hn]
      simp
    · have hlt : s.at'.toNat < n := by omega
      have h9 : ((F s.at'.toNat).op.toList == [104, 108, 116]) = true := by
        unfold sHalt haltB at he
        rw [decide_eq_false (by omega), Bool.false_or] at he
        exact he
      have hgt : g s.at'.toNat = true := by
        rcases e : g s.at'.toNat with _ | _
        · have hj := (hg _ hlt e).1
          rw [beq_iff_eq.1 h9] at hj
          exact absurd hj (by decide)
        · rfl
      unfold sHalt haltB
      rw [h.at_, Int.toNat_natCast, koP_at hlt hgt, (mvK_op g _).1, h9, Bool.or_true]
  · have hlt := (halt_parts he).1
    have h9 := (halt_parts he).2
    have h00 := hok.lo
    have hin := sNext_in hv hok he
    obtain ⟨y, hy, hyn⟩ := nx_in hv hlt hin
    have hle2 : (sNext F s).at'.toNat ≤ n := by rw [hy, Int.toNat_natCast]; exact hyn
    have hsat : ((s.at'.toNat : Nat) : Int) = s.at' := Int.toNat_of_nonneg h00
    rcases hgi : g s.at'.toNat with _ | _
    · obtain ⟨hj, hk⟩ := hg _ hlt hgi
      have hw := (word_small hv hlt).2
      have hN : nOf F s.at' = 7 ∨ nOf F s.at' = 8 := by
        have := jmp78 hj
        unfold nOf
        omega
      have hnx : (sNext F s).at' = ((s.at'.toNat : Nat) : Int) + 1 := by
        show stepAt (nOf F s.at') s.at'.toNat _ (kOf F s.at') _ = _
        have hk2 : kOf F s.at' = ((s.at'.toNat : Nat) : Int) + 1 := hk
        unfold stepAt
        rw [hk2]
        split
        · split <;> rfl
        · split <;> rfl
      have hm2 : (sNext F s).m = s.m := by
        show stepMem (nOf F s.at') _ _ _ _ _ = _
        unfold stepMem
        rw [if_neg (by omega)]
      have hr2 : (sNext F s).r = s.r := by
        show stepRegs (nOf F s.at') _ _ _ _ _ _ = _
        unfold stepRegs
        rw [if_neg (by omega)]
      refine .inl ⟨?_, hle2, by rw [hm2]; exact h.mem, by rw [hr2]; exact h.reg⟩
      rw [h.at_, show (sNext F s).at'.toNat = s.at'.toNat + 1 by omega, ctK_no hgi]
    · have hk := kept_step hv hlt hgi h.at_
      rw [hsat, ← h.mem, ← h.reg] at hk
      refine .inr ⟨?_, ⟨?_, hle2, ?_, ?_⟩⟩
      · have hl := ctK_lt hlt hgi
        unfold sHalt haltB
        rw [h.at_, Int.toNat_natCast, koP_at hlt hgi, (mvK_op g _).1, h9, decide_eq_false (by omega)]
        rfl
      · rw [hk]
      · rw [hk]
      · rw [hk]
theorem EndsAs.trans {F F2 : Nat → Ins} {n n2 : Nat} {s : Sta} {K : Nat} {M R : Nat → Int} (h : EndsAs F n s K M R) (h2 : ∀ K', (∀ i, i < K' → sHalt n F (sN F s i) = false) → sHalt n F (sN F s K') = true → EndsAs F2 n2 s K' (sN F s K').m (sN F s K').r) : EndsAs F2 n2 s K M R := by
  obtain ⟨K', k1, k2, k3, k4, k5⟩ := h
  have h3 := h2 K' k2 k3
  rw [k4, k5] at h3
  exact h3.more k1
/-- What SkipCode leaves does as the program. -/
theorem skip_run {F : Nat → Ins} {n : Nat} (hv : vcB n F = true) (s : Sta) (hs : OkS s) (h0 : s.at' = 0) (K : Nat) (hgo : ∀ i, i < K → sHalt n F (sN F s i) = false) (hh : sHalt n F (sN F s K) = true) :
    EndsAs (koP (ldF F n) (skG F n) n) (ctK (skG F n) n) s K (sN F s K).m (sN F s K).r := by
  refine (led_ends hv s hs h0 K hgo hh).trans (fun K' g1 g2 => skip_ends (ldF_valid hv) (fun i hi hg => ?_) s hs h0 K' g1 g2)
  unfold skG at hg
  simp only [Bool.not_eq_false', Bool.and_eq_true, beq_iff_eq] at hg
  exact ⟨by rw [(ldF_op F n i).1]; exact hg.1, hg.2⟩
end Go.Proofs.YtjeflaodeafhbaaDoor
