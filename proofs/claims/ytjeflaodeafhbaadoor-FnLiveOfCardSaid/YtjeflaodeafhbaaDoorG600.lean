/- Programs without some of their instructions: plain facts. A program without what is not needed does as the program: plain facts. -/
import Derived.Test.YtjeflaodeafhbaaDoorH400
import Derived.Test.YtjeflaodeafhbaaDoorG580
namespace Go.Proofs.YtjeflaodeafhbaaDoor
open Go.RowKit
/-- How many of the first i are kept. -/
def ctK (g : Nat → Bool) : Nat → Nat
  | 0 => 0
  | i + 1 => ctK g i + (if g i = true then 1 else 0)
/-- Those of the first i that are kept. -/
def slK (F : Nat → Ins) (g : Nat → Bool) : Nat → Nat → Ins
  | 0 => fun _ => zIns
  | i + 1 => if g i = true then (fun j => if j = ctK g i then F i else slK F g i j) else slK F g i
theorem ctK_yes {g : Nat → Bool} {i : Nat} (h : g i = true) : ctK g (i + 1) = ctK g i + 1 := by
  show ctK g i + (if g i = true then 1 else 0) = _
  rw [if_pos h]
theorem ctK_no {g : Nat → Bool} {i : Nat} (h : g i = false) : ctK g (i + 1) = ctK g i := by
  show ctK g i + (if g i = true then 1 else 0) = _
  rw [h, if_neg (by simp)]
  rfl
theorem ctK_le (g : Nat → Bool) : ∀ i, ctK g i ≤ i := by
  intro i
  induction i with
  | zero => exact Nat.le_refl _
  | succ i ih =>
    show ctK g i + (if g i = true then 1 else 0) ≤ i + 1
    split <;> omega
theorem ctK_mono (g : Nat → Bool) {i j : Nat} (h : i ≤ j) : ctK g i ≤ ctK g j := by
  induction j with
  | zero =>
    obtain rfl : i = 0 := by omega
    exact Nat.le_refl _
  | succ j ih =>
    by_cases e : i = j + 1
    · rw [e]
      exact Nat.le_refl _
    · have h1 := ih (by omega)
      show ctK g i ≤ ctK g j + (if g j = true then 1 else 0)
      omega
theorem ctK_lt {g : Nat → Bool} {i j : Nat} (h : i < j) (hi : g i = true) : ctK g i < ctK g j := by
  have h1 := ctK_mono g (show i + 1 ≤ j from h)
  rw [ctK_yes hi] at h1
  omega
theorem slK_yes {F : Nat → Ins} {g : Nat → Bool} {i : Nat} (h : g i = true) : slK F g (i + 1) = fun j => if j = ctK g i then F i else slK F g i j := by
  show (if g i = true then _ else _) = _
  rw [if_pos h]
theorem slK_no {F : Nat → Ins} {g : Nat → Bool} {i : Nat} (h : g i = false) : slK F g (i + 1) = slK F g i := by
  show (if g i = true then _ else _) = _
  rw [h, if_neg (by simp)]
/-- Each one that is kept stands where those before it end. -/
theorem slK_at {F : Nat → Ins} {g : Nat → Bool} : ∀ n i, i < n → g i = true → slK F g n (ctK g i) = F i := by
  intro n
  induction n with
  | zero =>
    intro i hi
    exact absurd hi (Nat.not_lt_zero i)
  | succ n ih =>
    intro i hi hg
    by_cases e : i = n
    · subst e
      rw [slK_yes hg]
      exact if_pos rfl
    · have h1 := ih i (by omega) hg
      rcases hn : g n with _ | _
      · rw [slK_no hn]
        exact h1
      · rw [slK_yes hn]
        show (if ctK g i = ctK g n then _ else _) = _
        rw [if_neg (by have := ctK_lt (show i < n by omega) hg; omega)]
        exact h1
/-- Each place below the number of those that are kept is one's. -/
theorem ctK_of {g : Nat → Bool} : ∀ n j, j < ctK g n → ∃ i, i < n ∧ g i = true ∧ ctK g i = j := by
  intro n
  induction n with
  | zero =>
    intro j hj
    exact absurd hj (Nat.not_lt_zero j)
  | succ n ih =>
    intro j hj
    rcases hn : g n with _ | _
    · rw [ctK_no hn] at hj
      obtain ⟨i, h1, h2, h3⟩ := ih j hj
      exact ⟨i, by omega, h2, h3⟩
    · rw [ctK_yes hn] at hj
      by_cases e : j = ctK g n
      · exact ⟨n, by omega, hn, e.symm⟩
      · obtain ⟨i, h1, h2, h3⟩ := ih j (by omega)
        exact ⟨i, by omega, h2, h3⟩
/-- An instruction with its jump moved. -/
def mvK (g : Nat → Bool) (c : Ins) : Ins := if jmpB c.op.toList = true then ⟨c.op, c.d, c.a, c.b, ((ctK g c.k.toNat : Nat) : Int)⟩ else c
theorem mvK_yes {g : Nat → Bool} {c : Ins} (h : jmpB c.op.toList = true) : mvK g c = ⟨c.op, c.d, c.a, c.b, ((ctK g c.k.toNat : Nat) : Int)⟩ := if_pos h
theorem mvK_no {g : Nat → Bool} {c : Ins} (h : jmpB c.op.toList = false) : mvK g c = c := if_neg (by rw [h]; simp)
/-- What is left of the program. -/
def koP (F : Nat → Ins) (g : Nat → Bool) (n j : Nat) : Ins := mvK g (slK F g n j)
theorem slK_mv (F : Nat → Ins) (g g' : Nat → Bool) : ∀ n j, slK (fun i => mvK g (F i)) g' n j = mvK g (slK F g' n j) := by
  intro n
  induction n with
  | zero =>
    intro j
    show zIns = mvK g zIns
    rw [mvK_no (show jmpB zIns.op.toList = false from by
      rw [show zIns.op.toList = [] from ByteArray.toList_mk []]
      rfl)]
  | succ n ih =>
    intro j
    rcases hn : g' n with _ | _
    · rw [slK_no hn, slK_no hn]
      exact ih j
    · rw [slK_yes hn, slK_yes hn]
      show (if j = ctK g' n then mvK g (F n) else slK (fun i => mvK g (F i)) g' n j) = mvK g (if j = ctK g' n then F n else slK F g' n j)
      split
      · rfl
      · exact ih j
theorem slK_congr {F F' : Nat → Ins} {g : Nat → Bool} : ∀ n, (∀ i, i < n → F i = F' i) → slK F g n = slK F' g n := by
  intro n
  induction n with
  | zero =>
    intro _
    rfl
  | succ n ih =>
    intro h
    rcases hn : g n with _ | _
    · rw [slK_no hn, slK_no hn]
      exact ih (fun i hi => h i (by omega))
    · rw [slK_yes hn, slK_yes hn, ih (fun i hi => h i (by omega)), h n (by omega)]
theorem koP_at {F : Nat → Ins} {g : Nat → Bool} {n i : Nat} (hi : i < n) (hg : g i = true) : koP F g n (ctK g i) = mvK g (F i) := by
  unfold koP
  rw [slK_at n i hi hg]
theorem okI_vcB {n : Nat} {F : Nat → Ins} {i : Nat} (hv : vcB n F = true) (hi : i < n) : okI n (F i) = true := allI_iff.1 (by simp only [vcB, Bool.and_eq_true] at hv; exact hv.1) i hi
theorem jmp78 {l : List UInt8} (h : jmpB l = true) : wordN l = 7 ∨ wordN l = 8 := by
  unfold jmpB at h
  rw [← word7, ← word8] at h
  simpa using h
set_option maxHeartbeats 1000000 in
/-- What is left is a program. -/
theorem koP_valid {F : Nat → Ins} {n : Nat} (g : Nat → Bool) (hv : vcB n F = true) : vcB (ctK g n) (koP F g n) = true := by
  have hn := vcB_40 hv
  have hm := ctK_le g n
  rw [vcB_all (n := ctK g n) (fun j hj => ?_)]
  · exact decide_eq_true (by omega)
  obtain ⟨i, hi, hg, rfl⟩ := ctK_of n j hj
  rw [koP_at hi hg]
  have h1 := okI_vcB hv hi
  rcases hj : jmpB (F i).op.toList with _ | _
  · rw [mvK_no hj]
    unfold okI at h1 ⊢
    rw [hj, Bool.false_and, Bool.not_false, Bool.and_true] at h1 ⊢
    exact h1
  · have hk := okI_k hv hi hj
    have hw := jmp78 hj
    have hc := ctK_mono g (show (F i).k.toNat ≤ n by omega)
    rw [mvK_yes hj]
    unfold okI at h1 ⊢
    simp only [Bool.and_eq_true] at h1 ⊢
    have h2 := vB_true.1 h1.1
    refine ⟨vB_true.2 ?_, ?_⟩
    · unfold VI at h2 ⊢
      generalize wordN (F i).op.toList = x at *
      omega
    · rw [decide_eq_false (by omega)]
      simp
end Go.Proofs.YtjeflaodeafhbaaDoor

namespace Go.Proofs.YtjeflaodeafhbaaDoor
open Go.RowKit
/-- One run ends behind no more steps than another one, and leaves the same memory. -/
def EndsBy (F : Nat → Ins) (n : Nat) (s : Sta) (K : Nat) (M : Nat → Int) : Prop :=
  ∃ K', K' ≤ K ∧ (∀ i, i < K' → sHalt n F (sN F s i) = false) ∧ sHalt n F (sN F s K') = true ∧ (sN F s K').m = M
theorem sN_front (F : Nat → Ins) (s : Sta) : ∀ j, sN F (sNext F s) j = sN F s (j + 1)
  | 0 => rfl
  | j + 1 => by
    show sNext F (sN F (sNext F s) j) = sNext F (sN F s (j + 1))
    rw [sN_front F s j]
theorem EndsBy.here {F : Nat → Ins} {n : Nat} {s : Sta} {K : Nat} (h : sHalt n F s = true) : EndsBy F n s K s.m := ⟨0, Nat.zero_le _, fun _ hi => absurd hi (Nat.not_lt_zero _), h, rfl⟩
theorem EndsBy.more {F : Nat → Ins} {n : Nat} {s : Sta} {K K2 : Nat} {M : Nat → Int} (h : EndsBy F n s K M) (hk : K ≤ K2) : EndsBy F n s K2 M := by
  obtain ⟨K', h1, h2⟩ := h
  exact ⟨K', by omega, h2⟩
theorem EndsBy.step {F : Nat → Ins} {n : Nat} {s : Sta} {K : Nat} {M : Nat → Int} (hh : sHalt n F s = false) (h : EndsBy F n (sNext F s) K M) : EndsBy F n s (K + 1) M := by
  obtain ⟨K', h1, h2, h3, h4⟩ := h
  refine ⟨K' + 1, by omega, fun i hi => ?_, ?_, ?_⟩
  · rcases i with _ | i
    · exact hh
    · rw [← sN_front]
      exact h2 i (by omega)
  · rw [← sN_front]
    exact h3
  · rw [← sN_front]
    exact h4
/-- What may be dropped: what is reached and is not kept writes to what is not needed behind it. -/
def MayDrop (F : Nat → Ins) (n : Nat) (g : Nat → Bool) : Prop :=
  ∀ i, i < n → Way F n noCut 0 i → g i = false → (wordN (F i).op.toList).toNat ≤ 5 ∧ ¬ Need F n (F i).d.toNat (i + 1)
/-- The two runs, where they are alike. -/
structure Drp (F : Nat → Ins) (n : Nat) (g : Nat → Bool) (s t : Sta) : Prop where
  at_ : t.at' = ((ctK g s.at'.toNat : Nat) : Int)
  le : s.at'.toNat ≤ n
  way : Way F n noCut 0 s.at'.toNat
  mem : s.m = t.m
  reg : ∀ r, r < 4 → Need F n r s.at'.toNat → s.r r = t.r r
theorem mvK_op (g : Nat → Bool) (c : Ins) : (mvK g c).op = c.op ∧ (mvK g c).d = c.d ∧ (mvK g c).a = c.a ∧ (mvK g c).b = c.b := by
  unfold mvK
  split <;> exact ⟨rfl, rfl, rfl, rfl⟩
/-- A step of one that is kept. -/
theorem kept_step {F : Nat → Ins} {n : Nat} {g : Nat → Bool} (hv : vcB n F = true) {t : Sta} {i : Nat} (hi : i < n) (hg : g i = true) (ht : t.at' = ((ctK g i : Nat) : Int)) :
    sNext (koP F g n) t = ⟨((ctK g (sNext F ⟨(i : Int), t.r, t.m⟩).at'.toNat : Nat) : Int), (sNext F ⟨(i : Int), t.r, t.m⟩).r, (sNext F ⟨(i : Int), t.r, t.m⟩).m⟩ := by
  have hat : koP F g n t.at'.toNat = mvK g (F i) := by
    rw [ht, Int.toNat_natCast]
    exact koP_at hi hg
  obtain ⟨m1, m2, m3, m4⟩ := mvK_op g (F i)
  have hi2 : ((i : Int)).toNat = i := Int.toNat_natCast i
  have eN : nOf (koP F g n) t.at' = nOf F (i : Int) := by unfold nOf; rw [hat, m1, hi2]
  have eD : rdOf (koP F g n) t.at' = rdOf F (i : Int) := by unfold rdOf; rw [hat, m2, hi2]
  have eA : raOf (koP F g n) t.at' = raOf F (i : Int) := by unfold raOf; rw [hat, m3, hi2]
  have eB : rbOf (koP F g n) t.at' = rbOf F (i : Int) := by unfold rbOf; rw [hat, m4, hi2]
  have hw : (wordN (F i).op.toList : Int) = (nOf F (i : Int) : Int) := by
    have := (word_small hv hi).2
    unfold nOf
    rw [hi2]
    omega
  have eK : nOf F (i : Int) ≠ 7 → nOf F (i : Int) ≠ 8 → kOf (koP F g n) t.at' = kOf F (i : Int) := fun h7 h8 => by
    unfold kOf
    rw [hat, hi2]
    unfold mvK
    rw [if_neg (fun hj => by
      have := jmp78 hj
      omega)]
  have eJ : (nOf F (i : Int) = 7 ∨ nOf F (i : Int) = 8) → kOf (koP F g n) t.at' = ((ctK g (kOf F (i : Int)).toNat : Nat) : Int) := fun h => by
    have hj : jmpB (F i).op.toList = true := jmp_word (by omega)
    unfold kOf
    rw [hat, hi2, mvK_yes hj]
  have e1 : ((t.at'.toNat : Nat) : Int) + 1 = ((ctK g (((i : Int) + 1).toNat) : Nat) : Int) := by
    rw [ht, Int.toNat_natCast, show ((i : Int) + 1).toNat = i + 1 by omega, ctK_yes hg]
    rfl
  unfold sNext stAt stRegs stMem
  simp only []
  rw [eN, eD, eA, eB, hi2]
  generalize nOf F (i : Int) = N at *
  congr 1
  · unfold stepAt
    by_cases h7 : N = 7
    · rw [if_pos h7, if_pos h7]
      split
      · exact eJ (.inl h7)
      · exact e1
    · rw [if_neg h7, if_neg h7]
      by_cases h8 : N = 8
      · rw [if_pos h8, if_pos h8]
        exact eJ (.inr h8)
      · rw [if_neg h8, if_neg h8]
        exact e1
  · unfold stepRegs
    by_cases h5 : N ≤ 5
    · rw [if_pos h5, if_pos h5, eK (by omega) (by omega)]
    · rw [if_neg h5, if_neg h5]
  · unfold stepMem
    by_cases h6 : N = 6
    · rw [if_pos h6, if_pos h6, eK (by omega) (by omega)]
    · rw [if_neg h6, if_neg h6]
theorem Drp.halt {F : Nat → Ins} {n : Nat} {g : Nat → Bool} {s t : Sta} (_hv : vcB n F = true) (hm : MayDrop F n g) (h : Drp F n g s t) (hh : sHalt n F s = true) : sHalt (ctK g n) (koP F g n) t = true := by
  have hle := h.le
  have hat := h.at_
  by_cases hn : s.at'.toNat = n
  · unfold sHalt haltB
    rw [hat, Int.toNat_natCast, hn]
    simp
  · have hlt : s.at'.toNat < n := by omega
    have h9 : ((F s.at'.toNat).op.toList == [104, 108, 116]) = true := by
      unfold sHalt haltB at hh
      rw [decide_eq_false (by omega), Bool.false_or] at hh
      exact hh
    have hg : g s.at'.toNat = true := by
      rcases e : g s.at'.toNat with _ | _
      · have h5 := (hm _ hlt h.way e).1
        have hw := (hlt_word (F s.at'.toNat).op.toList).1 h9
        rw [hw] at h5
        exact absurd h5 (by decide)
      · rfl
    unfold sHalt haltB
    rw [hat, Int.toNat_natCast, koP_at hlt hg, (mvK_op g _).1, h9, Bool.or_true]
theorem Drp.kept {F : Nat → Ins} {n : Nat} {g : Nat → Bool} {s t : Sta} (h : Drp F n g s t) (hlt : s.at'.toNat < n) (hg : g s.at'.toNat = true) (hh : sHalt n F s = false) : sHalt (ctK g n) (koP F g n) t = false := by
  have h9 := (halt_parts hh).2
  have hl := ctK_lt hlt hg
  unfold sHalt haltB
  rw [h.at_, Int.toNat_natCast, koP_at hlt hg, (mvK_op g _).1, h9, decide_eq_false (by omega)]
  rfl
theorem Drp.step {F : Nat → Ins} {n : Nat} {g : Nat → Bool} {s t : Sta} (hv : vcB n F = true) (hm : MayDrop F n g) (h : Drp F n g s t) (hs : OkS s) (hh : sHalt n F s = false) :
    (g s.at'.toNat = true ∧ Drp F n g (sNext F s) (sNext (koP F g n) t)) ∨ (g s.at'.toNat = false ∧ Drp F n g (sNext F s) t) := by
  have hlt := (halt_parts hh).1
  have h0 := hs.lo
  have hin := sNext_in hv hs hh
  obtain ⟨y, hy, hyn⟩ := nx_in hv hlt hin
  have hyat : (sNext F s).at'.toNat = y := by rw [hy]; exact Int.toNat_natCast y
  have hway : Way F n noCut 0 (sNext F s).at'.toNat := by
    rw [hyat]
    exact h.way.step hlt rfl (by rw [← hy]; exact hin)
  have hA : Alike F n s ⟨s.at', t.r, t.m⟩ := ⟨rfl, h.mem, h.reg⟩
  have hN := hA.step hv hs hh
  have hsat : ((s.at'.toNat : Nat) : Int) = s.at' := Int.toNat_of_nonneg h0
  rcases hg : g s.at'.toNat with _ | _
  · refine .inr ⟨rfl, ?_⟩
    obtain ⟨h5, hnd⟩ := hm _ hlt h.way hg
    have h5' : nOf F s.at' ≤ 5 := h5
    have e1 : (sNext F s).at' = ((s.at'.toNat : Nat) : Int) + 1 := by
      show stepAt (nOf F s.at') _ _ _ _ = _
      unfold stepAt
      rw [if_neg (by omega), if_neg (by omega)]
    have e2 : (sNext F s).at'.toNat = s.at'.toNat + 1 := by omega
    have hw := (uses_bits hv hlt).2.2.2
    refine ⟨?_, by omega, hway, ?_, fun r hr hneed => ?_⟩
    · rw [h.at_, e2, ctK_no hg]
    · rw [← h.mem]
      show stepMem (nOf F s.at') _ _ _ _ _ = _
      unfold stepMem
      rw [if_neg (by omega)]
    · rw [e2] at hneed
      have hne : ¬ r = rdOf F s.at' := fun e => hnd (by rw [e] at hneed; exact hneed)
      have e3 : (sNext F s).r r = s.r r := by
        show stepRegs (nOf F s.at') (rdOf F s.at') _ _ _ _ _ r = _
        unfold stepRegs upd
        rw [if_pos h5', if_neg hne]
      rw [e3]
      refine h.reg r hr ((need_iff r _ hlt).2 (.inr ⟨?_, s.at'.toNat + 1, ?_, hneed⟩))
      · rw [hw r hr, decide_eq_true h5', Bool.true_and]
        exact beq_eq_false_iff_ne.2 (fun e => hne e.symm)
      · have e5 : ((s.at'.toNat + 1 : Nat) : Int) = (sNext F s).at' := by omega
        rw [e5]
        exact hin
  · refine .inl ⟨rfl, ?_⟩
    have hk := kept_step hv hlt hg h.at_
    rw [hsat] at hk
    have hat2 := hN.at_
    have hmem2 := hN.mem
    refine ⟨?_, by omega, hway, ?_, fun r hr hneed => ?_⟩
    · rw [hk, hat2]
    · rw [hk]
      exact hmem2
    · rw [hk]
      exact hN.reg r hr hneed
/-- What is dropped changes no end. -/
theorem drop_ends {F : Nat → Ins} {n : Nat} {g : Nat → Bool} (hv : vcB n F = true) (hm : MayDrop F n g) : ∀ K s t, Drp F n g s t → OkS s → (∀ i, i < K → sHalt n F (sN F s i) = false) → sHalt n F (sN F s K) = true → EndsBy (koP F g n) (ctK g n) t K (sN F s K).m := by
  intro K
  induction K with
  | zero =>
    intro s t h _ _ hh
    have := EndsBy.here (K := 0) (h.halt hv hm hh)
    rw [← h.mem] at this
    exact this
  | succ K ih =>
    intro s t h hs hgo hh
    have hh0 := hgo 0 (by omega)
    have hlt := (halt_parts hh0).1
    have hgo2 : ∀ i, i < K → sHalt n F (sN F (sNext F s) i) = false := fun i hi => by
      rw [sN_front]
      exact hgo (i + 1) (by omega)
    have hs2 := hs.next hv hh0
    rw [← sN_front] at hh ⊢
    rcases h.step hv hm hs hh0 with ⟨hg, h2⟩ | ⟨hg, h2⟩
    · exact (ih _ _ h2 hs2 hgo2 hh).step (h.kept hlt hg hh0)
    · exact (ih _ _ h2 hs2 hgo2 hh).more (by omega)
end Go.Proofs.YtjeflaodeafhbaaDoor
