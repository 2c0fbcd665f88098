/- Slices of states: what it means that the call owns them, or that they can be read; the states of a run, one behind the other. -/
import Derived.Test.YtcfnoihjpiklhaaDoorG73
import Derived.Test.YtcfnoihjpiklhaaDoorG60
namespace Go.Proofs.YtcfnoihjpiklhaaDoor
open Go.RowKit
/-- A state: where it is, its registers, its memory. -/
structure Sta where
  at' : Int
  r : Nat → Int
  m : Nat → Int
/-- Its cells. -/
def Sta.part (s : Sta) : Nat → Value
  | 0 => .int .i64 s.at'
  | 1 => .int .i64 (s.r 0)
  | 2 => .int .i64 (s.r 1)
  | 3 => .int .i64 (s.r 2)
  | 4 => .int .i64 (s.r 3)
  | 5 => .int .i64 (s.m 0)
  | 6 => .int .i64 (s.m 1)
  | 7 => .int .i64 (s.m 2)
  | 8 => .int .i64 (s.m 3)
  | 9 => .int .i64 (s.m 4)
  | 10 => .int .i64 (s.m 5)
  | 11 => .int .i64 (s.m 6)
  | _ => .int .i64 (s.m 7)
/-- The cells of n states. -/
def staL (n : Nat) (f : Nat → Sta) : List Value := rowL (n * 13) (fun i => (f (i / 13)).part (i % 13))
theorem staL_len (n : Nat) (f : Nat → Sta) : (staL n f).length = n * 13 := rowL_len _ _
theorem staL_get (n : Nat) (f : Nat → Sta) (j i : Nat) (hj : j < n) (hi : i < 13) : (staL n f)[j * 13 + i]? = some ((f j).part i) := by
  unfold staL
  rw [rowL_get _ _ _ (by omega), show (j * 13 + i) / 13 = j by omega, show (j * 13 + i) % 13 = i by omega]
theorem staL_congr (n : Nat) (f g : Nat → Sta) (h : ∀ j, j < n → f j = g j) : staL n f = staL n g := by
  unfold staL
  apply rowL_congr
  intro i hi
  rw [h (i / 13) (by omega)]
theorem staL_snoc (k : Nat) (f : Nat → Sta) : staL k f ++ [(f k).part 0, (f k).part 1, (f k).part 2, (f k).part 3, (f k).part 4, (f k).part 5, (f k).part 6, (f k).part 7, (f k).part 8, (f k).part 9, (f k).part 10, (f k).part 11, (f k).part 12] = staL (k + 1) f := by
  have e : staL (k + 1) f = rowL (k * 13 + 13) (fun i => (f (i / 13)).part (i % 13)) := by
    unfold staL
    rw [show (k + 1) * 13 = k * 13 + 13 by omega]
  rw [e, ← rowL_append]
  congr 1
  show _ = [(f ((k * 13 + 0) / 13)).part ((k * 13 + 0) % 13), (f ((k * 13 + 1) / 13)).part ((k * 13 + 1) % 13), (f ((k * 13 + 2) / 13)).part ((k * 13 + 2) % 13), (f ((k * 13 + 3) / 13)).part ((k * 13 + 3) % 13), (f ((k * 13 + 4) / 13)).part ((k * 13 + 4) % 13), (f ((k * 13 + 5) / 13)).part ((k * 13 + 5) % 13), (f ((k * 13 + 6) / 13)).part ((k * 13 + 6) % 13), (f ((k * 13 + 7) / 13)).part ((k * 13 + 7) % 13), (f ((k * 13 + 8) / 13)).part ((k * 13 + 8) % 13), (f ((k * 13 + 9) / 13)).part ((k * 13 + 9) % 13), (f ((k * 13 + 10) / 13)).part ((k * 13 + 10) % 13), (f ((k * 13 + 11) / 13)).part ((k * 13 + 11) % 13), (f ((k * 13 + 12) / 13)).part ((k * 13 + 12) % 13)]
  rw [show (k * 13 + 0) / 13 = k by omega, show (k * 13 + 0) % 13 = 0 by omega, show (k * 13 + 1) / 13 = k by omega, show (k * 13 + 1) % 13 = 1 by omega, show (k * 13 + 2) / 13 = k by omega, show (k * 13 + 2) % 13 = 2 by omega, show (k * 13 + 3) / 13 = k by omega, show (k * 13 + 3) % 13 = 3 by omega, show (k * 13 + 4) / 13 = k by omega, show (k * 13 + 4) % 13 = 4 by omega, show (k * 13 + 5) / 13 = k by omega, show (k * 13 + 5) % 13 = 5 by omega, show (k * 13 + 6) / 13 = k by omega, show (k * 13 + 6) % 13 = 6 by omega, show (k * 13 + 7) / 13 = k by omega, show (k * 13 + 7) % 13 = 7 by omega, show (k * 13 + 8) / 13 = k by omega, show (k * 13 + 8) % 13 = 8 by omega, show (k * 13 + 9) / 13 = k by omega, show (k * 13 + 9) % 13 = 9 by omega, show (k * 13 + 10) / 13 = k by omega, show (k * 13 + 10) % 13 = 10 by omega, show (k * 13 + 11) / 13 = k by omega, show (k * 13 + 11) % 13 = 11 by omega, show (k * 13 + 12) / 13 = k by omega, show (k * 13 + 12) % 13 = 12 by omega]
theorem sta_parts (s : Sta) : [s.part 0, s.part 1, s.part 2, s.part 3, s.part 4, s.part 5, s.part 6, s.part 7, s.part 8, s.part 9, s.part 10, s.part 11, s.part 12] = [.int .i64 s.at', .int .i64 (s.r 0), .int .i64 (s.r 1), .int .i64 (s.r 2), .int .i64 (s.r 3), .int .i64 (s.m 0), .int .i64 (s.m 1), .int .i64 (s.m 2), .int .i64 (s.m 3), .int .i64 (s.m 4), .int .i64 (s.m 5), .int .i64 (s.m 6), .int .i64 (s.m 7)] := rfl
theorem sta_one (s : Sta) : ∀ u ∈ [s.part 0, s.part 1, s.part 2, s.part 3, s.part 4, s.part 5, s.part 6, s.part 7, s.part 8, s.part 9, s.part 10, s.part 11, s.part 12], u.oneCell' = true := by
  intro u hu
  rw [sta_parts] at hu
  simp only [List.mem_cons, List.not_mem_nil, or_false] at hu
  rcases hu with rfl | rfl | rfl | rfl | rfl | rfl | rfl | rfl | rfl | rfl | rfl | rfl | rfl <;> rfl
/-- n states that the call owns, none or in a block. -/
abbrev OwnS (w : World) (B : Nat) (v : Value) (n : Nat) (f : Nat → Sta) : Prop := w.ownsRow B 60 13 v n (staL n f)
/-- n states at an address can be read. -/
def Stas (w : World) (A : Option Addr) (n : Nat) (f : Nat → Sta) : Prop :=
  n = 0 ∨ ∃ b off, A = some ⟨b, off, none⟩ ∧ b < w.heap.size ∧ ∀ j i, j < n → i < 13 → w.cell? ⟨b, off + j * 13 + i, none⟩ = some ((f j).part i)
section
variable {w w' : World} {A : Option Addr} {B n cap : Nat} {f g : Nat → Sta}
theorem Stas.grown {row : Option Nat} (h : Stas w A n f) (hg : w.grownBy w' row) (hne : ∀ b off, A = some ⟨b, off, none⟩ → some b ≠ row) : Stas w' A n f := by
  rcases h with h | ⟨b, off, hA, hlt, hc⟩
  · exact .inl h
  · exact .inr ⟨b, off, hA, Nat.lt_of_lt_of_le hlt hg.size, fun j i hj hi => hg.cell (hc j i hj hi) (hne b off hA)⟩
theorem Stas.on (h : Stas w A n f) (hg : w.grownBy w' none) : Stas w' A n f := h.grown hg (by intro _ _ _ e; cases e)
theorem Stas.cell (h : Stas w (some ⟨B, cap, none⟩) n f) {j i : Nat} (hj : j < n) (hi : i < 13) : w.cell? ⟨B, cap + j * 13 + i, none⟩ = some ((f j).part i) := by
  rcases h with h | ⟨b, off, hA, hb, hc⟩
  · omega
  · injection hA with hA
    injection hA with h1 h2
    subst h1; subst h2
    exact hc j i hj hi
/-- Where a slice that the call owns is. -/
theorem OwnS.shape {v : Value} (h : OwnS w B v n f) : ∃ A c, v = .slice A n c ∧ Stas w A n f ∧ ∀ b off, A = some ⟨b, off, none⟩ → B ≤ b ∧ b < w.heap.size := by
  rcases h.2 with ⟨e, h0⟩ | ⟨g', c, cur, e, hb, hw, hrest⟩
  · exact ⟨none, 0, by rw [e, h0], .inl h0, by intro _ _ e; cases e⟩
  · have hh := h
    subst e
    have hlt := World.ownsRow.lt hh g' rfl
    refine ⟨some ⟨g', 0, none⟩, c, rfl, .inr ⟨g', 0, rfl, hlt.2, fun j i hj hi => ?_⟩, by intro b off e; injection e with e; injection e with e1 e2; subst e1; exact hlt⟩
    have hl : j * 13 + i < n * 13 := by omega
    rw [Nat.zero_add, World.ownsRow.cellAt hh (j * 13 + i) hl, staL_get n f j i hj hi]
end
/-- The state behind a step. -/
def sNext (F : Nat → Ins) (s : Sta) : Sta := ⟨stAt F s.at' s.r, stRegs F s.at' s.r s.m, stMem F s.at' s.r s.m⟩
/-- The state behind k steps. -/
def sN (F : Nat → Ins) (s : Sta) : Nat → Sta
  | 0 => s
  | k + 1 => sNext F (sN F s k)
/-- Where a state is lies in a program's range, and its numbers are words. -/
structure OkS (s : Sta) : Prop where
  lo : 0 ≤ s.at'
  hi : s.at' ≤ 40
  r : ∀ j, j < 4 → 0 ≤ s.r j ∧ s.r j ≤ 255
  m : ∀ j, j < 8 → 0 ≤ s.m j ∧ s.m j ≤ 255
/-- No step is left. -/
def sHalt (len : Nat) (F : Nat → Ins) (s : Sta) : Bool := haltB len F s.at'.toNat
/-- A run ends behind k steps. -/
structure RunEnd (len : Nat) (F : Nat → Ins) (s : Sta) (fuel k : Nat) : Prop where
  le : k ≤ fuel
  go : ∀ i, i < k → sHalt len F (sN F s i) = false
  over : k = fuel ∨ sHalt len F (sN F s k) = true
theorem RunEnd.uniq {len : Nat} {F : Nat → Ins} {s : Sta} {fuel k k' : Nat} (h : RunEnd len F s fuel k) (h' : RunEnd len F s fuel k') : k = k' := by
  rcases Nat.lt_trichotomy k k' with hl | hl | hl
  · have := h'.go k hl
    rcases h.over with e | e
    · have := h'.le
      omega
    · rw [e] at this
      cases this
  · exact hl
  · have := h.go k' hl
    rcases h'.over with e | e
    · have := h.le
      omega
    · rw [e] at this
      cases this
theorem upd_ok {f : Nat → Int} {d n : Nat} {x : Int} (h : ∀ j, j < n → 0 ≤ f j ∧ f j ≤ 255) (hx : 0 ≤ x ∧ x ≤ 255) : ∀ j, j < n → 0 ≤ upd f d x j ∧ upd f d x j ≤ 255 := by
  intro j hj
  unfold upd
  split
  · exact hx
  · exact h j hj
theorem jmp_word {l : List UInt8} (h : wordN l = 7 ∨ wordN l = 8) : jmpB l = true := by
  rcases h with h | h
  · rcases word_is l 7 (by omega) h with h | h | h | h | h | h | h | h | h | h
    all_goals first
      | exact absurd h.1 (by omega)
      | (rw [← beq_iff_eq.1 h.2]; decide)
  · rcases word_is l 8 (by omega) h with h | h | h | h | h | h | h | h | h | h
    all_goals first
      | exact absurd h.1 (by omega)
      | (rw [← beq_iff_eq.1 h.2]; decide)
theorem OkS.next {len : Nat} {F : Nat → Ins} {s : Sta} (hv : vcB len F = true) (h : OkS s) (hh : sHalt len F s = false) : OkS (sNext F s) := by
  have hlt : s.at'.toNat < len := by
    simp only [sHalt, haltB, Bool.or_eq_false_iff, decide_eq_false_iff_not] at hh
    omega
  obtain ⟨h40, ⟨r1, r2, r3⟩, ⟨q0, q1⟩, hw, h9, hF⟩ := ins_parts hv hlt
  have h0 := h.lo
  have a0 := h.r _ r2
  have b0 := h.r _ r3
  have hk : nOf F s.at' = 7 ∨ nOf F s.at' = 8 → kOf F s.at' ≤ len := fun hn => by
    have hj : jmpB (F s.at'.toNat).op.toList = true := jmp_word (by rw [hw]; omega)
    have ho := vcB_ok hv s.at'.toNat hlt
    simp only [okI, hj, Bool.true_and, Bool.and_eq_true, Bool.not_eq_true', decide_eq_false_iff_not] at ho
    show (F s.at'.toNat).k ≤ len
    omega
  refine ⟨?_, ?_, ?_, ?_⟩
  · show 0 ≤ stepAt _ _ _ _ _
    unfold stepAt
    split
    · split <;> omega
    · split <;> omega
  · show stepAt _ _ _ _ _ ≤ 40
    unfold stepAt
    split
    · split
      · have := hk (by omega)
        omega
      · omega
    · split
      · have := hk (by omega)
        omega
      · omega
  · show ∀ j, j < 4 → 0 ≤ stepRegs _ _ _ _ _ _ _ j ∧ stepRegs _ _ _ _ _ _ _ j ≤ 255
    unfold stepRegs
    split
    · apply upd_ok h.r
      unfold stepVal
      split
      · exact ⟨q0, q1⟩
      split
      · omega
      split
      · omega
      split
      · omega
      split
      · split <;> omega
      · exact h.m _ (placeN_lt _ _ _)
    · exact h.r
  · show ∀ j, j < 8 → 0 ≤ stepMem _ _ _ _ _ _ j ∧ stepMem _ _ _ _ _ _ j ≤ 255
    unfold stepMem
    split
    · exact upd_ok h.m (h.r _ r1)
    · exact h.m
theorem OkS.run {len : Nat} {F : Nat → Ins} {s : Sta} (hv : vcB len F = true) (h : OkS s) : ∀ k, (∀ i, i < k → sHalt len F (sN F s i) = false) → OkS (sN F s k) := by
  intro k
  induction k with
  | zero => exact fun _ => h
  | succ k ih => exact fun hk => (ih (fun i hi => hk i (by omega))).next hv (hk k (by omega))
theorem okS_of {at' : Int} {n1 n2 : Nat} {f1 f2 : Nat → Int} (h : vmB at' n1 n2 f1 f2 = true) : OkS ⟨at', f1, f2⟩ := by
  obtain ⟨⟨t0, t1⟩, rfl, rfl, k1, k2⟩ := vmB_parts h
  exact ⟨t0, t1, okL_bounds k1, okL_bounds k2⟩
end Go.Proofs.YtcfnoihjpiklhaaDoor
