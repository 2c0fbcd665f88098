/- Rows of instructions, and the laws' helpers over them. -/
import Derived.Test.YtjjjgjnhiffpnaaDoorW805
namespace Go.Proofs.YtjjjgjnhiffpnaaDoor
open Go.RowKit
set_option linter.unusedSimpArgs false
/-- An instruction. -/
structure Ins where
  op : ByteArray
  d : Int
  a : Int
  b : Int
  k : Int
/-- Its cells. -/
def Ins.part (c : Ins) : Nat → Value
  | 0 => .string c.op
  | 1 => .int .i64 c.d
  | 2 => .int .i64 c.a
  | 3 => .int .i64 c.b
  | _ => .int .i64 c.k
/-- n instructions at an address can be read. -/
def Code (w : World) (A : Option Addr) (n : Nat) (f : Nat → Ins) : Prop :=
  n = 0 ∨ ∃ b off, A = some ⟨b, off, none⟩ ∧ b < w.heap.size ∧ ∀ j i, j < n → i < 5 → w.cell? ⟨b, off + j * 5 + i, none⟩ = some ((f j).part i)
/-- The cells of n instructions. -/
def codeL (n : Nat) (f : Nat → Ins) : List Value := rowL (n * 5) (fun i => (f (i / 5)).part (i % 5))
/-- n instructions that the call owns. -/
abbrev OwnC (w : World) (B : Nat) (A : Option Addr) (n cap : Nat) (f : Nat → Ins) : Prop := w.ownsRow B 77 5 (.slice A n cap) n (codeL n f)
theorem codeL_len (n : Nat) (f : Nat → Ins) : (codeL n f).length = n * 5 := rowL_len _ _
theorem part5 (c : Ins) (i : Nat) (h : i < 5) : c.part i = match i with | 0 => .string c.op | 1 => .int .i64 c.d | 2 => .int .i64 c.a | 3 => .int .i64 c.b | _ => .int .i64 c.k := by
  match i, h with
  | 0, _ => rfl
  | 1, _ => rfl
  | 2, _ => rfl
  | 3, _ => rfl
  | 4, _ => rfl
theorem codeL_get (n : Nat) (f : Nat → Ins) (j i : Nat) (hj : j < n) (hi : i < 5) : (codeL n f)[j * 5 + i]? = some ((f j).part i) := by
  unfold codeL
  rw [rowL_get _ _ _ (by omega), show (j * 5 + i) / 5 = j by omega, show (j * 5 + i) % 5 = i by omega]
theorem codeL_set5 (n : Nat) (f : Nat → Ins) (k : Nat) (c : Ins) :
    (((((codeL n f).set (k * 5) (.string c.op)).set (k * 5 + 1) (.int .i64 c.d)).set (k * 5 + 2) (.int .i64 c.a)).set (k * 5 + 3) (.int .i64 c.b)).set (k * 5 + 4) (.int .i64 c.k) = codeL n (fun j => if j = k then c else f j) := by
  unfold codeL
  rw [rowL_set, rowL_set, rowL_set, rowL_set, rowL_set]
  apply rowL_congr
  intro i _
  show _ = (if i / 5 = k then c else f (i / 5)).part (i % 5)
  by_cases h : i / 5 = k
  · rw [if_pos h]
    rcases (show i % 5 = 0 ∨ i % 5 = 1 ∨ i % 5 = 2 ∨ i % 5 = 3 ∨ i % 5 = 4 by omega) with e | e | e | e | e
    · rw [e, if_neg (by omega), if_neg (by omega), if_neg (by omega), if_neg (by omega), if_pos (by omega)]
      rfl
    · rw [e, if_neg (by omega), if_neg (by omega), if_neg (by omega), if_pos (by omega)]
      rfl
    · rw [e, if_neg (by omega), if_neg (by omega), if_pos (by omega)]
      rfl
    · rw [e, if_neg (by omega), if_pos (by omega)]
      rfl
    · rw [e, if_pos (by omega)]
      rfl
  · rw [if_neg h, if_neg (by omega), if_neg (by omega), if_neg (by omega), if_neg (by omega), if_neg (by omega)]
theorem codeL_congr (n : Nat) (f g : Nat → Ins) (h : ∀ j, j < n → f j = g j) : codeL n f = codeL n g := by
  unfold codeL
  apply rowL_congr
  intro i hi
  rw [h (i / 5) (by omega)]
section
variable {w w' : World} {A : Option Addr} {B n cap : Nat} {f g : Nat → Ins}
theorem Code.congr (h : Code w A n f) (hf : ∀ j, j < n → f j = g j) : Code w A n g := by
  rcases h with h | ⟨b, off, hA, hb, hc⟩
  · exact .inl h
  · exact .inr ⟨b, off, hA, hb, fun j i hj hi => by rw [hc j i hj hi, hf j hj]⟩
theorem Code.alloc (h : Code w A n f) (o : Obj) : Code (w.alloc o) A n f := by
  rcases h with h | ⟨b, off, hA, hb, hc⟩
  · exact .inl h
  · exact .inr ⟨b, off, hA, by simp; omega, fun j i hj hi => (World.cell?_alloc_some w _ o (by rw [hc j i hj hi]; rfl)).trans (hc j i hj hi)⟩
theorem Code.grown {row : Option Nat} (h : Code w A n f) (hg : w.grownBy w' row) (hne : ∀ b off, A = some ⟨b, off, none⟩ → some b ≠ row) : Code w' A n f := by
  rcases h with h | ⟨b, off, hA, hlt, hc⟩
  · exact .inl h
  · exact .inr ⟨b, off, hA, Nat.lt_of_lt_of_le hlt hg.size, fun j i hj hi => hg.cell (hc j i hj hi) (hne b off hA)⟩
theorem Code.on (h : Code w A n f) (hg : w.grownBy w' none) : Code w' A n f := h.grown hg (by intro _ _ _ e; cases e)
theorem Code.cell (h : Code w (some ⟨B, cap, none⟩) n f) {j i : Nat} (hj : j < n) (hi : i < 5) : w.cell? ⟨B, cap + j * 5 + i, none⟩ = some ((f j).part i) := by
  rcases h with h | ⟨b, off, hA, hb, hc⟩
  · omega
  · injection hA with hA
    injection hA with h1 h2
    subst h1; subst h2
    exact hc j i hj hi
/-- The five cells of one instruction. -/
theorem Code.five (h : Code w (some ⟨B, cap, none⟩) n f) {j : Nat} (hj : j < n) : w.cell? ⟨B, cap + j * 5, none⟩ = some (.string (f j).op) ∧ w.cell? ⟨B, cap + j * 5 + 1, none⟩ = some (.int .i64 (f j).d) ∧ w.cell? ⟨B, cap + j * 5 + 2, none⟩ = some (.int .i64 (f j).a) ∧ w.cell? ⟨B, cap + j * 5 + 3, none⟩ = some (.int .i64 (f j).b) ∧ w.cell? ⟨B, cap + j * 5 + 4, none⟩ = some (.int .i64 (f j).k) :=
  ⟨h.cell hj (i := 0) (by omega), h.cell hj (i := 1) (by omega), h.cell hj (i := 2) (by omega), h.cell hj (i := 3) (by omega), h.cell hj (i := 4) (by omega)⟩
theorem OwnC.code {g : Nat} (h : OwnC w B (some ⟨g, 0, none⟩) n cap f) : Code w (some ⟨g, 0, none⟩) n f := by
  refine .inr ⟨g, 0, rfl, (World.ownsRow.lt h g rfl).2, fun j i hj hi => ?_⟩
  rw [Nat.zero_add, World.ownsRow.cellAt h (j * 5 + i) (by omega), codeL_get n f j i hj hi]
theorem OwnC.congr (h : OwnC w B A n cap f) (hf : ∀ j, j < n → f j = g j) : OwnC w B A n cap g := by
  unfold OwnC at h ⊢
  rw [← codeL_congr n f g hf]
  exact h
theorem OwnC.put {g : Nat} (h : OwnC w B (some ⟨g, 0, none⟩) n cap f) (k : Nat) (c : Ins) :
    OwnC (((((w.setCell ⟨g, k * 5, none⟩ (.string c.op)).setCell ⟨g, k * 5 + 1, none⟩ (.int .i64 c.d)).setCell ⟨g, k * 5 + 2, none⟩ (.int .i64 c.a)).setCell ⟨g, k * 5 + 3, none⟩ (.int .i64 c.b)).setCell ⟨g, k * 5 + 4, none⟩ (.int .i64 c.k)) B (some ⟨g, 0, none⟩) n cap (fun j => if j = k then c else f j) := by
  have h5 := (World.ownsRow.stored (World.ownsRow.stored (World.ownsRow.stored (World.ownsRow.stored (World.ownsRow.stored h (k * 5) (.string c.op)).1 (k * 5 + 1) (.int .i64 c.d)).1 (k * 5 + 2) (.int .i64 c.a)).1 (k * 5 + 3) (.int .i64 c.b)).1 (k * 5 + 4) (.int .i64 c.k)).1
  rw [codeL_set5] at h5
  exact h5
end
theorem Code.cells {w : World} {ad : Addr} {n : Nat} {f : Nat → Ins} (h : Code w (some ad) n f) : ∀ j u, (codeL n f)[j]? = some u → w.cell? (ad.add j) = some u := by
  intro j u hj
  by_cases hjn : j < n * 5
  · rcases h with h | ⟨b, off, hA, hb, hc⟩
    · omega
    · injection hA with hA
      subst hA
      have e := codeL_get n f (j / 5) (j % 5) (by omega) (by omega)
      rw [show j / 5 * 5 + j % 5 = j by omega, hj] at e
      injection e with e
      subst e
      rw [Addr.add_lit, ← hc (j / 5) (j % 5) (by omega) (by omega), Nat.add_assoc, show j / 5 * 5 + j % 5 = j by omega]
  · rw [List.getElem?_eq_none (by rw [codeL_len]; omega)] at hj
    cases hj
theorem codeL_oneCell (n : Nat) (f : Nat → Ins) : ∀ u ∈ codeL n f, u.oneCell' = true := by
  intro u hu
  simp only [codeL, rowL, List.mem_map] at hu
  obtain ⟨j, _, rfl⟩ := hu
  rcases (show j % 5 = 0 ∨ j % 5 = 1 ∨ j % 5 = 2 ∨ j % 5 = 3 ∨ j % 5 = 4 by omega) with e | e | e | e | e <;> rw [e] <;> rfl
/-- An instruction as a value. -/
abbrev IVal (op : ByteArray) (d a b k : Int) : Value := .agg #[.string op, .int .i64 d, .int .i64 a, .int .i64 b, .int .i64 k]
set_option maxHeartbeats 1000000 in
theorem eqInstr_same (op : ByteArray) (d a b k : Int) (w : World) :
    Calls Tryd.prog 73 #[IVal op d a b k, IVal op d a b k] w fun e w' => e = .returned (.bool true) ∧ ∃ o1 o2, (w.alloc o1).alloc o2 = w' := by
  go_enter Tryd.func73, Tryd.ntmps73
  go_wp2
  go_ret
  exact ⟨rfl, _, _, rfl⟩
theorem eqInstrS_zero (A1 A2 : Option Addr) (c1 c2 : Nat) (w : World) :
    Calls Tryd.prog 36 #[.slice A1 0 c1, .slice A2 0 c2] w fun e w' => e = .returned (.bool true) ∧ w.grownBy w' none := by
  go_enter Tryd.func36, Tryd.ntmps36
  go_wp2
  refine wp_loop_rounds 1 ?_
  rw [rounds_succ]
  go_wp2
  go_ret
  exact ⟨rfl, World.grownBy.refl _ _⟩
set_option maxHeartbeats 4000000 in
theorem eqInstrS_at (b1 o1 b2 o2 c1 c2 n : Nat) (f : Nat → Ins) (w : World) (hn : n ≤ 9223372036854775807) (h1 : Code w (some ⟨b1, o1, none⟩) n f) (h2 : Code w (some ⟨b2, o2, none⟩) n f) :
    Calls Tryd.prog 36 #[.slice (some ⟨b1, o1, none⟩) n c1, .slice (some ⟨b2, o2, none⟩) n c2] w fun e w' => e = .returned (.bool true) ∧ w.grownBy w' none := by
  have H1 := shade h1
  have H2 := shade h2
  clear h1 h2
  go_enter Tryd.func36, Tryd.ntmps36
  go_wp2
  go_loopw [5] (fun i wr => ∃ k : Nat, k ≤ n ∧ i = .int .i64 k ∧ w.grownBy wr none) (fun i _ => n - (intOf i).toNat)
  case atStart => exact ⟨0, Nat.zero_le _, rfl, World.grownBy.refl _ _⟩
  case round =>
    obtain ⟨k, hk, rfl, hg⟩ := hrel
    by_cases hkn : k < n
    · have hgd := grown_same hg (grown_drew1 wr)
      have p := (H1.out.on hgd).five hkn
      have q := (H2.out.on hgd).five hkn
      have HG := shade hgd
      clear hg hgd
      generalize f k = cc at *
      obtain ⟨op, d, a, b', kk⟩ := cc
      simp only [] at p q
      have S0 := shade (And.intro p q)
      clear p q
      go_wp2_with fail
      go_region_held3 (fun w' => (w'.cell? ⟨b1, o1 + k * 5, none⟩ = some (.string op) ∧ w'.cell? ⟨b1, o1 + k * 5 + 1, none⟩ = some (.int .i64 d) ∧ w'.cell? ⟨b1, o1 + k * 5 + 2, none⟩ = some (.int .i64 a) ∧ w'.cell? ⟨b1, o1 + k * 5 + 3, none⟩ = some (.int .i64 b') ∧ w'.cell? ⟨b1, o1 + k * 5 + 4, none⟩ = some (.int .i64 kk)) ∧ (w'.cell? ⟨b2, o2 + k * 5, none⟩ = some (.string op) ∧ w'.cell? ⟨b2, o2 + k * 5 + 1, none⟩ = some (.int .i64 d) ∧ w'.cell? ⟨b2, o2 + k * 5 + 2, none⟩ = some (.int .i64 a) ∧ w'.cell? ⟨b2, o2 + k * 5 + 3, none⟩ = some (.int .i64 b') ∧ w'.cell? ⟨b2, o2 + k * 5 + 4, none⟩ = some (.int .i64 kk))) (first | exact S0.out | exact S1.out)
        ((go_at_call 73; refine (eqInstr_same op d a b' kk _).mono ?_; rintro e w2 ⟨rfl, ob1, ob2, hw2⟩; have hgr := grown_same (World.grownBy_alloc wr.drew ob1 none) (World.grownBy_alloc _ ob2 none); rw [hw2] at hgr; have S1 := shade (And.intro (And.intro (hgr.cell S0.out.1.1 (by simp)) (And.intro (hgr.cell S0.out.1.2.1 (by simp)) (And.intro (hgr.cell S0.out.1.2.2.1 (by simp)) (And.intro (hgr.cell S0.out.1.2.2.2.1 (by simp)) (hgr.cell S0.out.1.2.2.2.2 (by simp)))))) (And.intro (hgr.cell S0.out.2.1 (by simp)) (And.intro (hgr.cell S0.out.2.2.1 (by simp)) (And.intro (hgr.cell S0.out.2.2.2.1 (by simp)) (And.intro (hgr.cell S0.out.2.2.2.2.1 (by simp)) (hgr.cell S0.out.2.2.2.2.2 (by simp))))))); have HG2 := shade (grown_same HG.out hgr); clear hgr hw2))
      rename_i hHeld
      clear hHeld
      go_wp2_with fail
      go_roundw
      case rel => exact ⟨k + 1, by omega, by go_num, HG2.out⟩
      case measure => simp [intOf]; omega
    · have hkn2 : k = n := by omega
      subst hkn2
      have HG := shade hg
      clear hg
      go_wp2
      go_ret
      exact ⟨rfl, HG.out⟩
theorem eqInstrS_any (A1 A2 : Option Addr) (c1 c2 n : Nat) (f : Nat → Ins) (w : World) (hn : n ≤ 9223372036854775807) (h1 : Code w A1 n f) (h2 : Code w A2 n f) :
    Calls Tryd.prog 36 #[.slice A1 n c1, .slice A2 n c2] w fun e w' => e = .returned (.bool true) ∧ w.grownBy w' none := by
  by_cases h0 : n = 0
  · subst h0
    exact eqInstrS_zero A1 A2 c1 c2 w
  · obtain ⟨b1, o1, rfl, _⟩ := h1.resolve_left h0
    obtain ⟨b2, o2, rfl, _⟩ := h2.resolve_left h0
    exact eqInstrS_at b1 o1 b2 o2 c1 c2 n f w hn h1 h2
end Go.Proofs.YtjjjgjnhiffpnaaDoor
