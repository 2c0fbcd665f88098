/- ValidCode answers as its model for the drawn program; a valid program's instructions are valid, and it may halt behind its end if there is room, for every list of bytes, under the conditions of the row. -/
import Derived.Test.YtlhfmjlcpcopkaaDoorW61
namespace Go.Proofs.YtlhfmjlcpcopkaaDoor
open Go.ChangeShapes Go.WideShapes Go.ChangeAt Go.WideMaps Go.WideElems Go.RowKit
/-- What is drawn: some program; nothing that was there has changed. -/
def DrawC (w : World) (e : Ending) (w' : World) : Prop :=
  ∃ (g' k c : Nat) (f : Nat → Ins), e = .returned (.slice (some ⟨g', 0, none⟩) k c) ∧ k ≤ 14 ∧ Code w' (some ⟨g', 0, none⟩) k f ∧ w.grownBy w' none
theorem Code.cells {w : World} {ad : Addr} {n : Nat} {f : Nat → Ins} (h : Code w (some ad) n f) : ∀ j u, (codeL n f)[j]? = some u → w.cell? (ad.add j) = some u := by
  intro j u hj
  by_cases hjn : j < n * 5
  · rcases h with h | ⟨b, off, hA, hb, hc⟩
    · omega
    · injection hA with hA
      subst hA
      have e := codeL_get n f (j / 5) (j % 5) (by omega) (by omega)
      rw [show j / 5 * 5 + j % 5 = j by omega, hj] at e
      injection e with e
      subst e
      rw [Addr.add_lit, ← hc (j / 5) (j % 5) (by omega) (by omega), Nat.add_assoc, show j / 5 * 5 + j % 5 = j by omega]
  · rw [List.getElem?_eq_none (by rw [codeL_len]; omega)] at hj
    cases hj
theorem codeL_oneCell (n : Nat) (f : Nat → Ins) : ∀ u ∈ codeL n f, u.oneCell' = true := by
  intro u hu
  simp only [codeL, rowL, List.mem_map] at hu
  obtain ⟨j, _, rfl⟩ := hu
  rcases (show j % 5 = 0 ∨ j % 5 = 1 ∨ j % 5 = 2 ∨ j % 5 = 3 ∨ j % 5 = 4 by omega) with e | e | e | e | e <;> rw [e] <;> rfl
theorem okI_vB {n : Nat} {c : Ins} (h : okI n c = true) : vB c.op.toList c.d c.a c.b c.k = true := by
  simp only [okI, Bool.and_eq_true] at h
  exact h.1
theorem vcB_ok {n : Nat} {f : Nat → Ins} (h : vcB n f = true) : ∀ j, j < n → okI n (f j) = true := by
  simp only [vcB, Bool.and_eq_true] at h
  exact allI_iff.1 h.1
theorem okI_more {n : Nat} {c : Ins} (h : okI n c = true) : okI (n + 1) c = true := by
  simp only [okI, Bool.and_eq_true, Bool.not_eq_true', Bool.and_eq_false_iff, decide_eq_false_iff_not] at h ⊢
  refine ⟨h.1, ?_⟩
  rcases h.2 with h2 | h2
  · exact .inl h2
  · exact .inr (by omega)
/-- The instruction that halts. -/
def hIns : Ins := ⟨⟨#[104, 108, 116]⟩, 0, 0, 0, 0⟩
theorem okI_hlt (n : Nat) : okI n hIns = true := by
  have h1 : vB hIns.op.toList hIns.d hIns.a hIns.b hIns.k = true := by decide +kernel
  have h2 : jmpB hIns.op.toList = false := by decide +kernel
  simp [okI, h1, h2]
theorem vcB_more {n : Nat} {f : Nat → Ins} (h : vcB n f = true) (hn : n < 40) : vcB (n + 1) (fun j => if j = n then hIns else f j) = true := by
  rw [vcB_all (fun j hj => ?_)]
  · exact decide_eq_true (by omega)
  · show okI (n + 1) (if j = n then hIns else f j) = true
    by_cases e : j = n
    · rw [if_pos e]
      exact okI_hlt _
    · rw [if_neg e]
      exact okI_more (vcB_ok h j (by omega))
theorem grown_row {a b c : World} {row : Option Nat} (h : a.grownBy b none) (h' : b.grownBy c row) (hr : ∀ k, row = some k → a.heap.size ≤ k) : a.grownBy c none :=
  ⟨h'.os.trans h.os, h'.tape.trans h.tape, h'.output.trans h.output, Nat.le_trans h.size h'.size, fun i hi _ => (h'.block i (Nat.lt_of_lt_of_le hi h.size) (fun e => by
    have := hr i e.symm
    omega)).trans (h.block i hi (by simp))⟩
section
variable {P : Program} {w : World}
theorem wpList_wanted {ops : Array Oper} {rest : List Oper} {o : Oper} {a : Act} {Q : Exit → Act → World → Prop} (hw : Region.wanted o (yielded ops a.tmps) = true)
    (h : ∀ K : Act → World → Prop, (∀ a w, wpList P ops Q rest a w → K a w) → o.wp P a w K Q) : wpList P ops Q (o :: rest) a w :=
  wpList_step fun K hK => by rw [if_pos hw]; exact h K hK
theorem wpList_append_own_g {ops : Array Oper} {rest : List Oper} {o : Oper} {a : Act} {Q : Exit → Act → World → Prop} (hgd : Region.wanted o (yielded ops a.tmps) = true) (s x : Operand) (t : TypeId)
    (ho : o.op = .call { callee := .builtin .append, args := #[s, x], argTypes := #[t, t] })
    (base : Nat) (e : TypeId) (i : TypeInfo) (z : Value) (size bytes : Nat) (ht : P.underlying t = some (.slice e)) (hi : P.info? e = some i) (hz : i.zero = some z)
    (hsize : i.size = size) (hby : i.bytes = bytes) (hzs : z.cells.size = size) (hsz : 0 < size)
    (v : Value) (n : Nat) (xs : List Value) (hs : a.eval s = v) (hown : w.ownsRow base e size v n xs)
    (ad : Addr) (m c : Nat) (news : List Value) (hx : a.eval x = .slice (some ad) m c) (hl : news.length = m * size) (hnews : ∀ j u, news[j]? = some u → w.cell? (ad.add j) = some u) (h1 : ∀ u ∈ news, u.oneCell' = true)
    (h63 : n + m ≤ maxLen) (hbytes : (n + m) * bytes ≤ 140737488355328) (hbase : base ≤ w.heap.size)
    (h : ∀ v' w', w'.ownsRow base e size v' (n + m) (xs ++ news) → w.grownBy w' v.ownBlock → (v' = .slice none 0 0 ↔ v = .slice none 0 0 ∧ m = 0) → wpList P ops Q rest (a.put o.dst v') w') : wpList P ops Q (o :: rest) a w :=
  wpList_wanted hgd fun _ hK => wp_append_own w s x t ho base e i z size bytes ht hi hz hsize hby hzs hsz v n xs hs hown ad m c news hx hl hnews h1 h63 hbytes hbase fun v' w' h2 h3 h4 => hK _ _ (h v' w' h2 h3 h4)
end

end Go.Proofs.YtlhfmjlcpcopkaaDoor
