/- The model's someCode returns a program of at most fourteen instructions whose cells can be read and changes nothing but the reader. The model's someCode returns a program of at most fourteen instructions whose cells can be read and changes nothing but the reader. ValidCode answers as its model for the drawn program; a valid program's instructions are valid, and it may halt behind its end if there is room, for every list of bytes, under the conditions of the row. -/
import Derived.Test.YtblnchcgeepemaaDoorW52
namespace Go.Proofs.YtblnchcgeepemaaDoor
open Go.RowKit
theorem rowL_append (m m' : Nat) (g : Nat → Value) : rowL m g ++ (List.range m').map (fun j => g (m + j)) = rowL (m + m') g := by
  unfold rowL
  rw [List.range_add, List.map_append, List.map_map]
  rfl
theorem codeL_snoc (k : Nat) (f : Nat → Ins) (c : Ins) : codeL k f ++ [.string c.op, .int .i64 c.d, .int .i64 c.a, .int .i64 c.b, .int .i64 c.k] = codeL (k + 1) (fun j => if j = k then c else f j) := by
  have e : codeL (k + 1) (fun j => if j = k then c else f j) = rowL (k * 5 + 5) (fun i => ((fun j => if j = k then c else f j) (i / 5)).part (i % 5)) := by
    unfold codeL
    rw [show (k + 1) * 5 = k * 5 + 5 by omega]
  rw [e, ← rowL_append]
  congr 1
  · unfold codeL
    apply rowL_congr
    intro i hi
    show _ = (if i / 5 = k then c else f (i / 5)).part (i % 5)
    rw [if_neg (by omega)]
  · show _ = [(if (k * 5 + 0) / 5 = k then c else f ((k * 5 + 0) / 5)).part ((k * 5 + 0) % 5), (if (k * 5 + 1) / 5 = k then c else f ((k * 5 + 1) / 5)).part ((k * 5 + 1) % 5), (if (k * 5 + 2) / 5 = k then c else f ((k * 5 + 2) / 5)).part ((k * 5 + 2) % 5), (if (k * 5 + 3) / 5 = k then c else f ((k * 5 + 3) / 5)).part ((k * 5 + 3) % 5), (if (k * 5 + 4) / 5 = k then c else f ((k * 5 + 4) / 5)).part ((k * 5 + 4) % 5)]
    rw [if_pos (by omega), if_pos (by omega), if_pos (by omega), if_pos (by omega), if_pos (by omega), show (k * 5 + 0) % 5 = 0 by omega, show (k * 5 + 1) % 5 = 1 by omega, show (k * 5 + 2) % 5 = 2 by omega, show (k * 5 + 3) % 5 = 3 by omega, show (k * 5 + 4) % 5 = 4 by omega]
    rfl
theorem Rd.kept {w w' : World} {g : Nat} {A : Option Addr} {n cap : Nat} {zs : List Int} {p : Nat} {row : Option Nat} (h : Rd w g A n cap zs p) (hG : w.grownBy w' row) (hg : some g ≠ row) (hb : ∀ b off, A = some ⟨b, off, none⟩ → 0 < n → some b ≠ row) : Rd w' g A n cap zs p := by
  refine ⟨h.blk.grown hG hg, h.len, h.cap, fun hn => ?_, h.rng, h.few⟩
  obtain ⟨b, off, hA, hbg, hc⟩ := h.cells hn
  exact ⟨b, off, hA, hbg, fun j hj => hG.cell (hc j hj) (hb b off hA hn)⟩
theorem Rd.on {w w' : World} {g : Nat} {A : Option Addr} {n cap : Nat} {zs : List Int} {p : Nat} (h : Rd w g A n cap zs p) (hG : w.grownBy w' none) : Rd w' g A n cap zs p := h.kept hG (by intro e; cases e) (by intro _ _ _ _ e; cases e)
theorem only_row {a b c : World} {g : Nat} {row : Option Nat} (h : a.grownBy b (some g)) (h' : b.grownBy c row) (hr : ∀ k, row = some k → a.heap.size ≤ k) : a.grownBy c (some g) :=
  ⟨h'.os.trans h.os, h'.tape.trans h.tape, h'.output.trans h.output, Nat.le_trans h.size h'.size, fun i hi hne => (h'.block i (Nat.lt_of_lt_of_le hi h.size) (fun e => by
    have := hr i e.symm
    omega)).trans (h.block i hi hne)⟩
theorem only_of {a b : World} {g : Nat} (h : a.grownBy b none) : a.grownBy b (some g) := ⟨h.os, h.tape, h.output, h.size, fun i hi _ => h.block i hi (by simp)⟩
/-- A slice's length. -/
def lenOf : Value → Nat
  | .slice _ n _ => n
  | _ => 0
/-- What stands while a program is drawn: k instructions so far. -/
structure SCB (w wr : World) (g : Nat) (A : Option Addr) (n cap : Nat) (zs : List Int) (p : Nat) (v : Value) (k : Nat) (f : Nat → Ins) : Prop where
  rd : Rd wr g A n cap zs p
  own : wr.ownsRow w.heap.size 32 5 v k (codeL k f)
  low : w.grownBy wr (some g)
  sep : g < w.heap.size ∧ ∀ b off, A = some ⟨b, off, none⟩ → 0 < n → b < w.heap.size
  pos : v ≠ .slice none 0 0
theorem SCB.val {w wr : World} {g : Nat} {A : Option Addr} {n cap : Nat} {zs : List Int} {p : Nat} {v : Value} {k : Nat} {f : Nat → Ins} (h : SCB w wr g A n cap zs p v k f) :
    ∃ g' c, v = .slice (some ⟨g', 0, none⟩) k c ∧ Code wr (some ⟨g', 0, none⟩) k f ∧ w.heap.size ≤ g' := by
  rcases h.own.2 with ⟨e, h0⟩ | ⟨g', c, cur, e, hb, _⟩
  · exact absurd e h.pos
  · refine ⟨g', c, e, ?_, hb⟩
    have ho := h.own
    rw [e] at ho
    exact OwnC.code ho
theorem SCB.step {w wr w2 : World} {g : Nat} {A : Option Addr} {n cap : Nat} {zs : List Int} {p p2 : Nat} {v : Value} {k : Nat} {f : Nat → Ins} (h : SCB w wr g A n cap zs p v k f) (hR : Rd w2 g A n cap zs p2) (hG : wr.grownBy w2 (some g)) : SCB w w2 g A n cap zs p2 v k f := by
  refine ⟨hR, World.ownsRow.kept h.own hG ?_, only_trans h.low hG, h.sep, h.pos⟩
  rcases hv : v.ownBlock with _ | k'
  · exact .inl rfl
  · refine .inr (fun e => ?_)
    injection e with e
    have := World.ownsRow.lt h.own k' hv
    have := h.sep.1
    omega
theorem SCB.on {w wr w2 : World} {g : Nat} {A : Option Addr} {n cap : Nat} {zs : List Int} {p : Nat} {v : Value} {k : Nat} {f : Nat → Ins} (h : SCB w wr g A n cap zs p v k f) (hG : wr.grownBy w2 none) : SCB w w2 g A n cap zs p v k f := h.step (h.rd.on hG) (only_of hG)
theorem SCB.far {w wr : World} {g : Nat} {A : Option Addr} {n cap : Nat} {zs : List Int} {p : Nat} {v : Value} {k : Nat} {f : Nat → Ins} (h : SCB w wr g A n cap zs p v k f) (r o : Nat) (u : Value) (hr : w.heap.size ≤ r) (hv : ∀ j, v.ownBlock = some j → j ≠ r) : SCB w (wr.setCell ⟨r, o, none⟩ u) g A n cap zs p v k f := by
  refine ⟨h.rd.kept (grown_set r o u) (fun e => ?_) (fun b off hA hn e => ?_), World.ownsRow.kept h.own (grown_set r o u) ?_, only_row h.low (grown_set r o u) (fun j e => ?_), h.sep, h.pos⟩
  · injection e with e
    have := h.sep.1
    omega
  · injection e with e
    have := h.sep.2 b off hA hn
    omega
  · rcases he : v.ownBlock with _ | j
    · exact .inl rfl
    · refine .inr (fun e => ?_)
      injection e with e
      exact hv j he e
  · injection e with e
    omega
/-- What someCode leaves. -/
def SCOk (w : World) (g : Nat) (e : Ending) (w' : World) : Prop :=
  ∃ (g' k c : Nat) (f : Nat → Ins), e = .returned (.slice (some ⟨g', 0, none⟩) k c) ∧ k ≤ 14 ∧ Code w' (some ⟨g', 0, none⟩) k f ∧ w.grownBy w' (some g)


theorem cells_new (w : World) (t : TypeId) (op : ByteArray) (d a b k : Int) : ∀ j u, ([.string op, .int .i64 d, .int .i64 a, .int .i64 b, .int .i64 k] : List Value)[j]? = some u → (w.alloc (.cells #[.string op, .int .i64 d, .int .i64 a, .int .i64 b, .int .i64 k] t)).cell? ((⟨w.heap.size, 0, none⟩ : Addr).add j) = some u := by
  intro j u h
  rw [Addr.add_lit, Nat.zero_add, World.cell?_alloc_new]
  simpa using h
theorem one_cells (op : ByteArray) (d a b k : Int) : ∀ u ∈ ([.string op, .int .i64 d, .int .i64 a, .int .i64 b, .int .i64 k] : List Value), u.oneCell' = true := by
  intro u hu
  simp only [List.mem_cons, List.not_mem_nil, or_false] at hu
  rcases hu with rfl | rfl | rfl | rfl | rfl <;> rfl
theorem SCB.snoc {w wr w2 w3 : World} {g : Nat} {A : Option Addr} {n cap : Nat} {zs : List Int} {p : Nat} {v v' : Value} {k k' : Nat} {f f' : Nat → Ins} (h : SCB w wr g A n cap zs p v k f) (hG : wr.grownBy w2 none)
    (ho : w3.ownsRow w.heap.size 32 5 v' k' (codeL k' f')) (hG' : w2.grownBy w3 v.ownBlock) (hn : v' ≠ .slice none 0 0) : SCB w w3 g A n cap zs p v' k' f' := by
  have h2 := h.on hG
  refine ⟨h2.rd.kept hG' (fun e => ?_) (fun b off hA hn e => ?_), ho, only_row h2.low hG' (fun j e => (World.ownsRow.lt h2.own j e).1), h.sep, hn⟩
  · have := (World.ownsRow.lt h2.own g e.symm).1
    have := h.sep.1
    omega
  · have := (World.ownsRow.lt h2.own b e.symm).1
    have := h.sep.2 b off hA hn
    omega

end Go.Proofs.YtblnchcgeepemaaDoor

namespace Go.Proofs.YtblnchcgeepemaaDoor
open Go.RowKit
end Go.Proofs.YtblnchcgeepemaaDoor

namespace Go.Proofs.YtblnchcgeepemaaDoor
open Go.ChangeShapes Go.WideShapes Go.ChangeAt Go.WideMaps Go.WideElems Go.RowKit
/-- What is drawn: some program; nothing that was there has changed. -/
def DrawC (w : World) (e : Ending) (w' : World) : Prop :=
  ∃ (g' k c : Nat) (f : Nat → Ins), e = .returned (.slice (some ⟨g', 0, none⟩) k c) ∧ k ≤ 14 ∧ Code w' (some ⟨g', 0, none⟩) k f ∧ w.grownBy w' none
theorem Code.cells {w : World} {ad : Addr} {n : Nat} {f : Nat → Ins} (h : Code w (some ad) n f) : ∀ j u, (codeL n f)[j]? = some u → w.cell? (ad.add j) = some u := by
  intro j u hj
  by_cases hjn : j < n * 5
  · rcases h with h | ⟨b, off, hA, hb, hc⟩
    · omega
    · injection hA with hA
      subst hA
      have e := codeL_get n f (j / 5) (j % 5) (by omega) (by omega)
      rw [show j / 5 * 5 + j % 5 = j by omega, hj] at e
      injection e with e
      subst e
      rw [Addr.add_lit, ← hc (j / 5) (j % 5) (by omega) (by omega), Nat.add_assoc, show j / 5 * 5 + j % 5 = j by omega]
  · rw [List.getElem?_eq_none (by rw [codeL_len]; omega)] at hj
    cases hj
theorem codeL_oneCell (n : Nat) (f : Nat → Ins) : ∀ u ∈ codeL n f, u.oneCell' = true := by
  intro u hu
  simp only [codeL, rowL, List.mem_map] at hu
  obtain ⟨j, _, rfl⟩ := hu
  rcases (show j % 5 = 0 ∨ j % 5 = 1 ∨ j % 5 = 2 ∨ j % 5 = 3 ∨ j % 5 = 4 by omega) with e | e | e | e | e <;> rw [e] <;> rfl
theorem okI_vB {n : Nat} {c : Ins} (h : okI n c = true) : vB c.op.toList c.d c.a c.b c.k = true := by
  simp only [okI, Bool.and_eq_true] at h
  exact h.1
theorem vcB_ok {n : Nat} {f : Nat → Ins} (h : vcB n f = true) : ∀ j, j < n → okI n (f j) = true := by
  simp only [vcB, Bool.and_eq_true] at h
  exact allI_iff.1 h.1
theorem okI_more {n : Nat} {c : Ins} (h : okI n c = true) : okI (n + 1) c = true := by
  simp only [okI, Bool.and_eq_true, Bool.not_eq_true', Bool.and_eq_false_iff, decide_eq_false_iff_not] at h ⊢
  refine ⟨h.1, ?_⟩
  rcases h.2 with h2 | h2
  · exact .inl h2
  · exact .inr (by omega)
/-- The instruction that halts. -/
def hIns : Ins := ⟨⟨#[104, 108, 116]⟩, 0, 0, 0, 0⟩
theorem okI_hlt (n : Nat) : okI n hIns = true := by
  have h1 : vB hIns.op.toList hIns.d hIns.a hIns.b hIns.k = true := by decide +kernel
  have h2 : jmpB hIns.op.toList = false := by decide +kernel
  simp [okI, h1, h2]
theorem vcB_more {n : Nat} {f : Nat → Ins} (h : vcB n f = true) (hn : n < 40) : vcB (n + 1) (fun j => if j = n then hIns else f j) = true := by
  rw [vcB_all (fun j hj => ?_)]
  · exact decide_eq_true (by omega)
  · show okI (n + 1) (if j = n then hIns else f j) = true
    by_cases e : j = n
    · rw [if_pos e]
      exact okI_hlt _
    · rw [if_neg e]
      exact okI_more (vcB_ok h j (by omega))
theorem grown_row {a b c : World} {row : Option Nat} (h : a.grownBy b none) (h' : b.grownBy c row) (hr : ∀ k, row = some k → a.heap.size ≤ k) : a.grownBy c none :=
  ⟨h'.os.trans h.os, h'.tape.trans h.tape, h'.output.trans h.output, Nat.le_trans h.size h'.size, fun i hi _ => (h'.block i (Nat.lt_of_lt_of_le hi h.size) (fun e => by
    have := hr i e.symm
    omega)).trans (h.block i hi (by simp))⟩
section
variable {P : Program} {w : World}
theorem wpList_wanted {ops : Array Oper} {rest : List Oper} {o : Oper} {a : Act} {Q : Exit → Act → World → Prop} (hw : Region.wanted o (yielded ops a.tmps) = true)
    (h : ∀ K : Act → World → Prop, (∀ a w, wpList P ops Q rest a w → K a w) → o.wp P a w K Q) : wpList P ops Q (o :: rest) a w :=
  wpList_step fun K hK => by rw [if_pos hw]; exact h K hK
theorem wpList_append_own_g {ops : Array Oper} {rest : List Oper} {o : Oper} {a : Act} {Q : Exit → Act → World → Prop} (hgd : Region.wanted o (yielded ops a.tmps) = true) (s x : Operand) (t : TypeId)
    (ho : o.op = .call { callee := .builtin .append, args := #[s, x], argTypes := #[t, t] })
    (base : Nat) (e : TypeId) (i : TypeInfo) (z : Value) (size bytes : Nat) (ht : P.underlying t = some (.slice e)) (hi : P.info? e = some i) (hz : i.zero = some z)
    (hsize : i.size = size) (hby : i.bytes = bytes) (hzs : z.cells.size = size) (hsz : 0 < size)
    (v : Value) (n : Nat) (xs : List Value) (hs : a.eval s = v) (hown : w.ownsRow base e size v n xs)
    (ad : Addr) (m c : Nat) (news : List Value) (hx : a.eval x = .slice (some ad) m c) (hl : news.length = m * size) (hnews : ∀ j u, news[j]? = some u → w.cell? (ad.add j) = some u) (h1 : ∀ u ∈ news, u.oneCell' = true)
    (h63 : n + m ≤ maxLen) (hbytes : (n + m) * bytes ≤ 140737488355328) (hbase : base ≤ w.heap.size)
    (h : ∀ v' w', w'.ownsRow base e size v' (n + m) (xs ++ news) → w.grownBy w' v.ownBlock → (v' = .slice none 0 0 ↔ v = .slice none 0 0 ∧ m = 0) → wpList P ops Q rest (a.put o.dst v') w') : wpList P ops Q (o :: rest) a w :=
  wpList_wanted hgd fun _ hK => wp_append_own w s x t ho base e i z size bytes ht hi hz hsize hby hzs hsz v n xs hs hown ad m c news hx hl hnews h1 h63 hbytes hbase fun v' w' h2 h3 h4 => hK _ _ (h v' w' h2 h3 h4)
end

end Go.Proofs.YtblnchcgeepemaaDoor
