/- Words of a text, as lists of bytes: the automaton that puts a byte behind what is kept, and what a run of bytes of one kind makes of it. -/
import Derived.Test.YtghjppijcneamaaW30
import Derived.Laws.Concat
import Derived.Laws.DeepStrings4
namespace Go.Proofs.Ytghjppijcneamaa
open Go.RowKit
/-- A text of bytes. -/
def tx (x : List UInt8) : ByteArray := ⟨x.toArray⟩
theorem tx_size (x : List UInt8) : (tx x).size = x.length := by simp [tx, ByteArray.size]
theorem tx_toList (x : List UInt8) : (tx x).toList = x := ByteArray.toList_mk x
theorem tx_append (x y : List UInt8) : tx x ++ tx y = tx (x ++ y) := ByteArray.mk_append_mk x y
theorem tx_extract (x : List UInt8) (a b : Nat) : (tx x).extract a b = tx ((x.drop a).take (b - a)) := ByteArray.extract_mk x a b
theorem tx_get (x : List UInt8) (i : Nat) (h : i < (tx x).size) (h' : i < x.length) : (tx x)[i]'h = x[i] := by
  show (ByteArray.mk x.toArray)[i] = x[i]
  simp [ByteArray.getElem_eq_getElem_data]
theorem tx_of (s : ByteArray) : s = tx s.data.toList := rfl
theorem tx_inj {x y : List UInt8} (h : tx x = tx y) : x = y := by
  have := congrArg ByteArray.toList h
  rwa [tx_toList, tx_toList] at this
/-- The kind of a byte: a space, a digit, a letter, another one. -/
def kd (c : UInt8) : Nat := if c.toNat = 32 ∨ c.toNat = 10 then 0 else if 48 ≤ c.toNat ∧ c.toNat ≤ 57 then 1 else if 97 ≤ c.toNat ∧ c.toNat ≤ 122 then 2 else 3
theorem kd_le (c : UInt8) : kd c ≤ 3 := by
  unfold kd
  split
  · omega
  · split
    · omega
    · split <;> omega
theorem kd_zero (c : UInt8) : kd c = 0 ↔ (c.toNat = 32 ∨ c.toNat = 10) := by
  unfold kd
  split
  · simp [*]
  · split
    · simp [*]
    · split <;> simp [*]
theorem kd_one (c : UInt8) : kd c = 1 ↔ (48 ≤ c.toNat ∧ c.toNat ≤ 57) := by
  unfold kd
  split
  · constructor
    · intro h; cases h
    · intro h; omega
  · split
    · simp [*]
    · split
      · constructor
        · intro h; omega
        · intro h; omega
      · constructor
        · intro h; omega
        · intro h; omega
theorem kd_two (c : UInt8) : kd c = 2 ↔ (97 ≤ c.toNat ∧ c.toNat ≤ 122) := by
  unfold kd
  split
  · constructor
    · intro h; cases h
    · intro h; omega
  · split
    · constructor
      · intro h; omega
      · intro h; omega
    · split
      · simp [*]
      · constructor
        · intro h; omega
        · intro h; omega
/-- All of them are of one kind, and there is one. -/
def allK (k : Nat) (x : List UInt8) : Bool := !x.isEmpty && x.all (fun c => kd c == k)
/-- What is kept, if there is any. -/
def one? (now : List UInt8) : List (List UInt8) := if now = [] then [] else [now]
/-- The words, byte by byte, with what is kept. -/
def tkw (now : List UInt8) : List UInt8 → List (List UInt8)
  | [] => one? now
  | c :: l => if kd c = 0 then one? now ++ tkw [] l
    else if now ≠ [] ∧ ¬ (kd c = 1 ∧ allK 1 now = true) ∧ ¬ (kd c = 2 ∧ allK 2 now = true) then now :: tkw [c] l
    else tkw (now ++ [c]) l
theorem tkw_space (now : List UInt8) (c : UInt8) (l : List UInt8) (h : kd c = 0) : tkw now (c :: l) = one? now ++ tkw [] l := by
  rw [tkw, if_pos h]
theorem tkw_new (now : List UInt8) (c : UInt8) (l : List UInt8) (h : kd c ≠ 0) (h0 : now ≠ []) (h1 : ¬ (kd c = 1 ∧ allK 1 now = true)) (h2 : ¬ (kd c = 2 ∧ allK 2 now = true)) : tkw now (c :: l) = now :: tkw [c] l := by
  rw [tkw, if_neg h, if_pos ⟨h0, h1, h2⟩]
theorem tkw_on (now : List UInt8) (c : UInt8) (l : List UInt8) (h : kd c ≠ 0) (h1 : now = [] ∨ (kd c = 1 ∧ allK 1 now = true) ∨ (kd c = 2 ∧ allK 2 now = true)) : tkw now (c :: l) = tkw (now ++ [c]) l := by
  rw [tkw, if_neg h, if_neg]
  rintro ⟨a, b, d⟩
  rcases h1 with h1 | h1 | h1
  · exact a h1
  · exact b h1
  · exact d h1
theorem allK_snoc (k : Nat) (x : List UInt8) (c : UInt8) (h : allK k x = true ∨ x = []) (hc : kd c = k) : allK k (x ++ [c]) = true := by
  simp only [allK, Bool.and_eq_true, Bool.not_eq_true', List.isEmpty_eq_false_iff] at h ⊢
  refine ⟨by simp, ?_⟩
  rcases h with h | h
  · simp [h.2, hc]
  · simp [h, hc]
theorem allK_kind {k j : Nat} {x : List UInt8} (h : allK k x = true) (h' : allK j x = true) : k = j := by
  simp only [allK, Bool.and_eq_true, Bool.not_eq_true', List.isEmpty_eq_false_iff, List.all_eq_true, beq_iff_eq] at h h'
  obtain ⟨c, hc⟩ := List.exists_mem_of_ne_nil x h.1
  exact (h.2 c hc).symm.trans (h'.2 c hc)
theorem allK_ne {k : Nat} {x : List UInt8} (h : allK k x = true) : x ≠ [] := by
  simp only [allK, Bool.and_eq_true, Bool.not_eq_true', List.isEmpty_eq_false_iff] at h
  exact h.1
/-- A row of digits, or of letters, is put behind what is kept. -/
theorem tkw_row (k : Nat) (hk : k = 1 ∨ k = 2) : ∀ (r now rest : List UInt8), allK k now = true → (∀ c ∈ r, kd c = k) → tkw now (r ++ rest) = tkw (now ++ r) rest := by
  intro r
  induction r with
  | nil => intro now rest _ _; simp
  | cons c r ih =>
    intro now rest h hr
    have hc := hr c (by simp)
    rw [List.cons_append, tkw_on now c _ (by omega) (by
      rcases hk with rfl | rfl
      · exact .inr (.inl ⟨hc, h⟩)
      · exact .inr (.inr ⟨hc, h⟩)), ih _ _ (allK_snoc k now c (.inl h) hc) (fun d hd => hr d (by simp [hd]))]
    simp
theorem tkw_end (k : Nat) (now rest : List UInt8) (h : allK k now = true) (hr : ∀ c l, rest = c :: l → kd c ≠ k ∨ k = 3) : tkw now rest = now :: tkw [] rest := by
  have hne := allK_ne h
  cases rest with
  | nil => simp [tkw, one?, hne]
  | cons c l =>
    by_cases h0 : kd c = 0
    · rw [tkw_space _ _ _ h0, tkw_space _ _ _ h0]
      simp [one?, hne]
    · have hck := hr c l rfl
      rw [tkw_new now c l h0 hne (fun ⟨a, b⟩ => by
        have := allK_kind h b
        omega) (fun ⟨a, b⟩ => by
        have := allK_kind h b
        omega), tkw_on [] c l h0 (.inl rfl)]
      simp
/-- A row of bytes of one kind, as far as it goes: a word, or none. -/
theorem tkw_run (c : UInt8) (r rest : List UInt8) (hr : ∀ d ∈ r, kd d = kd c) (h3 : kd c = 3 → r = []) (hrest : ∀ d l, rest = d :: l → kd d ≠ kd c ∨ kd c = 3) :
    tkw [] (c :: r ++ rest) = (if kd c = 0 then [] else [c :: r]) ++ tkw [] rest := by
  by_cases h0 : kd c = 0
  · rw [if_pos h0, List.nil_append]
    have : ∀ (x : List UInt8), (∀ d ∈ x, kd d = 0) → tkw [] (x ++ rest) = tkw [] rest := by
      intro x
      induction x with
      | nil => intro _; rfl
      | cons d x ih =>
        intro hx
        rw [List.cons_append, tkw_space _ _ _ (hx d (by simp)), ih (fun e he => hx e (by simp [he]))]
        simp [one?]
    exact this (c :: r) (fun d hd => by
      rcases List.mem_cons.1 hd with rfl | hd
      · exact h0
      · rw [hr d hd, h0])
  · rw [if_neg h0, List.cons_append, tkw_on [] c _ h0 (.inl rfl), List.nil_append]
    have h1 : allK (kd c) [c] = true := by simp [allK]
    by_cases h3' : kd c = 3
    · rw [h3 h3', List.nil_append]
      exact tkw_end (kd c) [c] rest h1 hrest
    · have hle := kd_le c
      rw [tkw_row (kd c) (by omega) r [c] rest h1 hr]
      have h2 : allK (kd c) ([c] ++ r) = true := by
        simp [allK]
        exact hr
      exact tkw_end (kd c) _ rest h2 hrest
theorem one_len (now : List UInt8) : (one? now).length ≤ now.length := by
  unfold one?
  split
  · simp
  · rename_i h
    cases now with
    | nil => exact absurd rfl h
    | cons _ _ => simp
theorem tkw_len : ∀ (l now : List UInt8), (tkw now l).length ≤ now.length + l.length := by
  intro l
  induction l with
  | nil => intro now; simpa [tkw] using one_len now
  | cons c l ih =>
    intro now
    rw [tkw]
    split
    · have := one_len now
      have := ih []
      simp at this ⊢
      omega
    · split
      · rename_i h
        have h1 : 1 ≤ now.length := by
          rcases now with _ | ⟨_, _⟩
          · exact absurd rfl h.1
          · simp
        have := ih [c]
        simp at this ⊢
        omega
      · have := ih (now ++ [c])
        simp at this ⊢
        omega
/-- How far a row of one kind goes. -/
def runLen (k : Nat) : List UInt8 → Nat
  | [] => 0
  | d :: r => if k ≠ 3 ∧ kd d = k then runLen k r + 1 else 0
theorem runLen_three (r : List UInt8) : runLen 3 r = 0 := by
  cases r with
  | nil => rfl
  | cons d r => rw [runLen, if_neg (by simp)]
theorem runLen_le (k : Nat) : ∀ (r : List UInt8), runLen k r ≤ r.length
  | [] => Nat.le_refl _
  | d :: r => by
    rw [runLen]
    split
    · have := runLen_le k r
      simp
      omega
    · omega
theorem runLen_mem (k : Nat) : ∀ (r : List UInt8), ∀ d ∈ r.take (runLen k r), kd d = k
  | [] => by simp
  | d :: r => by
    rw [runLen]
    split
    · rename_i h
      intro e he
      rw [List.take_succ_cons] at he
      rcases List.mem_cons.1 he with rfl | he
      · exact h.2
      · exact runLen_mem k r e he
    · simp
theorem runLen_next (k : Nat) : ∀ (r : List UInt8) (j : Nat), j = runLen k r → ∀ (h : j < r.length), kd (r[j]) ≠ k ∨ k = 3
  | [], j, _, h => absurd h (Nat.not_lt_zero _)
  | d :: r, j, hj, h => by
    rw [runLen] at hj
    split at hj
    · subst hj
      exact runLen_next k r _ rfl (by simpa using h)
    · rename_i hc
      subst hj
      show kd d ≠ k ∨ k = 3
      by_cases h3 : k = 3
      · exact .inr h3
      · exact .inl fun e => hc ⟨h3, e⟩
theorem runLen_in (k : Nat) : ∀ (r : List UInt8) (j : Nat), j < runLen k r → ∀ (h : j < r.length), kd (r[j]) = k ∧ k ≠ 3
  | [], j, _, h => absurd h (Nat.not_lt_zero _)
  | d :: r, j, hj, h => by
    rw [runLen] at hj
    split at hj
    · rename_i hc
      rcases j with _ | j
      · exact ⟨hc.2, hc.1⟩
      · exact runLen_in k r j (by omega) (by simpa using h)
    · omega
/-- A round of the program's loop. -/
theorem tkw_step (c : UInt8) (r : List UInt8) : tkw [] (c :: r) = (if kd c = 0 then [] else [c :: r.take (runLen (kd c) r)]) ++ tkw [] (r.drop (runLen (kd c) r)) := by
  have h := tkw_run c (r.take (runLen (kd c) r)) (r.drop (runLen (kd c) r)) (runLen_mem _ r) (fun h3 => by rw [h3, runLen_three]; rfl) (fun d l e => by
    by_cases hl : runLen (kd c) r < r.length
    · have := runLen_next (kd c) r _ rfl hl
      rw [List.drop_eq_getElem_cons hl] at e
      injection e with e1 _
      rw [← e1]
      exact this
    · rw [List.drop_eq_nil_of_le (by omega)] at e
      cases e)
  rwa [List.cons_append, List.take_append_drop] at h
/-- The cells of texts. -/
def strL (xs : List (List UInt8)) : List Value := xs.map fun x => .string (tx x)
theorem strL_len (xs : List (List UInt8)) : (strL xs).length = xs.length := by simp [strL]
theorem strL_snoc (xs : List (List UInt8)) (x : List UInt8) : strL xs ++ [.string (tx x)] = strL (xs ++ [x]) := by simp [strL]
theorem strL_oneCell (xs : List (List UInt8)) : ∀ u ∈ strL xs, u.oneCell' = true := by
  intro u hu
  simp only [strL, List.mem_map] at hu
  obtain ⟨x, _, rfl⟩ := hu
  rfl
theorem str_one (x : ByteArray) : ∀ u ∈ ([.string x] : List Value), u.oneCell' = true := by
  intro u hu
  simp only [List.mem_cons, List.not_mem_nil, or_false] at hu
  rw [hu]
  rfl
theorem str_new (w : World) (t : TypeId) (x : ByteArray) : ∀ j u, ([.string x] : List Value)[j]? = some u → (w.alloc (.cells #[.string x] t)).cell? ((⟨w.heap.size, 0, none⟩ : Addr).add j) = some u := by
  intro j u h
  rw [Addr.add_lit, Nat.zero_add, World.cell?_alloc_new]
  simpa using h
theorem strL_get (xs : List (List UInt8)) (j : Nat) (h : j < xs.length) : (strL xs)[j]? = some (.string (tx xs[j])) := by
  simp [strL, h]
end Go.Proofs.Ytghjppijcneamaa
