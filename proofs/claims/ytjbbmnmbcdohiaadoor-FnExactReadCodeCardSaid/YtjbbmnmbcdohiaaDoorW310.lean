/- Texts that are cut at a byte; numbers are read back; the text of an instruction is cut into its words. -/
import Derived.Test.YtjbbmnmbcdohiaaDoorW303
import Derived.Test.YtjbbmnmbcdohiaaDoorW7
import Derived.Lib.SplitLaws
import Derived.Lib.AtoiAll
import Derived.Lib.Strings
namespace Go.Proofs.YtjbbmnmbcdohiaaDoor
open Go.RowKit
/-- The pieces of a text between the bytes of a kind. -/
def splitC (c : UInt8) : List UInt8 → List (List UInt8)
  | [] => [[]]
  | x :: l => if x = c then [] :: splitC c l else (x :: (splitC c l).headD []) :: (splitC c l).tail
theorem splitC_ne (c : UInt8) (l : List UInt8) : splitC c l ≠ [] := by
  cases l with
  | nil => simp [splitC]
  | cons x l =>
    unfold splitC
    split <;> simp
theorem splitC_hit (c : UInt8) (a l : List UInt8) (h : c ∉ a) : splitC c (a ++ c :: l) = a :: splitC c l := by
  induction a with
  | nil => simp [splitC]
  | cons x a ih =>
    have h1 : x ≠ c := fun e => h (by rw [e]; exact List.mem_cons_self)
    have h2 : c ∉ a := fun e => h (List.mem_cons_of_mem _ e)
    rw [List.cons_append, splitC, if_neg h1, ih h2]
    rfl
theorem splitC_miss (c : UInt8) (a : List UInt8) (h : c ∉ a) : splitC c a = [a] := by
  induction a with
  | nil => rfl
  | cons x a ih =>
    have h1 : x ≠ c := fun e => h (by rw [e]; exact List.mem_cons_self)
    have h2 : c ∉ a := fun e => h (List.mem_cons_of_mem _ e)
    rw [splitC, if_neg h1, ih h2]
    rfl
theorem splitC_len (c : UInt8) (l : List UInt8) : (splitC c l).length = l.count c + 1 := by
  induction l with
  | nil => rfl
  | cons x l ih =>
    have hne := splitC_ne c l
    unfold splitC
    by_cases h : x = c
    · rw [if_pos h, List.length_cons, ih, h, List.count_cons_self]
    · rw [if_neg h, List.length_cons, List.length_tail, ih, List.count_cons_of_ne (by simpa using h)]
      rfl
theorem splitC_le (c : UInt8) (l : List UInt8) : (splitC c l).length ≤ l.length + 1 := by
  rw [splitC_len]
  have := List.count_le_length (a := c) (l := l)
  omega
theorem index_hit1 (c : UInt8) (a l : List UInt8) (h : c ∉ a) : Lib.index (a ++ c :: l) [c] = a.length := by
  induction a with
  | nil => simp [Lib.index, List.isPrefixOf]
  | cons x a ih =>
    have h1 : x ≠ c := fun e => h (by rw [e]; exact List.mem_cons_self)
    have h2 : c ∉ a := fun e => h (List.mem_cons_of_mem _ e)
    rw [List.cons_append, Lib.index, ih h2]
    have : ([c] : List UInt8).isPrefixOf (x :: (a ++ c :: l)) = false := by simp [List.isPrefixOf, Ne.symm h1]
    rw [this]
    simp
theorem index_miss1 (c : UInt8) (a : List UInt8) (h : c ∉ a) : Lib.index a [c] = -1 := by
  induction a with
  | nil => rfl
  | cons x a ih =>
    have h1 : x ≠ c := fun e => h (by rw [e]; exact List.mem_cons_self)
    have h2 : c ∉ a := fun e => h (List.mem_cons_of_mem _ e)
    rw [Lib.index, ih h2]
    have : ([c] : List UInt8).isPrefixOf (x :: a) = false := by simp [List.isPrefixOf, Ne.symm h1]
    rw [this]
    simp
theorem splitK_C (c : UInt8) : ∀ (k : Nat) (l : List UInt8), l.count c = k → Lib.splitK [c] 0 k l = splitC c l
  | 0, l, h => by
    rw [splitC_miss c l (List.count_eq_zero.1 h)]
    rfl
  | k + 1, l, h => by
    have hm : c ∈ l := List.count_pos_iff.1 (by omega)
    obtain ⟨a, r, rfl, ha⟩ := List.eq_append_cons_of_mem hm
    rw [splitC_hit c a r ha, Lib.splitK, index_hit1 c a r ha]
    have h0 : ((a.length : Int) == -1) = false := by simp
    rw [h0]
    have hd : (a ++ c :: r).drop ((a.length : Int).toNat + ([c] : List UInt8).length) = r := by
      rw [Int.toNat_natCast]
      simp
    have ht : (a ++ c :: r).take ((a.length : Int).toNat + 0) = a := by
      rw [Int.toNat_natCast]
      simp
    rw [hd, ht, splitK_C c k r (by
      rw [List.count_append, List.count_cons_self, List.count_eq_zero.2 ha] at h
      omega)]
    rfl
theorem count_C (c : UInt8) (l : List UInt8) : Lib.countB (tx l) ⟨#[c]⟩ = l.count c := by
  rw [show Lib.countB (tx l) ⟨#[c]⟩ = Lib.count l [c] from rfl, Lib.count_one]
theorem splitB_C (c : UInt8) (l : List UInt8) : Lib.splitB ⟨#[c]⟩ 0 (Lib.countB (tx l) ⟨#[c]⟩) (tx l) = (splitC c l).map tx := by
  have h := Lib.splitB_data ⟨#[c]⟩ 0 (Lib.countB (tx l) ⟨#[c]⟩) (tx l)
  have e : Lib.splitK (⟨#[c]⟩ : ByteArray).data.toList 0 (Lib.countB (tx l) ⟨#[c]⟩) (tx l).data.toList = splitC c l := by
    rw [count_C]
    exact splitK_C c _ l rfl
  rw [e] at h
  rw [← h, List.map_map]
  exact (List.map_id _).symm
/-- The digits of a number below a thousand, written out. -/
def dg (n : Nat) : List UInt8 := if n < 10 then [UInt8.ofNat (48 + n)] else if n / 10 < 10 then [UInt8.ofNat (48 + n / 10), UInt8.ofNat (48 + n % 10)] else [UInt8.ofNat (48 + n / 10 / 10), UInt8.ofNat (48 + n / 10 % 10), UInt8.ofNat (48 + n % 10)]
theorem nm_dg (n : Nat) (h : n < 1000) : nm n = dg n := by
  unfold dg
  by_cases h1 : n < 10
  · rw [if_pos h1, nm_one n h1]
  · rw [if_neg h1, nm_more n (by omega), nm_one (n % 10) (by omega)]
    by_cases h2 : n / 10 < 10
    · rw [if_pos h2, nm_one _ h2]
      rfl
    · rw [if_neg h2, nm_more (n / 10) (by omega), nm_one (n / 10 / 10) (by omega), nm_one (n / 10 % 10) (by omega)]
      rfl
/-- What digits tell. -/
def valN (l : List UInt8) : Nat := l.foldl (fun n c => 10 * n + (c.toNat - 48)) 0
theorem valN_snoc (l : List UInt8) (c : UInt8) : valN (l ++ [c]) = 10 * valN l + (c.toNat - 48) := by
  simp [valN, List.foldl_append]
theorem dg_facts : ∀ n : Fin 256, Lib.atoiAll (dg n.val) = .ok (n.val : Int) ∧ valN (dg n.val) = n.val ∧ (dg n.val).all (fun c => decide (48 ≤ c.toNat ∧ c.toNat ≤ 57)) = true ∧ (List.range (dg n.val).length).all (fun j => decide (valN ((dg n.val).take j) ≤ 1000)) = true ∧ dg n.val ≠ [] := by decide +kernel
theorem nm_atoi (n : Nat) (h : n < 256) : Lib.atoiAll (nm n) = .ok (n : Int) := by
  rw [nm_dg n (by omega)]
  exact (dg_facts ⟨n, h⟩).1
theorem nm_val (n : Nat) (h : n < 256) : valN (nm n) = n := by
  rw [nm_dg n (by omega)]
  exact (dg_facts ⟨n, h⟩).2.1
theorem nm_digit (n : Nat) (h : n < 256) (c : UInt8) (hc : c ∈ nm n) : 48 ≤ c.toNat ∧ c.toNat ≤ 57 := by
  rw [nm_dg n (by omega)] at hc
  have := List.all_eq_true.1 (dg_facts ⟨n, h⟩).2.2.1 c hc
  exact of_decide_eq_true this
theorem nm_low (n : Nat) (h : n < 256) (j : Nat) (hj : j < (nm n).length) : valN ((nm n).take j) ≤ 1000 := by
  rw [nm_dg n (by omega)] at hj ⊢
  have := List.all_eq_true.1 (dg_facts ⟨n, h⟩).2.2.2.1 j (List.mem_range.2 hj)
  exact of_decide_eq_true this
theorem nm_ne (n : Nat) (h : n < 256) : nm n ≠ [] := by
  rw [nm_dg n (by omega)]
  exact (dg_facts ⟨n, h⟩).2.2.2.2
theorem nm_no (n : Nat) (h : n < 256) (c : UInt8) (hc : c.toNat < 48 ∨ 57 < c.toNat) : c ∉ nm n := fun e => by
  have := nm_digit n h c e
  omega
theorem nm_inj (n m : Nat) (hn : n < 256) (hm : m < 256) (h : nm n = nm m) : n = m := by
  rw [← nm_val n hn, h, nm_val m hm]
/-- A part as it is written. -/
def partB (d a b k : Int) (ch : UInt8) : List UInt8 := (if ch.toNat = 75 then [] else [114]) ++ nm (partV d a b k ch.toNat).toNat
theorem trim_r (n : Nat) : Lib.trimPrefix (114 :: nm n) [114] = nm n := by
  simp [Lib.trimPrefix, Lib.hasPrefix]
theorem trim_none (n : Nat) (h : n < 256) : Lib.trimPrefix (nm n) [114] = nm n := by
  unfold Lib.trimPrefix
  rw [if_neg]
  have h0 := nm_ne n h
  have h1 := nm_digit n h
  obtain ⟨l, hl⟩ : ∃ l, nm n = l := ⟨_, rfl⟩
  rw [hl] at h0 h1 ⊢
  cases l with
  | nil => exact absurd rfl h0
  | cons x l =>
    have := h1 x List.mem_cons_self
    simp only [Lib.hasPrefix, List.isPrefixOf, Bool.and_eq_true, beq_iff_eq]
    intro e
    have h2 := congrArg UInt8.toNat e.1
    have : (114 : UInt8).toNat = 114 := rfl
    omega
theorem trim_part (d a b k : Int) (ch : UInt8) (h : (partV d a b k ch.toNat).toNat < 256) : Lib.trimPrefix (partB d a b k ch) [114] = nm (partV d a b k ch.toNat).toNat := by
  unfold partB
  by_cases h0 : ch.toNat = 75
  · rw [if_pos h0]
    exact trim_none _ h
  · rw [if_neg h0]
    exact trim_r _
theorem partB_no (d a b k : Int) (ch : UInt8) (h : (partV d a b k ch.toNat).toNat < 256) (c : UInt8) (hc : c.toNat < 48) : c ∉ partB d a b k ch := by
  unfold partB
  intro e
  rcases List.mem_append.1 e with e | e
  · split at e
    · cases e
    · rw [List.mem_singleton] at e
      subst e
      have : (114 : UInt8).toNat = 114 := rfl
      omega
  · exact nm_no _ h c (.inl hc) e
theorem split_inst (d a b k : Int) : ∀ (names op : List UInt8), (32 : UInt8) ∉ op → (∀ ch ∈ names, (32 : UInt8) ∉ partB d a b k ch) → splitC 32 (instT op names d a b k) = op :: names.map (partB d a b k)
  | [], op, h, _ => by
    simp only [instT, List.flatMap_nil, List.append_nil, List.map_nil]
    exact splitC_miss _ _ h
  | ch :: names, op, h, hb => by
    have e : instT op (ch :: names) d a b k = op ++ 32 :: instT (partB d a b k ch) names d a b k := by
      simp [instT, partT, partB]
    rw [e, splitC_hit _ _ _ h, split_inst d a b k names _ (hb ch List.mem_cons_self) (fun x hx => hb x (List.mem_cons_of_mem _ hx))]
    rfl
end Go.Proofs.YtjbbmnmbcdohiaaDoor
