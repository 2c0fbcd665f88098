/- The text of an instruction tells the instruction. -/
import Derived.Test.YtjbbmnmbcdohiaaDoorW313
namespace Go.Proofs.YtjbbmnmbcdohiaaDoor
open Go.RowKit
theorem foldl_same {α β : Type} (f g : α → β → α) : ∀ (l : List β) (a : α), (∀ s c, c ∈ l → f s c = g s c) → l.foldl f a = l.foldl g a
  | [], _, _ => rfl
  | c :: l, a, h => by
    rw [List.foldl_cons, List.foldl_cons, h a c List.mem_cons_self]
    exact foldl_same f g l _ (fun s x hx => h s x (List.mem_cons_of_mem _ hx))
theorem told_same (l : List UInt8) (d a b k d' a' b' k' : Int) (h : ∀ ch ∈ l, partV d a b k ch.toNat = partV d' a' b' k' ch.toNat) : told l d a b k = told l d' a' b' k' := by
  unfold told
  exact foldl_same _ _ l _ (fun s c hc => by rw [h c hc])
theorem partV_small (d a b k : Nat) (ch : Int) (hd : d < 4) (ha : a < 4) (hb : b < 4) (hk : k < 256) : ∃ m : Nat, partV d a b k ch = m ∧ m < 256 := by
  unfold partV
  split
  · exact ⟨d, rfl, by omega⟩
  · split
    · exact ⟨a, rfl, by omega⟩
    · split
      · exact ⟨b, rfl, by omega⟩
      · exact ⟨k, rfl, by omega⟩
theorem word_no32 : ∀ n : Fin 10, (32 : UInt8) ∉ (wT n.val).data.toList := by decide +kernel
theorem word_same : ∀ n : Fin 10, wordN (wT n.val).data.toList = (n.val : Int) := by decide +kernel
/-- What is read back of the text of a valid instruction. -/
structure Back (s op : List UInt8) (d a b k : Int) (n : Nat) : Prop where
  lt : n < 10
  word : wordN op = n
  cut : splitC 32 s = op :: (namesN n).data.toList.map (partB d a b k)
  small : ∀ ch : UInt8, ∃ m : Nat, partV d a b k ch.toNat = m ∧ m < 256
  told : told (namesN n).data.toList d a b k = (d, a, b, k)
theorem read_back {op s : List UInt8} {d a b k : Int} (hv : vB op d a b k = true) (hs : showL op d a b k = s) : ∃ n, Back s op d a b k n := by
  obtain ⟨dn, an, bn, kn, rfl, rfl, rfl, rfl, hd, ha, hb, hk, hw0, hw1⟩ := VI_nat hv
  obtain ⟨n, hn⟩ := Int.eq_ofNat_of_zero_le hw0
  have hn10 : n < 10 := by omega
  have hop : op = (wT n).data.toList := by
    have h := op_is (tx op) n hn10 (by rw [tx_toList]; exact hn)
    rw [← h]
    rfl
  have hsm : ∀ ch : UInt8, ∃ m : Nat, partV dn an bn kn ch.toNat = m ∧ m < 256 := fun ch => partV_small dn an bn kn ch.toNat hd ha hb hk
  have hlt : ∀ ch : UInt8, (partV dn an bn kn ch.toNat).toNat < 256 := fun ch => by
    obtain ⟨m, hm, hm1⟩ := hsm ch
    rw [hm]
    exact hm1
  refine ⟨n, hn10, hn, ?_, hsm, ((VI_told op dn an bn kn n hn10 hn).1 (vB_true.1 hv)).1⟩
  rw [← hs, showL, if_pos hv, hn, Int.toNat_natCast]
  exact split_inst _ _ _ _ _ _ (by rw [hop]; exact word_no32 ⟨n, hn10⟩) (fun ch _ => partB_no _ _ _ _ _ (hlt ch) 32 (by decide))
theorem show_inj {op op' : List UInt8} {d a b k d' a' b' k' : Int} (hv : vB op d a b k = true) (hv' : vB op' d' a' b' k' = true) (h : showL op d a b k = showL op' d' a' b' k') : op = op' ∧ d = d' ∧ a = a' ∧ b = b' ∧ k = k' := by
  obtain ⟨n, B⟩ := read_back hv rfl
  obtain ⟨n', B'⟩ := read_back hv' rfl
  have hc := B.cut
  rw [h, B'.cut] at hc
  obtain ⟨h1, h2⟩ := List.cons.inj hc
  subst h1
  have hnn : n' = n := by
    have := B.word
    have := B'.word
    omega
  subst hnn
  have h3 := List.map_inj_left.1 h2
  have h4 : ∀ ch ∈ (namesN n').data.toList, partV d a b k ch.toNat = partV d' a' b' k' ch.toNat := fun ch hch => by
    have e := h3 ch hch
    unfold partB at e
    have e2 := List.append_cancel_left e
    obtain ⟨m, hm, hm1⟩ := B.small ch
    obtain ⟨m', hm', hm1'⟩ := B'.small ch
    rw [hm, hm'] at e2 ⊢
    rw [Int.toNat_natCast, Int.toNat_natCast] at e2
    rw [nm_inj m m' hm1 hm1' e2.symm]
  have h5 := told_same _ _ _ _ _ _ _ _ _ h4
  rw [B.told, B'.told] at h5
  simp only [Prod.mk.injEq] at h5
  exact ⟨rfl, h5⟩
/-- No valid instruction has the text. -/
def NoI (s : List UInt8) : Prop := ∀ op d a b k, vB op d a b k = true → showL op d a b k ≠ s
/-- An answer of ReadInstr. -/
structure RIv (s : List UInt8) (op : ByteArray) (d a b k : Int) (ok : Bool) : Prop where
  yes : ok = true → vB op.toList d a b k = true ∧ showL op.toList d a b k = s
  no : ok = false → NoI s
  zero : ok = false → op = ⟨#[]⟩ ∧ d = 0 ∧ a = 0 ∧ b = 0 ∧ k = 0
theorem RIv.none {s : List UInt8} (h : NoI s) : RIv s ⟨#[]⟩ 0 0 0 0 false := ⟨fun e => (by cases e), fun _ => h, fun _ => ⟨rfl, rfl, rfl, rfl, rfl⟩⟩
theorem RIv.some {s : List UInt8} {op : ByteArray} {d a b k : Int} (h : vB op.toList d a b k = true) (h' : showL op.toList d a b k = s) : RIv s op d a b k true := ⟨fun _ => ⟨h, h'⟩, fun e => (by cases e), fun e => (by cases e)⟩
theorem toList_inj {a b : ByteArray} (h : a.toList = b.toList) : a = b := by
  have e := congrArg tx h
  rwa [tx_self, tx_self] at e
theorem RIv.det {s : List UInt8} {op op' : ByteArray} {d a b k d' a' b' k' : Int} {ok ok' : Bool} (h : RIv s op d a b k ok) (h' : RIv s op' d' a' b' k' ok') : op = op' ∧ d = d' ∧ a = a' ∧ b = b' ∧ k = k' ∧ ok = ok' := by
  cases ok with
  | true =>
    obtain ⟨v, e⟩ := h.yes rfl
    cases ok' with
    | true =>
      obtain ⟨v', e'⟩ := h'.yes rfl
      obtain ⟨h1, h2, h3, h4, h5⟩ := show_inj v v' (e.trans e'.symm)
      exact ⟨toList_inj h1, h2, h3, h4, h5, rfl⟩
    | false => exact absurd e (h'.no rfl _ _ _ _ _ v)
  | false =>
    cases ok' with
    | true =>
      obtain ⟨v', e'⟩ := h'.yes rfl
      exact absurd e' (h.no rfl _ _ _ _ _ v')
    | false =>
      obtain ⟨rfl, rfl, rfl, rfl, rfl⟩ := h.zero rfl
      obtain ⟨rfl, rfl, rfl, rfl, rfl⟩ := h'.zero rfl
      exact ⟨rfl, rfl, rfl, rfl, rfl, rfl⟩
theorem no_word {s p : List UInt8} {ps : List (List UInt8)} (h : splitC 32 s = p :: ps) (hw : wordN p < 0) : NoI s := fun op d a b k hv hs => by
  obtain ⟨n, B⟩ := read_back hv hs
  have hc := B.cut
  rw [h] at hc
  obtain ⟨rfl, _⟩ := List.cons.inj hc
  have := B.word
  omega
theorem no_len {s p : List UInt8} {ps : List (List UInt8)} {n : Nat} (h : splitC 32 s = p :: ps) (hw : wordN p = n) (hl : ps.length ≠ (namesN n).size) : NoI s := fun op d a b k hv hs => by
  obtain ⟨m, B⟩ := read_back hv hs
  have hc := B.cut
  rw [h] at hc
  obtain ⟨rfl, h2⟩ := List.cons.inj hc
  have hnm : m = n := by
    have := B.word
    omega
  subst hnm
  apply hl
  rw [h2, List.length_map, Lib.size_eq]
/-- What is read so far agrees with every instruction of the text. -/
def Agree (s : List UInt8) (names : List UInt8) (j : Nat) (t : Int × Int × Int × Int) : Prop := ∀ op d a b k, vB op d a b k = true → showL op d a b k = s → t = told (names.take j) d a b k
theorem Agree.zero (s names : List UInt8) : Agree s names 0 (0, 0, 0, 0) := fun _ _ _ _ _ _ _ => rfl
/-- The j-th part of the text, as every instruction of the text writes it. -/
theorem back_part {s p : List UInt8} {ps : List (List UInt8)} {n j : Nat} {op : List UInt8} {d a b k : Int} (h : splitC 32 s = p :: ps) (hw : wordN p = n) (hj : j < ps.length) (hj' : j < (namesN n).data.toList.length) (hv : vB op d a b k = true) (hs : showL op d a b k = s) :
    ∃ m : Nat, m < 256 ∧ partV d a b k ((namesN n).data.toList[j]).toNat = m ∧ ps[j] = partB d a b k (namesN n).data.toList[j] := by
  obtain ⟨m, B⟩ := read_back hv hs
  have hc := B.cut
  rw [h] at hc
  obtain ⟨rfl, h2⟩ := List.cons.inj hc
  have hnm : m = n := by
    have := B.word
    omega
  subst hnm
  obtain ⟨x, hx, hx1⟩ := B.small (namesN m).data.toList[j]
  refine ⟨x, hx1, hx, ?_⟩
  simp only [h2, List.getElem_map]
theorem Agree.next {s p : List UInt8} {ps : List (List UInt8)} {n j : Nat} {td ta tb tk v : Int} (hA : Agree s (namesN n).data.toList j (td, ta, tb, tk)) (h : splitC 32 s = p :: ps) (hw : wordN p = n) (hj : j < ps.length) (hj' : j < (namesN n).data.toList.length)
    (hv : ∀ m, m < 256 → Lib.trimPrefix ps[j] [114] = nm m → v = m) {ch : UInt8} (hch : (namesN n).data.toList[j] = ch) : Agree s (namesN n).data.toList (j + 1) (wD td ch.toNat v, wA ta ch.toNat v, wB tb ch.toNat v, wK tk ch.toNat v) := fun op d a b k hv1 hs => by
  have e := hA op d a b k hv1 hs
  obtain ⟨m, hm, hx, hp⟩ := back_part h hw hj hj' hv1 hs
  have hvm : v = m := hv m hm (by rw [hp, trim_part _ _ _ _ _ (by rw [hx]; exact hm), hx, Int.toNat_natCast])
  rw [List.take_succ_eq_append_getElem hj', told_snoc, ← e, hx, hvm, hch]
theorem no_part {s p : List UInt8} {ps : List (List UInt8)} {n j : Nat} (h : splitC 32 s = p :: ps) (hw : wordN p = n) (hj : j < ps.length) (hj' : j < (namesN n).data.toList.length)
    (hv : ∀ m, m < 256 → Lib.trimPrefix ps[j] [114] ≠ nm m) : NoI s := fun op d a b k hv1 hs => by
  obtain ⟨m, hm, hx, hp⟩ := back_part h hw hj hj' hv1 hs
  exact hv m hm (by rw [hp, trim_part _ _ _ _ _ (by rw [hx]; exact hm), hx, Int.toNat_natCast])
/-- What is read is the only instruction that can have the text. -/
theorem Agree.no {s p op0 : List UInt8} {ps : List (List UInt8)} {n : Nat} {td ta tb tk : Int} (hA : Agree s (namesN n).data.toList (namesN n).data.toList.length (td, ta, tb, tk)) (h : splitC 32 s = p :: ps) (hw : wordN p = n) (hop : op0 = p)
    (hne : ¬ (vB op0 td ta tb tk = true ∧ showL op0 td ta tb tk = s)) : NoI s := fun op d a b k hv1 hs => by
  obtain ⟨m, B⟩ := read_back hv1 hs
  have hc := B.cut
  rw [h] at hc
  obtain ⟨rfl, h2⟩ := List.cons.inj hc
  have hnm : m = n := by
    have := B.word
    omega
  subst hnm
  have e := hA _ d a b k hv1 hs
  rw [List.take_length, B.told] at e
  simp only [Prod.mk.injEq] at e
  obtain ⟨rfl, rfl, rfl, rfl⟩ := e
  subst hop
  exact hne ⟨hv1, hs⟩
end Go.Proofs.YtjbbmnmbcdohiaaDoor
