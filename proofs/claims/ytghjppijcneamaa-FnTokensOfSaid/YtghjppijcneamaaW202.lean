/- Rows of texts that a call has made: what changes them, what does not; the laws compare and mark them. -/
import Derived.Test.YtghjppijcneamaaW201
import Derived.Deep.DeepCutAuto
namespace Go.Proofs.Ytghjppijcneamaa
open Go.RowKit
/-- The cells of K texts. -/
def strF (K : Nat) (f : Nat → ByteArray) : List Value := (List.range K).map fun j => .string (f j)
theorem strF_len (n : Nat) (f : Nat → ByteArray) : (strF n f).length = n := by simp [strF]
theorem strF_get (n : Nat) (f : Nat → ByteArray) (j : Nat) (h : j < n) : (strF n f)[j]? = some (.string (f j)) := by simp [strF, h]
theorem strF_congr (n : Nat) (f g : Nat → ByteArray) (h : ∀ j, j < n → f j = g j) : strF n f = strF n g := by
  unfold strF
  apply List.map_congr_left
  intro j hj
  rw [h j (List.mem_range.1 hj)]
theorem strF_set (n : Nat) (f g : Nat → ByteArray) (k : Nat) (x : ByteArray) (hk : g k = x) (h : ∀ j, j < n → j ≠ k → f j = g j) : (strF n f).set k (.string x) = strF n g := by
  apply List.ext_getElem?
  intro i
  rw [List.getElem?_set]
  by_cases hi : i < n
  · rw [strF_get n g i hi]
    by_cases hik : k = i
    · subst hik
      rw [if_pos rfl, strF_len, if_pos hi, hk]
    · rw [if_neg hik, strF_get n f i hi, h i hi (fun e => hik e.symm)]
  · have e1 : (strF n g)[i]? = none := List.getElem?_eq_none (by rw [strF_len]; omega)
    rw [e1]
    split
    · rename_i h1
      subst h1
      rw [strF_len, if_neg hi]
    · exact List.getElem?_eq_none (by rw [strF_len]; omega)
theorem strL_F (xs : List (List UInt8)) : strL xs = strF xs.length (fun j => tx (xs.getD j [])) := by
  apply List.ext_getElem?
  intro i
  by_cases hi : i < xs.length
  · rw [strF_get _ _ _ hi, strL_get xs i hi]
    simp [hi]
  · rw [List.getElem?_eq_none (by rw [strL_len]; omega), List.getElem?_eq_none (by rw [strF_len]; omega)]
theorem grown_drew1 (a : World) : a.grownBy a.drew none := ⟨rfl, rfl, rfl, Nat.le_refl _, fun _ _ _ => rfl⟩
/-- A row of texts that a call has made, in a stretch of memory. -/
structure RowS (wr : World) (lo hi : Nat) (v : Value) (K : Nat) (f : Nat → ByteArray) : Prop where
  own : wr.ownsRow lo 9 1 v K (strF K f)
  hib : ∀ i, v.ownBlock = some i → i < hi
theorem ownsRow_on {w w' : World} {B : Nat} {e : TypeId} {z : Nat} {v : Value} {n : Nat} {xs : List Value} (h : w.ownsRow B e z v n xs) (hg : w.grownBy w' none) : w'.ownsRow B e z v n xs :=
  World.ownsRow.kept h hg (Classical.em _)
theorem ownsRow_slice {w : World} {B : Nat} {e : TypeId} {z : Nat} {v : Value} {n : Nat} {xs : List Value} (h : w.ownsRow B e z v n xs) : ∃ A c, v = .slice A n c ∧ ∀ b off, A = some ⟨b, off, none⟩ → B ≤ b ∧ b < w.heap.size := by
  rcases h.2 with ⟨e, h0⟩ | ⟨g', c, cur, e, hb, hw, hrest⟩
  · exact ⟨none, 0, by rw [e, h0], by intro _ _ e; cases e⟩
  · have hh := h
    subst e
    have hlt := World.ownsRow.lt hh g' rfl
    exact ⟨some ⟨g', 0, none⟩, c, rfl, by intro b off e; injection e with e; injection e with e1 e2; subst e1; exact hlt⟩
/-- A row's cells can be read. -/
def Strs (w : World) (A : Option Addr) (K : Nat) (f : Nat → ByteArray) : Prop :=
  K = 0 ∨ ∃ b, A = some ⟨b, 0, none⟩ ∧ b < w.heap.size ∧ ∀ j, j < K → w.cell? ⟨b, j, none⟩ = some (.string (f j))
section
variable {w w' wr w2 : World} {lo hi : Nat} {v : Value} {K : Nat} {f : Nat → ByteArray}
theorem RowS.rng (h : RowS wr lo hi v K f) {i : Nat} (hi' : v.ownBlock = some i) : lo ≤ i ∧ i < hi := ⟨(World.ownsRow.lt h.own i hi').1, h.hib i hi'⟩
theorem RowS.grown (h : RowS wr lo hi v K f) (hg : wr.grownBy w2 none) : RowS w2 lo hi v K f := ⟨ownsRow_on h.own hg, h.hib⟩
theorem RowS.row {row : Option Nat} (h : RowS wr lo hi v K f) (hg : wr.grownBy w2 row) (hb : ∀ b, row = some b → b < lo ∨ hi ≤ b) : RowS w2 lo hi v K f := by
  refine ⟨?_, h.hib⟩
  rcases hv : v.ownBlock with _ | i
  · exact World.ownsRow.kept h.own hg (.inl hv)
  · refine World.ownsRow.kept h.own hg (.inr fun e' => ?_)
    rw [hv] at e'
    have h1 := h.rng hv
    have h2 := hb i e'.symm
    omega
theorem ownS_strs {g c : Nat} (h : wr.ownsRow lo 9 1 (.slice (some ⟨g, 0, none⟩) K c) K (strF K f)) : Strs wr (some ⟨g, 0, none⟩) K f := by
  refine .inr ⟨g, rfl, (World.ownsRow.lt h g rfl).2, fun j hj => ?_⟩
  rw [World.ownsRow.cellAt h j (by omega), strF_get K f j hj]
theorem RowS.strs (h : RowS wr lo hi v K f) : ∃ A c, v = .slice A K c ∧ Strs wr A K f := by
  rcases h.own.2 with ⟨e', h0⟩ | ⟨g', cap', cur, e', _⟩
  · exact ⟨none, 0, by rw [e', h0], .inl h0⟩
  · have ho := h.own
    rw [e'] at ho
    exact ⟨some ⟨g', 0, none⟩, cap', e', ownS_strs ho⟩
theorem RowS.congr {g : Nat → ByteArray} (h : RowS wr lo hi v K f) (hf : ∀ j, j < K → f j = g j) : RowS wr lo hi v K g := by
  refine ⟨?_, h.hib⟩
  rw [← strF_congr K f g hf]
  exact h.own
theorem RowS.of_own (h : wr.ownsRow lo 9 1 v K (strF K f)) : RowS wr lo wr.heap.size v K f := ⟨h, fun i hi => (World.ownsRow.lt h i hi).2⟩
theorem grown_then_some {a b c : World} {g : Nat} (h : a.grownBy b (some g)) (h' : b.grownBy c none) : a.grownBy c (some g) :=
  ⟨h'.os.trans h.os, h'.tape.trans h.tape, h'.output.trans h.output, Nat.le_trans h.size h'.size, fun i hi hne => (h'.block i (Nat.lt_of_lt_of_le hi h.size) (by simp)).trans (h.block i hi hne)⟩
end
/-- A row of texts at an address. -/
abbrev wsR (w : World) (lo g K cap : Nat) (f : Nat → ByteArray) : Prop := w.ownsRow lo 9 1 (.slice (some ⟨g, 0, none⟩) K cap) K (strF K f)
set_option maxHeartbeats 1000000 in
theorem eqStringS_row (lo1 hi1 lo2 hi2 K : Nat) (v1 v2 : Value) (f : Nat → ByteArray) (w : World) (hK : K ≤ 1048576) (h1 : RowS w lo1 hi1 v1 K f) (h2 : RowS w lo2 hi2 v2 K f) :
    Calls Try.prog 9 #[v1, v2] w fun e w' => e = .returned (.bool true) ∧ w.grownBy w' none := by
  obtain ⟨A1, c1, rfl, hn1⟩ := h1.strs
  obtain ⟨A2, c2, rfl, hn2⟩ := h2.strs
  clear h1 h2
  by_cases h0 : K = 0
  · subst h0
    go_enter Try.func9, Try.ntmps9
    go_wp2
    refine wp_loop_rounds 1 ?_
    rw [rounds_succ]
    go_wp2
    go_ret
    exact ⟨rfl, grown_refl _ _⟩
  obtain ⟨b1, rfl, _, q1⟩ := hn1.resolve_left h0
  obtain ⟨b2, rfl, _, q2⟩ := hn2.resolve_left h0
  have Q1 := shade q1
  have Q2 := shade q2
  clear hn1 hn2 q1 q2
  go_enter Try.func9, Try.ntmps9
  go_wp2
  go_loopw [5] (fun i wr => ∃ k m : Nat, k ≤ K ∧ i = .int .i64 k ∧ wr = w.drewN m) (fun i _ => K - (intOf i).toNat)
  case atStart => exact ⟨0, 0, Nat.zero_le _, rfl, rfl⟩
  case round =>
    obtain ⟨k, m, hk, rfl, rfl⟩ := hrel
    by_cases hkn : k < K
    · have q1 := Q1.out k hkn
      have q2 := Q2.out k hkn
      go_wp2
      go_quiet (fail)
      go_wp2
      go_roundw
      case rel => exact ⟨k + 1, _, by omega, by go_num, rfl⟩
      case measure => simp [intOf]; omega
    · have hkn2 : k = K := by omega
      subst hkn2
      go_wp2
      go_ret
      exact ⟨rfl, grown_drewN (grown_refl _ _) m⟩
set_option maxRecDepth 100000 in
set_option maxHeartbeats 4000000 in
theorem markStringS_row (lo hi K : Nat) (v : Value) (f : Nat → ByteArray) (m : Nat) (w : World) (hm0 : 0 < m) (hm : m + K ≤ 100000000) (h : RowS w lo hi v K f) :
    Calls Try.prog 10 #[v, .int .i64 m] w fun e w' => e = .returned (.int .i64 ((m : Int) + K)) ∧ RowS w' lo hi v K (fun j => mt (m + j)) ∧ w.grownBy w' v.ownBlock := by
  rcases h.own.2 with ⟨e', h0⟩ | ⟨g', cap', cur, e', _⟩
  · subst e'
    subst h0
    have H := shade h
    clear h
    go_enter Try.func10, Try.ntmps10
    go_wp2
    refine wp_loop_rounds 1 ?_
    rw [rounds_succ]
    go_wp2
    go_ret
    exact ⟨by simp, ⟨H.out.own, H.out.hib⟩, grown_refl _ _⟩
  · have ho := h.own
    have hb := h.hib
    subst e'
    have HH := shade (show wsR w lo g' K cap' f from ho)
    have HB := shade hb
    clear h ho hb
    go_enter Try.func10, Try.ntmps10
    go_wp2
    go_loopw [1, 5] (fun q i wr => ∃ k : Nat, k ≤ K ∧ i = .int .i64 k ∧ q = .int .i64 ((m : Int) + k) ∧ wsR wr lo g' K cap' (fun j => if j < k then mt (m + j) else f j) ∧ w.grownBy wr (some g')) (fun _ i _ => K - (intOf i).toNat)
    case atStart => exact ⟨0, Nat.zero_le _, rfl, by simp, (by
      have := HH.out
      unfold wsR at this ⊢
      rw [strF_congr K f (fun j => if j < 0 then mt (m + j) else f j) (fun j _ => by rw [if_neg (by omega)])] at this
      exact this), grown_refl _ _⟩
    case round =>
      obtain ⟨k, hk, rfl, rfl, hown, hgr⟩ := hrel
      have HO := shade hown
      have HR := shade hgr
      clear hown hgr
      by_cases hkn : k < K
      · have hmk : ((m : Int) + k) = ((m + k : Nat) : Int) := by omega
        have HM := shade (fun W => markText_is (m + k) W (by omega) (by omega))
        rw [← hmk] at HM
        clear hmk
        go_wp2_with fail
        refine (HM.out _).mono ?_
        rintro e w2 ⟨rfl, hg⟩
        have ho : wsR w2 lo g' K cap' (fun j => if j < k then mt (m + j) else f j) := World.ownsRow.kept HO.out hg (.inr (by
          show some g' ≠ none
          simp))
        have q2 := World.ownsRow.frozenAt ho k
        have q1 := World.ownsRow.cellAt ho k (by omega)
        rw [strF_get K _ k hkn] at q1
        have HO2 := shade ho
        have HR2 := shade (grown_then_some HR.out hg)
        clear hg ho HO HR
        go_wp2_with fail
        go_roundw
        case rel =>
          have hs := World.ownsRow.stored HO2.out k (.string (mt (m + k)))
          refine ⟨k + 1, by omega, by go_num, by go_num, ?_, grown_same HR2.out hs.2⟩
          have h1 := hs.1
          rw [strF_set K _ (fun j => if j < k + 1 then mt (m + j) else f j) k (mt (m + k)) (by simp) (fun j _ hne => by
            show (if j < k then _ else _) = (if j < k + 1 then _ else _)
            by_cases h : j < k
            · rw [if_pos h, if_pos (by omega)]
            · rw [if_neg h, if_neg (by omega)])] at h1
          exact h1
        case measure => simp [intOf]; omega
      · have hkn2 : k = K := by omega
        subst hkn2
        go_wp2
        go_ret
        refine ⟨rfl, ⟨?_, HB.out⟩, HR.out⟩
        have h1 := HO.out
        unfold wsR at h1
        rw [strF_congr k _ (fun j => mt (m + j)) (fun j hj => by rw [if_pos hj])] at h1
        exact h1
set_option maxRecDepth 100000 in
set_option maxHeartbeats 2000000 in
theorem heldStringS_row (lo hi K : Nat) (v : Value) (m : Nat) (w : World) (hm0 : 0 < m) (hm : m + K ≤ 100000000) (h : RowS w lo hi v K (fun j => mt (m + j))) :
    Calls Try.prog 11 #[v, .int .i64 m] w fun e w' => e = .returned (.int .i64 ((m : Int) + K)) ∧ w.grownBy w' none := by
  obtain ⟨A, c, rfl, hn⟩ := h.strs
  clear h
  by_cases h0 : K = 0
  · subst h0
    go_enter Try.func11, Try.ntmps11
    go_wp2
    refine wp_loop_rounds 1 ?_
    rw [rounds_succ]
    go_wp2
    go_ret
    exact ⟨by simp, grown_refl _ _⟩
  obtain ⟨b, rfl, hlt, q⟩ := hn.resolve_left h0
  have Q := shade q
  clear hn q
  go_enter Try.func11, Try.ntmps11
  go_wp2
  go_loopw [1, 5] (fun q i wr => ∃ k : Nat, k ≤ K ∧ i = .int .i64 k ∧ q = .int .i64 ((m : Int) + k) ∧ w.grownBy wr none) (fun _ i _ => K - (intOf i).toNat)
  case atStart => exact ⟨0, Nat.zero_le _, rfl, by simp, grown_refl _ _⟩
  case round =>
    obtain ⟨k, hk, rfl, rfl, hgr⟩ := hrel
    have HR := shade hgr
    by_cases hkn : k < K
    · have q1 := hgr.cell (Q.out k hkn) (by intro e; cases e)
      have hmk : ((m : Int) + k) = ((m + k : Nat) : Int) := by omega
      have HM := shade (fun W => markText_is (m + k) W (by omega) (by omega))
      rw [← hmk] at HM
      clear hgr hmk
      obtain ⟨xs, hxs⟩ : ∃ xs, mt (m + k) = xs := ⟨_, rfl⟩
      rw [hxs] at HM q1
      clear hxs
      go_upto_region 4 with (fail)
      have q1 : wr.drew.cell? ⟨b, k, none⟩ = some (.string xs) := q1
      have HR1 := shade (grown_same HR.out (grown_drew1 wr))
      clear HR
      go_region_held3 (fun w' => w'.cell? ⟨b, k, none⟩ = some (.string xs))
        (first | with_reducible exact q1 | with_reducible exact Q2.out)
        (first | (go_at_call 16; refine (HM.out _).mono ?_; rintro e w3 ⟨rfl, hgr⟩; have Q2 := shade (hgr.cell q1 (by intro e; cases e)); have HR2 := shade (grown_same HR1.out hgr); clear hgr))
      go_wp2
      go_roundw
      case rel => exact ⟨k + 1, by omega, by go_num, by go_num, HR2.out⟩
      case measure => simp [intOf]; omega
    · have hkn2 : k = K := by omega
      subst hkn2
      clear hgr
      go_wp2
      go_ret
      exact ⟨rfl, HR.out⟩

end Go.Proofs.Ytghjppijcneamaa
