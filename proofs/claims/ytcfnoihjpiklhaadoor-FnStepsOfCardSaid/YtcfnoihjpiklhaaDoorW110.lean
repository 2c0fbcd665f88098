/- Rows of Booleans: read, equal, marked; from the texts on rows of numbers. -/
import Derived.Test.YtcfnoihjpiklhaaDoorW31
namespace Go.Proofs.YtcfnoihjpiklhaaDoor
open Go.RowKit
/-- A mark. -/
def mk3 (m : Int) (j : Nat) : Bool := (m + (j : Int)) % 3 == 0
/-- n numbers at an address can be read. -/
def Bols (w : World) (A : Option Addr) (n : Nat) (f : Nat → Bool) : Prop :=
  n = 0 ∨ ∃ b off, A = some ⟨b, off, none⟩ ∧ b < w.heap.size ∧ ∀ j, j < n → w.cell? ⟨b, off + j, none⟩ = some (.bool (f j))
/-- The cells of n numbers. -/
def bolL (n : Nat) (f : Nat → Bool) : List Value := (List.range n).map fun j => .bool (f j)
/-- n numbers that the call owns. -/
abbrev OwnB (w : World) (B : Nat) (A : Option Addr) (n cap : Nat) (f : Nat → Bool) : Prop := w.ownsRow B 4 1 (.slice A n cap) n (bolL n f)
theorem bolL_len (n : Nat) (f : Nat → Bool) : (bolL n f).length = n := by simp [bolL]
theorem bolL_get (n : Nat) (f : Nat → Bool) (j : Nat) (h : j < n) : (bolL n f)[j]? = some (.bool (f j)) := by simp [bolL, h]
theorem bolL_congr (n : Nat) (f g : Nat → Bool) (h : ∀ j, j < n → f j = g j) : bolL n f = bolL n g := by
  unfold bolL
  apply List.map_congr_left
  intro j hj
  rw [h j (List.mem_range.1 hj)]
theorem bolL_set (n : Nat) (f g : Nat → Bool) (k : Nat) (x : Bool) (hk : g k = x) (h : ∀ j, j < n → j ≠ k → f j = g j) : (bolL n f).set k (.bool x) = bolL n g := by
  apply List.ext_getElem? 
  intro i
  rw [List.getElem?_set]
  by_cases hi : i < n
  · rw [bolL_get n g i hi]
    by_cases hik : k = i
    · subst hik
      rw [if_pos rfl, bolL_len, if_pos hi, hk]
    · rw [if_neg hik, bolL_get n f i hi, h i hi (fun e => hik e.symm)]
  · have e1 : (bolL n g)[i]? = none := List.getElem?_eq_none (by rw [bolL_len]; omega)
    rw [e1]
    split
    · rename_i h1
      subst h1
      rw [bolL_len, if_neg hi]
    · exact List.getElem?_eq_none (by rw [bolL_len]; omega)
theorem bolL_oneCell (n : Nat) (f : Nat → Bool) : ∀ u ∈ bolL n f, u.oneCell' = true := by
  intro u hu
  simp only [bolL, List.mem_map] at hu
  obtain ⟨j, _, rfl⟩ := hu
  rfl
section
variable {w w' : World} {A : Option Addr} {B n cap : Nat} {f g : Nat → Bool}
theorem Bols.congr (h : Bols w A n f) (hf : ∀ j, j < n → f j = g j) : Bols w A n g := by
  rcases h with h | ⟨b, off, hA, hb, hc⟩
  · exact .inl h
  · exact .inr ⟨b, off, hA, hb, fun j hj => by rw [hc j hj, hf j hj]⟩
theorem Bols.alloc (h : Bols w A n f) (o : Obj) : Bols (w.alloc o) A n f := by
  rcases h with h | ⟨b, off, hA, hb, hc⟩
  · exact .inl h
  · exact .inr ⟨b, off, hA, by simp; omega, fun j hj => (World.cell?_alloc_some w _ o (by rw [hc j hj]; rfl)).trans (hc j hj)⟩
theorem Bols.drewN (h : Bols w A n f) (k : Nat) : Bols (w.drewN k) A n f := h
theorem Bols.below (h : Bols w A n f) (hb : Below w.heap.size w w') : Bols w' A n f := by
  rcases h with h | ⟨b, off, hA, hlt, hc⟩
  · exact .inl h
  · exact .inr ⟨b, off, hA, Nat.lt_of_lt_of_le hlt hb.size, fun j hj => (hb.cell (p := ⟨b, off + j, none⟩) hlt).trans (hc j hj)⟩
theorem Bols.belowAt (h : Bols w A n f) {B : Nat} (hb : Below B w w') (hA : ∀ b off, A = some ⟨b, off, none⟩ → b < B) : Bols w' A n f := by
  rcases h with h | ⟨b, off, hA', hlt, hc⟩
  · exact .inl h
  · exact .inr ⟨b, off, hA', Nat.lt_of_lt_of_le hlt hb.size, fun j hj => (hb.cell (p := ⟨b, off + j, none⟩) (hA b off hA')).trans (hc j hj)⟩
theorem Bols.grown {row : Option Nat} (h : Bols w A n f) (hg : w.grownBy w' row) (hne : ∀ b off, A = some ⟨b, off, none⟩ → some b ≠ row) : Bols w' A n f := by
  rcases h with h | ⟨b, off, hA, hlt, hc⟩
  · exact .inl h
  · exact .inr ⟨b, off, hA, Nat.lt_of_lt_of_le hlt hg.size, fun j hj => hg.cell (hc j hj) (hne b off hA)⟩
theorem Bols.cell (h : Bols w (some ⟨B, cap, none⟩) n f) {j : Nat} (hj : j < n) : w.cell? ⟨B, cap + j, none⟩ = some (.bool (f j)) := by
  rcases h with h | ⟨b, off, hA, hb, hc⟩
  · omega
  · injection hA with hA
    injection hA with h1 h2
    subst h1; subst h2
    exact hc j hj
theorem Bols.cells {b off : Nat} (h : Bols w (some ⟨b, off, none⟩) n f) : ∀ j u, (bolL n f)[j]? = some u → w.cell? ((⟨b, off, none⟩ : Addr).add j) = some u := by
  intro j u hj
  by_cases hjn : j < n
  · rw [bolL_get n f j hjn] at hj
    cases hj
    rw [Addr.add_lit]
    exact h.cell hjn
  · rw [List.getElem?_eq_none (by rw [bolL_len]; omega)] at hj
    cases hj
theorem OwnB.lower {B' : Nat} (h : OwnB w B A n cap f) (hB : B' ≤ B) : OwnB w B' A n cap f := by
  refine ⟨h.1, ?_⟩
  rcases h.2 with h' | ⟨g, cap', cur, h1, h2, h3⟩
  · exact .inl h'
  · exact .inr ⟨g, cap', cur, h1, Nat.le_trans hB h2, h3⟩
theorem OwnB.lt {b : Nat} (h : OwnB w B (some ⟨b, 0, none⟩) n cap f) : B ≤ b ∧ b < w.heap.size := World.ownsRow.lt h b rfl
theorem OwnB.bols {g : Nat} (h : OwnB w B (some ⟨g, 0, none⟩) n cap f) : Bols w (some ⟨g, 0, none⟩) n f := by
  refine .inr ⟨g, 0, rfl, (World.ownsRow.lt h g rfl).2, fun j hj => ?_⟩
  rw [Nat.zero_add, World.ownsRow.cellAt h j (by omega), bolL_get n f j hj]
theorem OwnB.congr (h : OwnB w B A n cap f) (hf : ∀ j, j < n → f j = g j) : OwnB w B A n cap g := by
  unfold OwnB at h ⊢
  rw [← bolL_congr n f g hf]
  exact h
theorem OwnB.caps {g : Nat} (h : OwnB w B (some ⟨g, 0, none⟩) n cap f) : n ≤ cap ∧ cap ≤ maxLen := by
  rcases h.2 with ⟨h', _⟩ | ⟨g', cap', cur, h', _, hg, hnc, hcm, _⟩
  · simp at h'
  · simp only [Value.slice.injEq, Option.some.injEq, Addr.mk.injEq, and_true, true_and] at h'
    obtain ⟨rfl, rfl⟩ := h'
    exact ⟨hnc, hcm⟩
end
theorem eqBoolS_zero (A1 A2 : Option Addr) (c1 c2 : Nat) (w : World) :
    Calls Tryd.prog 17 #[.slice A1 0 c1, .slice A2 0 c2] w fun e w' => e = .returned (.bool true) ∧ ∃ m : Nat, w.drewN m = w' := by
  go_enter Tryd.func17, Tryd.ntmps17
  go_wp2
  refine wp_loop_rounds 1 ?_
  rw [rounds_succ]
  go_wp2
  go_ret
  exact ⟨rfl, 0, rfl⟩
set_option maxHeartbeats 1000000 in
theorem eqBoolS_at (b1 o1 b2 o2 c1 c2 n : Nat) (f g : Nat → Bool) (w : World) (hn : n ≤ 9223372036854775807) (h1 : Bols w (some ⟨b1, o1, none⟩) n f) (h2 : Bols w (some ⟨b2, o2, none⟩) n g) (he : ∀ j, j < n → f j = g j) :
    Calls Tryd.prog 17 #[.slice (some ⟨b1, o1, none⟩) n c1, .slice (some ⟨b2, o2, none⟩) n c2] w fun e w' => e = .returned (.bool true) ∧ ∃ m : Nat, w.drewN m = w' := by
  have H1 := shade h1
  have H2 := shade h2
  have HE := shade he
  clear h1 h2 he
  go_enter Tryd.func17, Tryd.ntmps17
  go_wp2
  go_loopw [5] (fun i wr => ∃ k m : Nat, k ≤ n ∧ i = .int .i64 k ∧ wr = w.drewN m) (fun i _ => n - (intOf i).toNat)
  case atStart => exact ⟨0, 0, Nat.zero_le _, rfl, rfl⟩
  case round =>
    obtain ⟨k, m, hk, rfl, rfl⟩ := hrel
    by_cases hkn : k < n
    · have q1 := H1.out.cell hkn
      have q2 := H2.out.cell hkn
      rw [HE.out k hkn] at q1
      go_wp2
      go_quiet (fail)
      go_wp2
      go_roundw
      case rel => exact ⟨k + 1, _, by omega, by go_num, rfl⟩
      case measure => simp [intOf]; omega
    · have hkn2 : k = n := by omega
      subst hkn2
      go_wp2
      go_ret
      exact ⟨rfl, m, rfl⟩
theorem eqBoolS_any (A1 A2 : Option Addr) (c1 c2 n : Nat) (f g : Nat → Bool) (w : World) (hn : n ≤ 9223372036854775807) (h1 : Bols w A1 n f) (h2 : Bols w A2 n g) (he : ∀ j, j < n → f j = g j) :
    Calls Tryd.prog 17 #[.slice A1 n c1, .slice A2 n c2] w fun e w' => e = .returned (.bool true) ∧ ∃ m : Nat, w.drewN m = w' := by
  by_cases h0 : n = 0
  · subst h0
    exact eqBoolS_zero A1 A2 c1 c2 w
  · obtain ⟨b1, o1, rfl, _⟩ := h1.resolve_left h0
    obtain ⟨b2, o2, rfl, _⟩ := h2.resolve_left h0
    exact eqBoolS_at b1 o1 b2 o2 c1 c2 n f g w hn h1 h2 he


theorem markBoolS_zero (A : Option Addr) (c : Nat) (m : Int) (w : World) :
    Calls Tryd.prog 21 #[.slice A 0 c, .int .i64 m] w fun e w' => e = .returned (.int .i64 m) ∧ w = w' := by
  go_enter Tryd.func21, Tryd.ntmps21
  go_wp2
  refine wp_loop_rounds 1 ?_
  rw [rounds_succ]
  go_wp2
  go_ret
  exact ⟨rfl, rfl⟩
set_option maxHeartbeats 1000000 in
theorem markBoolS_at (B g n cap : Nat) (f : Nat → Bool) (m : Int) (w : World) (hm0 : 0 ≤ m) (hm : m + n ≤ 9223372036854775807) (h : OwnB w B (some ⟨g, 0, none⟩) n cap f) :
    Calls Tryd.prog 21 #[.slice (some ⟨g, 0, none⟩) n cap, .int .i64 m] w fun e w' => e = .returned (.int .i64 (m + n)) ∧ OwnB w' B (some ⟨g, 0, none⟩) n cap (mk3 m) ∧ w.grownBy w' (some g) := by
  have H := shade h
  clear h
  go_enter Tryd.func21, Tryd.ntmps21
  go_wp2
  go_loopw [1, 5] (fun q i wr => ∃ k : Nat, k ≤ n ∧ i = .int .i64 k ∧ q = .int .i64 (m + k) ∧ OwnB wr B (some ⟨g, 0, none⟩) n cap (fun j => if j < k then mk3 m j else f j) ∧ w.grownBy wr (some g)) (fun _ i _ => n - (intOf i).toNat)
  case atStart => exact ⟨0, Nat.zero_le _, rfl, by simp, H.out.congr (fun j _ => by rw [if_neg (by omega)]), grown_refl _ _⟩
  case round =>
    obtain ⟨k, hk, rfl, rfl, hown, hgr⟩ := hrel
    by_cases hkn : k < n
    · have q1 := hown.bols.cell hkn
      have q2 := World.ownsRow.frozenAt hown k
      rw [Nat.zero_add] at q1
      have HO := shade hown
      have HR := shade hgr
      clear hown hgr
      go_wp2
      go_roundw
      case rel =>
        have hs := World.ownsRow.stored HO.out k (.bool (mk3 m k))
        refine ⟨k + 1, by omega, by go_num, by go_num, ?_, grown_same HR.out hs.2⟩
        have h1 := hs.1
        rw [bolL_set n _ (fun j => if j < k + 1 then mk3 m j else f j) k (mk3 m k) (by simp) (fun j _ hne => by
          show (if j < k then _ else _) = (if j < k + 1 then _ else _)
          by_cases h : j < k
          · rw [if_pos h, if_pos (by omega)]
          · rw [if_neg h, if_neg (by omega)])] at h1
        exact h1
      case measure => simp [intOf]; omega
    · have hkn2 : k = n := by omega
      subst hkn2
      have HO := shade hown
      have HR := shade hgr
      clear hown hgr
      go_wp2
      go_ret
      exact ⟨rfl, HO.out.congr (fun j hj => by rw [if_pos hj]), HR.out⟩


theorem heldBoolS_zero (A : Option Addr) (c : Nat) (m : Int) (w : World) :
    Calls Tryd.prog 23 #[.slice A 0 c, .int .i64 m] w fun e w' => e = .returned (.int .i64 m) ∧ w = w' := by
  go_enter Tryd.func23, Tryd.ntmps23
  go_wp2
  refine wp_loop_rounds 1 ?_
  rw [rounds_succ]
  go_wp2
  go_ret
  exact ⟨rfl, rfl⟩
set_option maxHeartbeats 1000000 in
theorem heldBoolS_at (b off n cap : Nat) (m : Int) (w : World) (hm0 : 0 ≤ m) (hm : m + n ≤ 9223372036854775807) (h : Bols w (some ⟨b, off, none⟩) n (mk3 m)) :
    Calls Tryd.prog 23 #[.slice (some ⟨b, off, none⟩) n cap, .int .i64 m] w fun e w' => e = .returned (.int .i64 (m + n)) ∧ w = w' := by
  have H := shade h
  clear h
  go_enter Tryd.func23, Tryd.ntmps23
  go_wp2
  go_loop [1, 5] (fun q i => ∃ k : Nat, k ≤ n ∧ i = .int .i64 k ∧ q = .int .i64 (m + k)) (fun _ i => n - (intOf i).toNat)
  case atStart => exact ⟨0, Nat.zero_le _, rfl, by simp⟩
  case round =>
    obtain ⟨k, hk, rfl, rfl⟩ := hrel
    by_cases hkn : k < n
    · have q1 := H.out.cell hkn
      simp only [mk3] at q1
      go_wp2
      go_round
      case rel => exact ⟨k + 1, by omega, by go_num, by go_num⟩
      case measure => simp [intOf]; omega
    · have hkn2 : k = n := by omega
      subst hkn2
      go_wp2
      go_ret
      exact ⟨rfl, rfl⟩
theorem heldBoolS_any (A : Option Addr) (n cap : Nat) (m : Int) (w : World) (hm0 : 0 ≤ m) (hm : m + n ≤ 9223372036854775807) (h : Bols w A n (mk3 m)) :
    Calls Tryd.prog 23 #[.slice A n cap, .int .i64 m] w fun e w' => e = .returned (.int .i64 (m + n)) ∧ w = w' := by
  by_cases h0 : n = 0
  · subst h0
    exact (heldBoolS_zero A cap m w).mono fun e w' h => ⟨by rw [h.1]; simp, h.2⟩
  · obtain ⟨b, off, rfl, _⟩ := h.resolve_left h0
    exact heldBoolS_at b off n cap m w hm0 hm h


end Go.Proofs.YtcfnoihjpiklhaaDoor
