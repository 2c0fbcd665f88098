/- The rest of a number, and the state of a machine of four registers and eight cells. The model's ValidMachine: what it answers, for every machine whose numbers can be read. -/
import Derived.Test.YtlmjbflnfpccdaaDoorG31
import Derived.Test.YtlmjbflnfpccdaaDoorW52
namespace Go.Proofs.YtlmjbflnfpccdaaDoor
open Go.RowKit
/-- A state's cells. -/
def stC (at' : Int) (f1 f2 : Nat → Int) : Array Value := #[.int .i64 at', .int .i64 (f1 0), .int .i64 (f1 1), .int .i64 (f1 2), .int .i64 (f1 3), .int .i64 (f2 0), .int .i64 (f2 1), .int .i64 (f2 2), .int .i64 (f2 3), .int .i64 (f2 4), .int .i64 (f2 5), .int .i64 (f2 6), .int .i64 (f2 7)]


theorem tm_bounds (x : Int) : -256 < Int.tmod x 256 ∧ Int.tmod x 256 < 256 ∧ (Int.tmod x 256 + 256) % 256 = x % 256 := by
  have h := Int.mul_tdiv_add_tmod x 256
  by_cases hx : 0 ≤ x
  · have h1 := Int.tmod_nonneg 256 hx
    have h2 := Int.tmod_lt_of_pos x (show (0 : Int) < 256 by omega)
    omega
  · have h1 := Int.tmod_nonneg 256 (show 0 ≤ -x by omega)
    have h2 := Int.tmod_lt_of_pos (-x) (show (0 : Int) < 256 by omega)
    rw [Int.neg_tmod] at h1 h2
    omega
theorem Holds5.far {w : World} {g r : Nat} {t : TypeId} {cs : Array Value} (h : Holds5 w g t cs) (hne : g ≠ r) (o : Nat) (u : Value) : Holds5 (w.setCell ⟨r, o, none⟩ u) g t cs := h.other (p := ⟨r, o, none⟩) hne u
theorem Nums.far {w : World} {A : Option Addr} {n r : Nat} {f : Nat → Int} (h : Nums w A n f) (hne : ∀ b off, A = some ⟨b, off, none⟩ → b ≠ r) (o : Nat) (u : Value) : Nums (w.setCell ⟨r, o, none⟩ u) A n f :=
  h.grown (grown_set r o u) (fun b off e h => by
    injection h with h
    exact hne b off e h)
theorem stC_set1 (at' : Int) (h1 h2 : Nat → Int) (k : Nat) (hk : k < 4) (x : Int) : (stC at' h1 h2).setIfInBounds (1 + k) (.int .i64 x) = stC at' (fun j => if j = k then x else h1 j) h2 := by
  match k, hk with
  | 0, _ => rfl
  | 1, _ => rfl
  | 2, _ => rfl
  | 3, _ => rfl
theorem stC_set2 (at' : Int) (h1 h2 : Nat → Int) (k : Nat) (hk : k < 8) (x : Int) : (stC at' h1 h2).setIfInBounds (5 + k) (.int .i64 x) = stC at' h1 (fun j => if j = k then x else h2 j) := by
  match k, hk with
  | 0, _ => rfl
  | 1, _ => rfl
  | 2, _ => rfl
  | 3, _ => rfl
  | 4, _ => rfl
  | 5, _ => rfl
  | 6, _ => rfl
  | 7, _ => rfl
theorem stC_get1 (at' : Int) (h1 h2 : Nat → Int) (k : Nat) (hk : k < 4) : (stC at' h1 h2)[1 + k]? = some (.int .i64 (h1 k)) := by
  match k, hk with
  | 0, _ => rfl
  | 1, _ => rfl
  | 2, _ => rfl
  | 3, _ => rfl
theorem stC_get2 (at' : Int) (h1 h2 : Nat → Int) (k : Nat) (hk : k < 8) : (stC at' h1 h2)[5 + k]? = some (.int .i64 (h2 k)) := by
  match k, hk with
  | 0, _ => rfl
  | 1, _ => rfl
  | 2, _ => rfl
  | 3, _ => rfl
  | 4, _ => rfl
  | 5, _ => rfl
  | 6, _ => rfl
  | 7, _ => rfl
theorem stC_congr (at' : Int) (h1 h2 k1 k2 : Nat → Int) (e1 : ∀ j, j < 4 → h1 j = k1 j) (e2 : ∀ j, j < 8 → h2 j = k2 j) : stC at' h1 h2 = stC at' k1 k2 := by
  unfold stC
  rw [e1 0 (by omega), e1 1 (by omega), e1 2 (by omega), e1 3 (by omega), e2 0 (by omega), e2 1 (by omega), e2 2 (by omega), e2 3 (by omega), e2 4 (by omega), e2 5 (by omega), e2 6 (by omega), e2 7 (by omega)]
/-- The numbers that are read lie below B. -/
def NumsLow (A : Option Addr) (B : Nat) : Prop := ∀ b off, A = some ⟨b, off, none⟩ → b < B
end Go.Proofs.YtlmjbflnfpccdaaDoor
namespace Go.Proofs.YtlmjbflnfpccdaaDoor
open Go.RowKit
/-- Is it in the range? -/
def inRB (n lo hi : Int) : Bool := decide (lo ≤ n) && decide (n ≤ hi)
set_option maxHeartbeats 1000000 in
theorem inRB_any (n lo hi : Int) (w : World) :
    Calls Tryd.prog 73 #[.int .i64 n, .int .i64 lo, .int .i64 hi] w fun e w' => e = .returned (.bool (inRB n lo hi)) ∧ w = w' := by
  go_enter Tryd.func73, Tryd.ntmps73
  go_wp2
  all_goals
    go_ret
    exact ⟨by simp [inRB]; try omega, rfl⟩
/-- Are all of the numbers words? -/
def okL (n : Nat) (f : Nat → Int) : Bool := (List.range n).all fun j => inRB (f j) 0 255
theorem okL_iff {n : Nat} {f : Nat → Int} : okL n f = true ↔ ∀ j, j < n → inRB (f j) 0 255 = true := by
  simp [okL, List.all_eq_true]
theorem okL_false {n k : Nat} {f : Nat → Int} (hk : k < n) (h : inRB (f k) 0 255 = false) : okL n f = false := by
  rw [Bool.eq_false_iff]
  intro h'
  rw [okL_iff.1 h' k hk] at h
  cases h
theorem validNumbers_zero (A : Option Addr) (c m : Nat) (f : Nat → Int) (w : World) :
    Calls Tryd.prog 86 #[.slice A 0 c, .int .i64 m] w fun e w' => e = .returned (.bool (okL 0 f && decide (0 = m))) ∧ w = w' := by
  go_enter Tryd.func86, Tryd.ntmps86
  go_wp2
  refine wp_loop_rounds 1 ?_
  rw [rounds_succ]
  go_wp2
  go_ret
  refine ⟨ret_b ?_, rfl⟩
  rw [Bool.eq_iff_iff]
  simp [okL]
  try omega
set_option maxHeartbeats 2000000 in
theorem validNumbers_at (b off n c m : Nat) (f : Nat → Int) (w : World) (hn : n ≤ 9223372036854775807) (h : Nums w (some ⟨b, off, none⟩) n f) :
    Calls Tryd.prog 86 #[.slice (some ⟨b, off, none⟩) n c, .int .i64 m] w fun e w' => e = .returned (.bool (okL n f && decide (n = m))) ∧ w = w' := by
  have H := shade h
  clear h
  go_enter Tryd.func86, Tryd.ntmps86
  go_wp2
  go_loop [5] (fun i => ∃ k : Nat, k ≤ n ∧ i = .int .i64 k ∧ ∀ j, j < k → inRB (f j) 0 255 = true) (fun i => n - (intOf i).toNat)
  case atStart => exact ⟨0, Nat.zero_le _, rfl, fun j hj => absurd hj (by omega)⟩
  case round =>
    obtain ⟨k, hk, rfl, hall⟩ := hrel
    have HA := shade hall
    clear hall
    by_cases hkn : k < n
    · have q1 := H.out.cell hkn
      rcases hr : inRB (f k) 0 255 with _ | _
      · have HR := shade hr
        clear hr
        go_wp2_with (first | (go_at_call 73; refine (inRB_any _ _ _ _).mono ?_; rw [HR.out]; rintro e w' ⟨rfl, rfl⟩))
        go_ret
        exact ⟨ret_b (by rw [okL_false hkn HR.out]; rfl), rfl⟩
      · have HR := shade hr
        clear hr
        go_wp2_with (first | (go_at_call 73; refine (inRB_any _ _ _ _).mono ?_; rw [HR.out]; rintro e w' ⟨rfl, rfl⟩))
        go_round
        case rel => exact ⟨k + 1, by omega, by go_num, fun j hj => by
          by_cases e : j = k
          · rw [e]; exact HR.out
          · exact HA.out j (by omega)⟩
        case measure => simp [intOf]; omega
    · have hkn2 : k = n := by omega
      subst hkn2
      go_wp2
      go_ret
      refine ⟨ret_b ?_, rfl⟩
      rw [okL_iff.2 HA.out]
      rw [Bool.eq_iff_iff]
      simp
      try omega
theorem validNumbers_any (A : Option Addr) (n c m : Nat) (f : Nat → Int) (w : World) (hn : n ≤ 9223372036854775807) (h : Nums w A n f) :
    Calls Tryd.prog 86 #[.slice A n c, .int .i64 m] w fun e w' => e = .returned (.bool (okL n f && decide (n = m))) ∧ w = w' := by
  by_cases h0 : n = 0
  · subst h0
    exact validNumbers_zero A c m f w
  · obtain ⟨b, off, rfl, _⟩ := h.resolve_left h0
    exact validNumbers_at b off n c m f w hn h
/-- Is the machine valid? -/
def vmB (at' : Int) (n1 n2 : Nat) (f1 f2 : Nat → Int) : Bool := inRB at' 0 40 && (okL n1 f1 && decide (n1 = 4)) && (okL n2 f2 && decide (n2 = 8))


set_option maxHeartbeats 4000000 in
theorem validMachine_any (at' : Int) (A1 A2 : Option Addr) (n1 n2 c1 c2 : Nat) (f1 f2 : Nat → Int) (w : World) (hn1 : n1 ≤ 9223372036854775807) (hn2 : n2 ≤ 9223372036854775807) (h1 : Nums w A1 n1 f1) (h2 : Nums w A2 n2 f2) :
    Calls Tryd.prog 80 #[MV at' A1 n1 c1 A2 n2 c2] w fun e w' => e = .returned (.bool (vmB at' n1 n2 f1 f2)) ∧ w.grownBy w' none := by
  have H1 := shade (fun o => validNumbers_any A1 n1 c1 4 f1 (w.alloc o) hn1 (h1.alloc o))
  have H2 := shade (fun o => validNumbers_any A2 n2 c2 8 f2 (w.alloc o) hn2 (h2.alloc o))
  clear h1 h2
  unfold vmB
  have H0 := shade (fun W => inRB_any at' 0 40 W)
  generalize inRB at' 0 40 = x at *
  generalize (okL n1 f1 && decide (n1 = 4)) = y at *
  generalize (okL n2 f2 && decide (n2 = 8)) = z at *
  rcases x with _ | _
  all_goals rcases y with _ | _
  all_goals rcases z with _ | _
  all_goals
    go_enter Tryd.func80, Tryd.ntmps80
    go_wp2_with (first | (go_at_call 73; refine (H0.out _).mono ?_; rintro e w' ⟨rfl, rfl⟩) | (go_at_call 86; first | (have hq := hdone1; refine (H2.out _).mono ?_; rintro e w' ⟨rfl, rfl⟩) | (refine (H1.out _).mono ?_; rintro e w' ⟨rfl, rfl⟩; have hdone1 := true)))
    go_ret
    exact ⟨rfl, World.grownBy_alloc _ _ _⟩

end Go.Proofs.YtlmjbflnfpccdaaDoor