/- The rest of a number, and the state of a machine of four registers and eight cells. The model's ValidMachine: what it answers, for every machine whose numbers can be read. -/
import Derived.Test.YtblnchcgeepemaaDoorG31
import Derived.Test.YtblnchcgeepemaaDoorW52
namespace Go.Proofs.YtblnchcgeepemaaDoor
open Go.RowKit
/-- A state's cells. -/
def stC (at' : Int) (f1 f2 : Nat → Int) : Array Value := #[.int .i64 at', .int .i64 (f1 0), .int .i64 (f1 1), .int .i64 (f1 2), .int .i64 (f1 3), .int .i64 (f2 0), .int .i64 (f2 1), .int .i64 (f2 2), .int .i64 (f2 3), .int .i64 (f2 4), .int .i64 (f2 5), .int .i64 (f2 6), .int .i64 (f2 7)]


theorem tm_bounds (x : Int) : -256 < Int.tmod x 256 ∧ Int.tmod x 256 < 256 ∧ (Int.tmod x 256 + 256) % 256 = x % 256 := by
  have h := Int.mul_tdiv_add_tmod x 256
  by_cases hx : 0 ≤ x
  · have h1 := Int.tmod_nonneg 256 hx
    have h2 := Int.tmod_lt_of_pos x (show (0 : Int) < 256 by omega)
    omega
  · have h1 := Int.tmod_nonneg 256 (show 0 ≤ -x by omega)
    have h2 := Int.tmod_lt_of_pos (-x) (show (0 : Int) < 256 by omega)
    rw [Int.neg_tmod] at h1 h2
    omega
theorem Holds5.far {w : World} {g r : Nat} {t : TypeId} {cs : Array Value} (h : Holds5 w g t cs) (hne : g ≠ r) (o : Nat) (u : Value) : Holds5 (w.setCell ⟨r, o, none⟩ u) g t cs := h.other (p := ⟨r, o, none⟩) hne u
theorem Nums.far {w : World} {A : Option Addr} {n r : Nat} {f : Nat → Int} (h : Nums w A n f) (hne : ∀ b off, A = some ⟨b, off, none⟩ → b ≠ r) (o : Nat) (u : Value) : Nums (w.setCell ⟨r, o, none⟩ u) A n f :=
  h.grown (grown_set r o u) (fun b off e h => by
    injection h with h
    exact hne b off e h)
theorem stC_set1 (at' : Int) (h1 h2 : Nat → Int) (k : Nat) (hk : k < 4) (x : Int) : (stC at' h1 h2).setIfInBounds (1 + k) (.int .i64 x) = stC at' (fun j => if j = k then x else h1 j) h2 := by
  match k, hk with
  | 0, _ => rfl
  | 1, _ => rfl
  | 2, _ => rfl
  | 3, _ => rfl
theorem stC_set2 (at' : Int) (h1 h2 : Nat → Int) (k : Nat) (hk : k < 8) (x : Int) : (stC at' h1 h2).setIfInBounds (5 + k) (.int .i64 x) = stC at' h1 (fun j => if j = k then x else h2 j) := by
  match k, hk with
  | 0, _ => rfl
  | 1, _ => rfl
  | 2, _ => rfl
  | 3, _ => rfl
  | 4, _ => rfl
  | 5, _ => rfl
  | 6, _ => rfl
  | 7, _ => rfl
theorem stC_get1 (at' : Int) (h1 h2 : Nat → Int) (k : Nat) (hk : k < 4) : (stC at' h1 h2)[1 + k]? = some (.int .i64 (h1 k)) := by
  match k, hk with
  | 0, _ => rfl
  | 1, _ => rfl
  | 2, _ => rfl
  | 3, _ => rfl
theorem stC_get2 (at' : Int) (h1 h2 : Nat → Int) (k : Nat) (hk : k < 8) : (stC at' h1 h2)[5 + k]? = some (.int .i64 (h2 k)) := by
  match k, hk with
  | 0, _ => rfl
  | 1, _ => rfl
  | 2, _ => rfl
  | 3, _ => rfl
  | 4, _ => rfl
  | 5, _ => rfl
  | 6, _ => rfl
  | 7, _ => rfl
theorem stC_congr (at' : Int) (h1 h2 k1 k2 : Nat → Int) (e1 : ∀ j, j < 4 → h1 j = k1 j) (e2 : ∀ j, j < 8 → h2 j = k2 j) : stC at' h1 h2 = stC at' k1 k2 := by
  unfold stC
  rw [e1 0 (by omega), e1 1 (by omega), e1 2 (by omega), e1 3 (by omega), e2 0 (by omega), e2 1 (by omega), e2 2 (by omega), e2 3 (by omega), e2 4 (by omega), e2 5 (by omega), e2 6 (by omega), e2 7 (by omega)]
/-- The numbers that are read lie below B. -/
def NumsLow (A : Option Addr) (B : Nat) : Prop := ∀ b off, A = some ⟨b, off, none⟩ → b < B
end Go.Proofs.YtblnchcgeepemaaDoor
namespace Go.Proofs.YtblnchcgeepemaaDoor
open Go.RowKit
/-- Is it in the range? -/
def inRB (n lo hi : Int) : Bool := decide (lo ≤ n) && decide (n ≤ hi)
set_option maxHeartbeats 1000000 in
theorem inRB_any (n lo hi : Int) (w : World) :
    Calls Tryd.prog 47 #[.int .i64 n, .int .i64 lo, .int .i64 hi] w fun e w' => e = .returned (.bool (inRB n lo hi)) ∧ w = w' := by
  go_enter Tryd.func47, Tryd.ntmps47
  go_wp2
  all_goals
    go_ret
    exact ⟨by simp [inRB]; try omega, rfl⟩
/-- Are all of the numbers words? -/
def okL (n : Nat) (f : Nat → Int) : Bool := (List.range n).all fun j => inRB (f j) 0 255
theorem okL_iff {n : Nat} {f : Nat → Int} : okL n f = true ↔ ∀ j, j < n → inRB (f j) 0 255 = true := by
  simp [okL, List.all_eq_true]
theorem okL_false {n k : Nat} {f : Nat → Int} (hk : k < n) (h : inRB (f k) 0 255 = false) : okL n f = false := by
  rw [Bool.eq_false_iff]
  intro h'
  rw [okL_iff.1 h' k hk] at h
  cases h
/-- Is the machine valid? -/
def vmB (at' : Int) (n1 n2 : Nat) (f1 f2 : Nat → Int) : Bool := inRB at' 0 40 && (okL n1 f1 && decide (n1 = 4)) && (okL n2 f2 && decide (n2 = 8))


end Go.Proofs.YtblnchcgeepemaaDoor