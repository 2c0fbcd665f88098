/- The model's guesses by what went before. -/
import Derived.Test.YtfmcmndhghfoeaaZ31
import Derived.Test.YtfmcmndhghfoeaaW31
namespace Go.Proofs.Ytfmcmndhghfoeaa
open Go.RowKit
set_option linter.unusedSimpArgs false
theorem info4b : (Try.prog.info? 4).map (fun i => (i.zero, i.size, i.bytes)) = some (some (.bool false), 1, 1) := by kernel_rfl
theorem made_bools (n : Nat) : (madeCells #[Value.bool false] n).toList = bolL n (fun _ => false) := by
  rw [toList_madeCells_one]
  unfold bolL
  rw [List.map_const', List.length_range]
theorem bool_new (w : World) (t : TypeId) (x : Bool) : ∀ j u, ([.bool x] : List Value)[j]? = some u → (w.alloc (.cells #[.bool x] t)).cell? ((⟨w.heap.size, 0, none⟩ : Addr).add j) = some u := by
  intro j u h
  rw [Addr.add_lit, Nat.zero_add, World.cell?_alloc_new]
  simpa using h
theorem bool_one (x : Bool) : ∀ u ∈ ([.bool x] : List Value), u.oneCell' = true := by
  intro u hu
  simp only [List.mem_cons, List.not_mem_nil, or_false] at hu
  rw [hu]
  rfl
theorem bolL_snoc (k : Nat) (f : Nat → Bool) : bolL k f ++ [.bool (f k)] = bolL (k + 1) f := by
  unfold bolL
  rw [List.range_succ, List.map_append]
  rfl
theorem ownsRow_slice {w : World} {B : Nat} {e : TypeId} {z : Nat} {v : Value} {n : Nat} {xs : List Value} (h : w.ownsRow B e z v n xs) : ∃ A c, v = .slice A n c ∧ ∀ b off, A = some ⟨b, off, none⟩ → B ≤ b ∧ b < w.heap.size := by
  rcases h.2 with ⟨e, h0⟩ | ⟨g', c, cur, e, hb, hw, hrest⟩
  · exact ⟨none, 0, by rw [e, h0], by intro _ _ e; cases e⟩
  · have hh := h
    subst e
    have hlt := World.ownsRow.lt hh g' rfl
    exact ⟨some ⟨g', 0, none⟩, c, rfl, by intro b off e; injection e with e; injection e with e1 e2; subst e1; exact hlt⟩
theorem ownsRow_on {w w' : World} {B : Nat} {e : TypeId} {z : Nat} {v : Value} {n : Nat} {xs : List Value} (h : w.ownsRow B e z v n xs) (hg : w.grownBy w' none) : w'.ownsRow B e z v n xs :=
  World.ownsRow.kept h hg (Classical.em _)
theorem grown_row {a b c : World} {row : Option Nat} (h : a.grownBy b none) (h' : b.grownBy c row) (hr : ∀ j, row = some j → a.heap.size ≤ j) : a.grownBy c none :=
  ⟨h'.os.trans h.os, h'.tape.trans h.tape, h'.output.trans h.output, Nat.le_trans h.size h'.size, fun i hi _ => (h'.block i (Nat.lt_of_lt_of_le hi h.size) (fun e => by have := hr i e.symm; omega)).trans (h.block i hi (by simp))⟩
/-- What a call leaves that makes a row of Booleans. -/
def BolRes (k : Nat) (f : Nat → Bool) (w : World) (e : Ending) (w' : World) : Prop :=
  ∃ v, e = .returned v ∧ w'.ownsRow w.heap.size 4 1 v k (bolL k f) ∧ w.grownBy w' none
/-- A row of Booleans that is made can be read. -/
theorem BolRes.bols {k : Nat} {f : Nat → Bool} {w w' : World} {e : Ending} (h : BolRes k f w e w') : ∃ A c, e = .returned (.slice A k c) ∧ Bols w' A k f ∧ w.grownBy w' none := by
  obtain ⟨v, rfl, ho, hg⟩ := h
  rcases ho.2 with ⟨e', h0⟩ | ⟨g', cap', cur, e', _⟩
  · exact ⟨none, 0, by rw [e', h0], .inl h0, hg⟩
  · rw [e'] at ho
    exact ⟨some ⟨g', 0, none⟩, cap', by rw [e'], OwnB.bols ho, hg⟩
/-- What stands while guesses are made: the counters, and those so far. -/
structure PG (w wr : World) (g N s : Nat) (J : Nat → Bool) (j : Nat) (v : Value) : Prop where
  tab : Own wr w.heap.size (some ⟨g, 0, none⟩) N N (tb s J j)
  out : wr.ownsRow (g + 1) 4 1 v j (bolL j (pg s J))
  low : w.grownBy wr none
  big : g + 1 ≤ wr.heap.size
  glo : w.heap.size ≤ g
theorem Own.keep {w w' : World} {B g n c : Nat} {f : Nat → Int} {row : Option Nat} (h : Own w B (some ⟨g, 0, none⟩) n c f) (hg : w.grownBy w' row) (hr : some g ≠ row) : Own w' B (some ⟨g, 0, none⟩) n c f :=
  World.ownsRow.kept h hg (.inr (by show some g ≠ row; exact hr))
theorem wrong_any (AJ AG : Option Addr) (m cj cg' : Nat) (J f : Nat → Bool) (w : World) (hm : m ≤ 300) (hj : Bols w AJ m J) (hf : Bols w AG m f) :
    Calls Try.prog 46 #[.slice AJ m cj, .slice AG m cg'] w fun e w' => e = .returned (.int .i64 (msB J f m : Int)) ∧ w.grownBy w' none := by
  have H := shade hj; have HF := shade hf
  clear hj hf
  go_enter Try.func46, Try.ntmps46
  go_wp2_with fail
  go_loopw [5, 6] (fun v i wr => ∃ j : Nat, j ≤ m ∧ i = .int .i64 (j : Int) ∧ v = .int .i64 (msB J f j : Int) ∧ w.grownBy wr none) (fun _ i _ => m - (intOf i).toNat)
  case atStart => exact ⟨0, Nat.zero_le _, rfl, rfl, grown_refl _ _⟩
  case round =>
    obtain ⟨j, hj, rfl, rfl, hg⟩ := hrel
    have HG := shade hg
    clear hg
    by_cases hlt : j < m
    · obtain ⟨b, o, rfl, -⟩ := H.out.resolve_left (by omega)
      obtain ⟨b2, o2, rfl, -⟩ := HF.out.resolve_left (by omega)
      have hc := (H.out.on HG.out).cell hlt
      have hc2 := (HF.out.on HG.out).cell hlt
      have hk := msB_le J f j
      have hs : msB J f (j + 1) = msB J f j + (if (J j != f j) = true then 1 else 0) := rfl
      have HS := shade hs
      clear hs
      generalize msB J f j = x at *
      generalize J j = v at *
      generalize f j = u at *
      have i1 : (j : Int) < (m : Int) := by omega
      have i2 : (0 : Int) ≤ (j : Int) := by omega
      rcases u with _ | _ <;> rcases v with _ | _
      all_goals
        go_wp2_with fail
        (try (go_quiet (fail); go_wp2_with fail))
        go_roundw
        case rel => exact ⟨j + 1, by omega, by go_num, by rw [HS.out]; simp, by first | exact HG.out | exact grown_drewN HG.out _⟩
        case measure => simp [intOf]; omega
    · obtain rfl : j = m := by omega
      go_wp2_with fail
      go_ret
      exact ⟨rfl, HG.out⟩
end Go.Proofs.Ytfmcmndhghfoeaa
