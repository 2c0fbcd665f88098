/- BestTable of the program. -/
import Derived.Test.YtfmcmndhghfoeaaZ21
namespace Go.Proofs.Ytfmcmndhghfoeaa
open Go.RowKit Go.Shelf
/-- Sixteen numbers. -/
def a16 (f : Nat → Int) : Array Value := #[.int .i64 (f 0), .int .i64 (f 1), .int .i64 (f 2), .int .i64 (f 3), .int .i64 (f 4), .int .i64 (f 5), .int .i64 (f 6), .int .i64 (f 7), .int .i64 (f 8), .int .i64 (f 9), .int .i64 (f 10), .int .i64 (f 11), .int .i64 (f 12), .int .i64 (f 13), .int .i64 (f 14), .int .i64 (f 15)]
theorem a16_at (f : Nat → Int) (i : Nat) (h : i < 16) : (a16 f)[i]? = some (.int .i64 (f i)) := by
  match i, h with
  | 0, _ => rfl
  | 1, _ => rfl
  | 2, _ => rfl
  | 3, _ => rfl
  | 4, _ => rfl
  | 5, _ => rfl
  | 6, _ => rfl
  | 7, _ => rfl
  | 8, _ => rfl
  | 9, _ => rfl
  | 10, _ => rfl
  | 11, _ => rfl
  | 12, _ => rfl
  | 13, _ => rfl
  | 14, _ => rfl
  | 15, _ => rfl
  | n + 16, h => exact absurd h (by omega)
theorem a16_put (f : Nat → Int) (i : Nat) (x : Int) (h : i < 16) : (a16 f).setIfInBounds i (.int .i64 x) = a16 (up f i x) := by
  match i, h with
  | 0, _ => rfl
  | 1, _ => rfl
  | 2, _ => rfl
  | 3, _ => rfl
  | 4, _ => rfl
  | 5, _ => rfl
  | 6, _ => rfl
  | 7, _ => rfl
  | 8, _ => rfl
  | 9, _ => rfl
  | 10, _ => rfl
  | 11, _ => rfl
  | 12, _ => rfl
  | 13, _ => rfl
  | 14, _ => rfl
  | 15, _ => rfl
  | n + 16, h => exact absurd h (by omega)
theorem a16_congr {f g : Nat → Int} (h : ∀ i, i < 16 → f i = g i) : a16 f = a16 g := by
  unfold a16
  rw [h 0 (by omega), h 1 (by omega), h 2 (by omega), h 3 (by omega), h 4 (by omega), h 5 (by omega), h 6 (by omega), h 7 (by omega), h 8 (by omega), h 9 (by omega), h 10 (by omega), h 11 (by omega), h 12 (by omega), h 13 (by omega), h 14 (by omega), h 15 (by omega)]
abbrev T16 : TypeId := 61
abbrev TPA : TypeId := 54
theorem info_16 : (Try.prog.info? T16).map (·.size) = some 16 := by kernel_rfl
theorem tw_16 {s : Nat} (J : Nat → Bool) (j : Nat) (hs : s ≤ 4) : tw s J j < 16 := Nat.lt_of_lt_of_le (tw_lt s J j) (by rcases (show s = 0 ∨ s = 1 ∨ s = 2 ∨ s = 3 ∨ s = 4 by omega) with rfl | rfl | rfl | rfl | rfl <;> decide)
theorem yn_none (s : Nat) (J : Nat → Bool) (v : Bool) (m i : Nat) (h : 2 ^ s ≤ i) : yn s J v m i = 0 := by
  induction m with
  | zero => rfl
  | succ m ih =>
    have := tw_lt s J m
    rw [yn_succ, ih, if_neg (by omega)]
theorem bt_16 (s : Nat) (J : Nat → Bool) (m : Nat) (hs : s ≤ 4) : sumN (fun i => min (yn s J true m i) (yn s J false m i)) 16 = bt s J m := by
  have h : ∃ d, 16 = 2 ^ s + d := by
    rcases (show s = 0 ∨ s = 1 ∨ s = 2 ∨ s = 3 ∨ s = 4 by omega) with rfl | rfl | rfl | rfl | rfl
    · exact ⟨15, rfl⟩
    · exact ⟨14, rfl⟩
    · exact ⟨12, rfl⟩
    · exact ⟨8, rfl⟩
    · exact ⟨0, rfl⟩
  obtain ⟨d, hd⟩ := h
  rw [hd, sumN_split, sumN_zero _ d (fun i _ => by
    show min (yn s J true m (2 ^ s + i)) (yn s J false m (2 ^ s + i)) = 0
    rw [yn_none s J true m _ (by omega)]
    omega)]
  rfl
/-- What is counted so far. -/
structure BT (w wr : World) (g1 g2 g3 s : Nat) (J : Nat → Bool) (j : Nat) : Prop where
  yes : Holds5 wr g1 T16 (a16 (fun i => (yn s J true j i : Int)))
  no : Holds5 wr g2 T16 (a16 (fun i => (yn s J false j i : Int)))
  way : Holds5 wr g3 TPA #[.int .i64 (s : Int), .int .i64 (tw s J j : Int)]
  low : Below w.heap.size w wr
theorem BT.next {w wr w' : World} {g1 g2 g3 s : Nat} {J : Nat → Bool} {j : Nat} (h : BT w wr g1 g2 g3 s J j) (hs : s ≤ 4) (h12 : g1 ≠ g2) (h13 : g1 ≠ g3) (h23 : g2 ≠ g3) (hB : w.heap.size ≤ g1) (hB2 : w.heap.size ≤ g2) (hB3 : w.heap.size ≤ g3)
    (g : Nat) (hg : g = if J j = true then g1 else g2)
    (hb : Holds5 w' g3 TPA #[.int .i64 (s : Int), .int .i64 (((2 * tw s J j + (J j).toNat) % 2 ^ s : Nat) : Int)])
    (hg' : (wr.setCell ⟨g, tw s J j, none⟩ (.int .i64 ((yn s J (J j) j (tw s J j) : Int) + 1))).grownBy w' (some g3)) : BT w w' g1 g2 g3 s J (j + 1) := by
  have ht := tw_16 J j hs
  have hw : ∀ v, (fun i => (yn s J v (j + 1) i : Int)) = fun i => (if J j = v then up (fun i => (yn s J v j i : Int)) (tw s J j) ((yn s J v j (tw s J j) : Int) + 1) i else (yn s J v j i : Int)) := by
    intro v
    funext i
    rw [yn_succ]
    unfold up
    by_cases h1 : i = tw s J j <;> by_cases h2 : J j = v <;> simp [h1, h2]
  have hlow : Below w.heap.size w w' := by
    refine h.low.trans ?_
    have h1 : Below w.heap.size wr (wr.setCell ⟨g, tw s J j, none⟩ (.int .i64 ((yn s J (J j) j (tw s J j) : Int) + 1))) := below_row (grown_set g _ _) (by rw [hg]; split <;> omega) h.low.size
    exact h1.trans (below_row hg' hB3 (by have := h.low.size; simpa [World.setCell] using this))
  rcases hv : J j with _ | _
  · rw [hv] at hg hb hg'
    rw [if_neg (by decide)] at hg
    subst hg
    refine ⟨?_, ?_, hb.trans ?_, hlow⟩
    · rw [hw true, hv]
      exact (h.yes.other (p := ⟨g, tw s J j, none⟩) h12 _).grown hg' (fun e => h13 (Option.some.inj e))
    · rw [hw false, hv]
      have h1 := (h.no.put (tw s J j) (.int .i64 ((yn s J false j (tw s J j) : Int) + 1))).grown hg' (fun e => h23 (Option.some.inj e))
      rw [a16_put _ _ _ ht] at h1
      exact h1
    · show _ = some (Obj.cells #[.int .i64 (s : Int), .int .i64 (((2 * tw s J j + (J j).toNat) % 2 ^ s : Nat) : Int)] TPA (0, 0))
      rw [hv]
  · rw [hv] at hg hb hg'
    rw [if_pos rfl] at hg
    subst hg
    refine ⟨?_, ?_, hb.trans ?_, hlow⟩
    · rw [hw true, hv]
      have h1 := (h.yes.put (tw s J j) (.int .i64 ((yn s J true j (tw s J j) : Int) + 1))).grown hg' (fun e => h13 (Option.some.inj e))
      rw [a16_put _ _ _ ht] at h1
      exact h1
    · rw [hw false, hv]
      exact (h.no.other (p := ⟨g, tw s J j, none⟩) (fun e => h12 e.symm) _).grown hg' (fun e => h23 (Option.some.inj e))
    · show _ = some (Obj.cells #[.int .i64 (s : Int), .int .i64 (((2 * tw s J j + (J j).toNat) % 2 ^ s : Nat) : Int)] TPA (0, 0))
      rw [hv]
end Go.Proofs.Ytfmcmndhghfoeaa
