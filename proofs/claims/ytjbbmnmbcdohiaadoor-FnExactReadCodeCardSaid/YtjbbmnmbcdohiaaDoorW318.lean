/- What ReadInstr of the program calls: Split, TrimPrefix and Atoi of the library; the listed words. -/
import Derived.Test.YtjbbmnmbcdohiaaDoorW317
namespace Go.Proofs.YtjbbmnmbcdohiaaDoor
open Go.RowKit
theorem wtCell {w : World} (h : WT w) (q : Nat) (hq : q < 10) : w.cell? ⟨0, q, none⟩ = some (.string (wT q)) := by
  obtain ⟨t, fr, h⟩ := h
  rw [cell_of_row w _ q wtCells t fr h]
  match q, hq with
  | 0, _ => rfl
  | 1, _ => rfl
  | 2, _ => rfl
  | 3, _ => rfl
  | 4, _ => rfl
  | 5, _ => rfl
  | 6, _ => rfl
  | 7, _ => rfl
  | 8, _ => rfl
  | 9, _ => rfl
/-- The pieces as they are laid. -/
abbrev pcs (xs : List (List UInt8)) : Array Value := (xs.map fun x => Value.string (tx x)).toArray
theorem split_is (s : List UInt8) (w : World) (hm : MaxL w) (hl : s.length ≤ 1048576) : Calls Tryd.prog 37 #[.string (tx s), .string ⟨#[32]⟩] w fun e w' => e = .returned (.slice (some ⟨w.heap.size, 0, none⟩) (splitC 32 s).length (splitC 32 s).length) ∧ w.alloc (.cells (pcs (splitC 32 s)) 9) = w' := by
  obtain ⟨m, hm⟩ := hm
  refine (Tryd.strings_Split (tx s) ⟨#[32]⟩ m w (by rw [tx_size]; omega) hm (by decide)).mono ?_
  rintro e w' ⟨rfl, rfl⟩
  rw [splitB_C, count_C, splitC_len, List.map_map]
  exact ⟨rfl, rfl⟩
theorem pcs_look (w : World) (xs : List (List UInt8)) (j : Nat) (hj : j < xs.length) : (w.alloc (.cells (pcs xs) 9)).cell? ⟨w.heap.size, j, none⟩ = some (.string (tx xs[j])) := by
  rw [World.cell?_alloc_new]
  simp [hj]
theorem trim_is (p : List UInt8) (w : World) : Calls Tryd.prog 39 #[.string (tx p), .string ⟨#[114]⟩] w fun e w' => e = .returned (.string (tx (Lib.trimPrefix p [114]))) ∧ w = w' := by
  refine (Tryd.strings_TrimPrefix (tx p) ⟨#[114]⟩ w).mono ?_
  rintro e w' ⟨rfl, rfl⟩
  exact ⟨rfl, rfl⟩
/-- What Atoi gives. -/
def AT (q : List UInt8) (w : World) (e : Ending) (w' : World) : Prop := ∃ (v : Int) (er : Value), e = .returned (.tuple #[.int .i64 v, er]) ∧ w.grownBy w' none ∧ ((er = .nilIface ∧ Lib.atoiAll q = .ok v) ∨ ((∃ N, er = .iface 80 (.pointer (some ⟨N, 0, none⟩))) ∧ ∀ v, Lib.atoiAll q ≠ .ok v))
theorem atoi_is (q : List UInt8) (w : World) (he : Errs w) (hl : q.length ≤ 1048576) : Calls Tryd.prog 38 #[.string (tx q)] w (AT q w) := by
  have hz := tx_size q
  rcases h : Lib.atoiAll q with v | _ | _
  · refine (Tryd.strconv_Atoi_ok (tx q) (by omega) v h w).mono ?_
    rintro e w' ⟨rfl, hw⟩
    refine ⟨v, _, rfl, ?_, .inl ⟨rfl, h⟩⟩
    rcases hw with rfl | ⟨t, rfl⟩
    · exact grown_refl _ _
    · exact grown_of_below (Lib.bytesWorld_below _ _ _)
  · obtain ⟨⟨p, hp⟩, _⟩ := he
    refine (Tryd.strconv_Atoi_bad_var (tx q) (by omega) (fun v e => by have e2 := h.symm.trans e; cases e2) (fun e => by have e2 := h.symm.trans e; cases e2) _ p w hp).mono ?_
    rintro e w' ⟨N, rfl, _, _, hb⟩
    exact ⟨0, _, rfl, grown_of_below hb, .inr ⟨⟨N, rfl⟩, fun v e => by rw [h] at e; cases e⟩⟩
  · obtain ⟨_, ⟨p, hp⟩⟩ := he
    refine (Tryd.strconv_Atoi_range_var (tx q) (by omega) h _ p w hp).mono ?_
    rintro e w' ⟨N, rfl, _, _, hb⟩
    exact ⟨_, _, rfl, grown_of_below hb, .inr ⟨⟨N, rfl⟩, fun v e => by rw [h] at e; cases e⟩⟩
/-- What the call finds laid. -/
structure LY (w : World) : Prop where
  wt : WT w
  pow : Pow w
  err : Errs w
  max : MaxL w
theorem LY.on {w w' : World} (h : LY w) (hg : w.grownBy w' none) : LY w' :=
  ⟨h.wt.grown hg (by simp), pow_below h.pow (below_of_grown hg), h.err.below (below_of_grown hg), h.max.below (below_of_grown hg)⟩
theorem cell_grown {w w' : World} {b o : Nat} (hg : w.grownBy w' none) (hb : b < w.heap.size) : w'.cell? ⟨b, o, none⟩ = w.cell? ⟨b, o, none⟩ := (below_of_grown hg).cell (p := ⟨b, o, none⟩) hb
/-- What stands in ReadInstr's loop: the pieces, the instruction in its box, and what is read so far. -/
structure RL (s : List UInt8) (ps : List (List UInt8)) (n : Nat) (w W : World) (R j : Nat) (d a b k : Int) : Prop where
  rt : RT w W R (wT n) d a b k
  ly : LY w
  fld : ∀ (i : Nat) (hi : i < ps.length), W.cell? ⟨w.heap.size + 1, i + 1, none⟩ = some (.string (tx ps[i]))
  fr : w.heap.size + 1 < R
  ag : Agree s (namesN n).data.toList j (d, a, b, k)
section
variable {s : List UInt8} {ps : List (List UInt8)} {n : Nat} {w W W' : World} {R j : Nat} {d a b k : Int}
theorem RL.on (h : RL s ps n w W R j d a b k) (hg : W.grownBy W' none) : RL s ps n w W' R j d a b k :=
  ⟨h.rt.on hg, h.ly, fun i hi => (cell_grown hg (Nat.lt_trans h.fr h.rt.box.inside)).trans (h.fld i hi), h.fr, h.ag⟩
theorem RL.laid (h : RL s ps n w W R j d a b k) : LY W := h.ly.on h.rt.low
/-- A store into the instruction's box, which is no older than the call. -/
theorem RL.put (h : RL s ps n w W R j d a b k) (d' a' b' k' : Int) {j' : Nat} (hA : Agree s (namesN n).data.toList j' (d', a', b', k')) : RL s ps n w (five W R (wT n) d' a' b' k') R j' d' a' b' k' := by
  have hne : w.heap.size ≠ R := Nat.ne_of_lt h.rt.ne
  have hle : w.heap.size ≤ R := Nat.le_of_lt h.rt.ne
  have hlow : w.grownBy (five W R (wT n) d' a' b' k') none := grown_put (grown_put (grown_put (grown_put (grown_put h.rt.low hle) hle) hle) hle) hle
  refine ⟨⟨Holds5.five h.rt.box _ _ _ _ _, ?_, h.rt.ne, hlow⟩, h.ly, fun i hi => ?_, h.fr, hA⟩
  · exact ((((h.rt.res.other (p := ⟨R, 0, none⟩) hne _).other (p := ⟨R, 1, none⟩) hne _).other (p := ⟨R, 2, none⟩) hne _).other (p := ⟨R, 3, none⟩) hne _).other (p := ⟨R, 4, none⟩) hne _
  · have hf : ∀ (W : World) (o : Nat) (u : Value), (W.setCell ⟨R, o, none⟩ u).cell? ⟨w.heap.size + 1, i + 1, none⟩ = W.cell? ⟨w.heap.size + 1, i + 1, none⟩ := fun W o u => World.cell?_setCell_other _ _ _ _ (fun e => by
      have := congrArg Addr.block e
      have := h.fr
      simp at *)
    rw [five, hf, hf, hf, hf, hf]
    exact h.fld i hi
end
/-- The answer's box, and what was there. -/
structure RS (w W : World) : Prop where
  res : Holds5 W w.heap.size 24 #[.string ⟨#[]⟩, .int .i64 0, .int .i64 0, .int .i64 0, .int .i64 0]
  low : w.grownBy W none
theorem RS.start {w w1 : World} (hg : (w.alloc (.cells #[.string ⟨#[]⟩, .int .i64 0, .int .i64 0, .int .i64 0, .int .i64 0] 24)).grownBy w1 none) : RS w w1 :=
  ⟨(Holds5.fresh w 24 #[.string ⟨#[]⟩, .int .i64 0, .int .i64 0, .int .i64 0, .int .i64 0]).grown hg (by simp), grown_same (World.grownBy_alloc _ _ _) hg⟩
theorem RS.on {w W W' : World} (h : RS w W) (hg : W.grownBy W' none) : RS w W' := ⟨h.res.grown hg (by simp), grown_same h.low hg⟩
theorem RT.rs {w W : World} {R : Nat} {op : ByteArray} {d a b k : Int} (h : RT w W R op d a b k) : RS w W := ⟨h.res, h.low⟩
theorem RS.res5 {w W : World} (h : RS w W) : W.cell? ⟨w.heap.size, 0, none⟩ = some (.string ⟨#[]⟩) ∧ W.cell? ⟨w.heap.size, 1, none⟩ = some (.int .i64 0) ∧ W.cell? ⟨w.heap.size, 2, none⟩ = some (.int .i64 0) ∧ W.cell? ⟨w.heap.size, 3, none⟩ = some (.int .i64 0) ∧ W.cell? ⟨w.heap.size, 4, none⟩ = some (.int .i64 0) := by
  have q0 := h.res.look 0; have q1 := h.res.look 1; have q2 := h.res.look 2; have q3 := h.res.look 3; have q4 := h.res.look 4
  simp at q0 q1 q2 q3 q4
  exact ⟨q0, q1, q2, q3, q4⟩
theorem RS.finBox0 {w W : World} (h : RS w W) : Holds5 (five W w.heap.size ⟨#[]⟩ 0 0 0 0) w.heap.size 24 #[.string ⟨#[]⟩, .int .i64 0, .int .i64 0, .int .i64 0, .int .i64 0] := Holds5.five h.res _ _ _ _ _
theorem RS.finLow0 {w W : World} (h : RS w W) : w.grownBy (five W w.heap.size ⟨#[]⟩ 0 0 0 0) none :=
  grown_put (grown_put (grown_put (grown_put (grown_put h.low (Nat.le_refl _)) (Nat.le_refl _)) (Nat.le_refl _)) (Nat.le_refl _)) (Nat.le_refl _)
theorem trim_le (p : List UInt8) : (Lib.trimPrefix p [114]).length ≤ p.length := by
  unfold Lib.trimPrefix
  split
  · simp
  · exact Nat.le_refl _
theorem shown_valid {op s : List UInt8} {d a b k : Int} (h : showL op d a b k = s) (hne : s ≠ []) : vB op d a b k = true := by
  unfold showL at h
  split at h
  · assumption
  · exact absurd h.symm hne
end Go.Proofs.YtjbbmnmbcdohiaaDoor
