/- The model's readInstr: helpers. -/
import Derived.Test.YtjbbmnmbcdohiaaDoorW314
import Derived.Test.YtjbbmnmbcdohiaaDoorW51
namespace Go.Proofs.YtjbbmnmbcdohiaaDoor
open Go.RowKit
theorem row_cells {w : World} {lo : Nat} {v : Value} {xs : List (List UInt8)} (h : w.ownsRow lo 9 1 v xs.length (strL xs)) (hne : xs ≠ []) : ∃ g c, v = .slice (some ⟨g, 0, none⟩) xs.length c ∧ g < w.heap.size ∧ ∀ j (hj : j < xs.length), w.cell? ⟨g, j, none⟩ = some (.string (tx xs[j])) := by
  have hl : xs.length ≠ 0 := fun e => hne (List.length_eq_zero_iff.1 e)
  rcases h.2 with ⟨e, h0⟩ | ⟨g', c, cur, e, hb, hw, hrest⟩
  · exact absurd h0 hl
  · have hh := h
    subst e
    refine ⟨g', c, rfl, (World.ownsRow.lt hh g' rfl).2, fun j hj => ?_⟩
    rw [World.ownsRow.cellAt hh j (by omega), strL_get xs j hj]
theorem splitC_piece (c : UInt8) : ∀ (l : List UInt8) (p : List UInt8), p ∈ splitC c l → p.length ≤ l.length
  | [], p, h => by
    simp only [splitC, List.mem_singleton] at h
    subst h
    exact Nat.le_refl _
  | x :: l, p, h => by
    have hne := splitC_ne c l
    obtain ⟨q, qs, hq⟩ : ∃ q qs, splitC c l = q :: qs := List.exists_cons_of_ne_nil hne
    have ih := splitC_piece c l
    rw [hq] at ih
    unfold splitC at h
    rw [hq] at h
    split at h
    · rcases List.mem_cons.1 h with rfl | h
      · exact Nat.zero_le _
      · have := ih p h
        simp only [List.length_cons]
        omega
    · rcases List.mem_cons.1 h with rfl | h
      · have := ih q List.mem_cons_self
        simp only [List.headD_cons, List.length_cons]
        omega
      · have := ih p (List.mem_cons_of_mem _ h)
        simp only [List.length_cons]
        omega
theorem piece_le {c : UInt8} {s p : List UInt8} {ps : List (List UInt8)} (h : splitC c s = ps) (hp : p ∈ ps) (hl : s.length ≤ 1048576) : p.length ≤ 1048576 := by
  have := splitC_piece c s p (by rw [h]; exact hp)
  omega
/-- What readInstr gives. -/
def RIw (s : List UInt8) (w : World) (e : Ending) (w' : World) : Prop := ∃ op d a b k ok, e = .returned (.tuple #[IV op d a b k, .bool ok]) ∧ (ok = true → vB op.toList d a b k = true ∧ showL op.toList d a b k = s) ∧ (ok = false → NoI s) ∧ w.grownBy w' none
theorem HSP (s : List UInt8) (W : World) (hl : s.length ≤ 1048576) : Calls Tryd.prog 50 #[.string (tx s), .int .u8 32] W (StrRes (splitC 32 s) W) := splitAt_res 32 s W hl
theorem Agree.nextM {s p : List UInt8} {ps : List (List UInt8)} {n j : Nat} {td ta tb tk v : Int} (hA : Agree s (namesN n).data.toList j (td, ta, tb, tk)) (h : splitC 32 s = p :: ps) (hw : wordN p = n) (hj : j < ps.length) (hj' : j < (namesN n).data.toList.length)
    {ch : UInt8} (hch : (namesN n).data.toList[j] = ch) (hv : ∀ m, m < 256 → ps[j] = (if ch.toNat = 75 then [] else [114]) ++ nm m → v = m) : Agree s (namesN n).data.toList (j + 1) (wD td ch.toNat v, wA ta ch.toNat v, wB tb ch.toNat v, wK tk ch.toNat v) := fun op d a b k hv1 hs => by
  have e := hA op d a b k hv1 hs
  obtain ⟨m, hm, hx, hp⟩ := back_part h hw hj hj' hv1 hs
  have hvm : v = m := hv m hm (by rw [hp, hch, partB, ← hch, hx, Int.toNat_natCast])
  rw [List.take_succ_eq_append_getElem hj', told_snoc, ← e, hx, hvm, hch]
/-- Is it a word with two sides? -/
def twoB (p : List UInt8) : Bool := (p == [97, 100, 100]) || (p == [115, 117, 98]) || (p == [109, 117, 108]) || (p == [108, 116])
set_option maxHeartbeats 1000000 in
theorem twoSided_any (p : List UInt8) (w : World) : Calls Tryd.prog 65 #[.string (tx p)] w fun e w' => e = .returned (.bool (twoB p)) ∧ w = w' := by
  have ht := tx_toList p
  unfold twoB
  rcases h0 : p == [97, 100, 100] with _ | _ <;> rcases h1 : p == [115, 117, 98] with _ | _ <;> rcases h2 : p == [109, 117, 108] with _ | _ <;> rcases h3 : p == [108, 116] with _ | _
  all_goals
    go_enter Tryd.func65, Tryd.ntmps65
    go_wp2_with fail
    go_ret
    exact ⟨rfl, rfl⟩
theorem grown_put {a b : World} {r o : Nat} {u : Value} (h : a.grownBy b none) (hr : a.heap.size ≤ r) : a.grownBy (b.setCell ⟨r, o, none⟩ u) none := grown_then h (grown_set r o u) hr
/-- What stands in readInstr: the instruction in its box, the answer's box, and what was there. -/
structure RT (w W : World) (R : Nat) (op : ByteArray) (d a b k : Int) : Prop where
  box : Holds5 W R 24 #[.string op, .int .i64 d, .int .i64 a, .int .i64 b, .int .i64 k]
  res : Holds5 W w.heap.size 24 #[.string ⟨#[]⟩, .int .i64 0, .int .i64 0, .int .i64 0, .int .i64 0]
  ne : w.heap.size < R
  low : w.grownBy W none
section
variable {w W W' : World} {R : Nat} {op : ByteArray} {d a b k : Int}
theorem RT.on (h : RT w W R op d a b k) (hg : W.grownBy W' none) : RT w W' R op d a b k :=
  ⟨h.box.grown hg (by simp), h.res.grown hg (by simp), h.ne, grown_same h.low hg⟩
theorem RT.start {w1 : World} (op : ByteArray) (d a b k : Int) (hg : (w.alloc (.cells #[.string ⟨#[]⟩, .int .i64 0, .int .i64 0, .int .i64 0, .int .i64 0] 24)).grownBy w1 none) :
    RT w (w1.alloc (.cells #[.string op, .int .i64 d, .int .i64 a, .int .i64 b, .int .i64 k] 24)) w1.heap.size op d a b k := by
  have h0 := Holds5.fresh w 24 #[.string ⟨#[]⟩, .int .i64 0, .int .i64 0, .int .i64 0, .int .i64 0]
  have h1 := h0.grown hg (by simp)
  exact ⟨Holds5.fresh _ _ _, h1.alloc _, h1.inside, grown_same (grown_same (World.grownBy_alloc _ _ _) hg) (World.grownBy_alloc _ _ _)⟩
theorem RT.box5 (h : RT w W R op d a b k) : W.cell? ⟨R, 0, none⟩ = some (.string op) ∧ W.cell? ⟨R, 1, none⟩ = some (.int .i64 d) ∧ W.cell? ⟨R, 2, none⟩ = some (.int .i64 a) ∧ W.cell? ⟨R, 3, none⟩ = some (.int .i64 b) ∧ W.cell? ⟨R, 4, none⟩ = some (.int .i64 k) := by
  have q0 := h.box.look 0; have q1 := h.box.look 1; have q2 := h.box.look 2; have q3 := h.box.look 3; have q4 := h.box.look 4
  simp at q0 q1 q2 q3 q4
  exact ⟨q0, q1, q2, q3, q4⟩
theorem RT.res5 (h : RT w W R op d a b k) : W.cell? ⟨w.heap.size, 0, none⟩ = some (.string ⟨#[]⟩) ∧ W.cell? ⟨w.heap.size, 1, none⟩ = some (.int .i64 0) ∧ W.cell? ⟨w.heap.size, 2, none⟩ = some (.int .i64 0) ∧ W.cell? ⟨w.heap.size, 3, none⟩ = some (.int .i64 0) ∧ W.cell? ⟨w.heap.size, 4, none⟩ = some (.int .i64 0) := by
  have q0 := h.res.look 0; have q1 := h.res.look 1; have q2 := h.res.look 2; have q3 := h.res.look 3; have q4 := h.res.look 4
  simp at q0 q1 q2 q3 q4
  exact ⟨q0, q1, q2, q3, q4⟩
/-- The world behind the answer. -/
abbrev five (W : World) (R : Nat) (op : ByteArray) (d a b k : Int) : World := ((((W.setCell ⟨R, 0, none⟩ (.string op)).setCell ⟨R, 1, none⟩ (.int .i64 d)).setCell ⟨R, 2, none⟩ (.int .i64 a)).setCell ⟨R, 3, none⟩ (.int .i64 b)).setCell ⟨R, 4, none⟩ (.int .i64 k)
theorem RT.finBox (h : RT w W R op d a b k) : Holds5 (five W w.heap.size op d a b k) w.heap.size 24 #[.string op, .int .i64 d, .int .i64 a, .int .i64 b, .int .i64 k] := Holds5.five h.res _ _ _ _ _
theorem RT.finLow (h : RT w W R op d a b k) : w.grownBy (five W w.heap.size op d a b k) none :=
  grown_put (grown_put (grown_put (grown_put (grown_put h.low (Nat.le_refl _)) (Nat.le_refl _)) (Nat.le_refl _)) (Nat.le_refl _)) (Nat.le_refl _)
theorem RT.finBox0 (h : RT w W R op d a b k) (op' : ByteArray) (d' a' b' k' : Int) : Holds5 (five W w.heap.size op' d' a' b' k') w.heap.size 24 #[.string op', .int .i64 d', .int .i64 a', .int .i64 b', .int .i64 k'] := Holds5.five h.res _ _ _ _ _
theorem RT.finLow0 (h : RT w W R op d a b k) (op' : ByteArray) (d' a' b' k' : Int) : w.grownBy (five W w.heap.size op' d' a' b' k') none :=
  grown_put (grown_put (grown_put (grown_put (grown_put h.low (Nat.le_refl _)) (Nat.le_refl _)) (Nat.le_refl _)) (Nat.le_refl _)) (Nat.le_refl _)
theorem RT.five5 (h : RT w W R op d a b k) : (five W w.heap.size op d a b k).cell? ⟨R, 0, none⟩ = some (.string op) ∧ (five W w.heap.size op d a b k).cell? ⟨R, 1, none⟩ = some (.int .i64 d) ∧ (five W w.heap.size op d a b k).cell? ⟨R, 2, none⟩ = some (.int .i64 a) ∧ (five W w.heap.size op d a b k).cell? ⟨R, 3, none⟩ = some (.int .i64 b) ∧ (five W w.heap.size op d a b k).cell? ⟨R, 4, none⟩ = some (.int .i64 k) := by
  have hne : R ≠ w.heap.size := Nat.ne_of_gt h.ne
  have hb := ((((h.box.other (p := ⟨w.heap.size, 0, none⟩) hne (.string op)).other (p := ⟨w.heap.size, 1, none⟩) hne (.int .i64 d)).other (p := ⟨w.heap.size, 2, none⟩) hne (.int .i64 a)).other (p := ⟨w.heap.size, 3, none⟩) hne (.int .i64 b)).other (p := ⟨w.heap.size, 4, none⟩) hne (.int .i64 k)
  have q0 := hb.look 0; have q1 := hb.look 1; have q2 := hb.look 2; have q3 := hb.look 3; have q4 := hb.look 4
  simp at q0 q1 q2 q3 q4
  exact ⟨q0, q1, q2, q3, q4⟩
end
theorem splitC_back {c : UInt8} {s p : List UInt8} (h : splitC c s = [p]) : s = p := by
  have hn : c ∉ s := fun e => by
    have h1 := splitC_len c s
    rw [h] at h1
    have := List.count_pos_iff.2 e
    simp only [List.length_cons, List.length_nil] at h1
    omega
  rw [splitC_miss c s hn] at h
  exact (List.cons.inj h).1
theorem hlt_shown {s : List UInt8} (h : splitC 32 s = [[104, 108, 116]]) : vB (tx [104, 108, 116]).toList 0 0 0 0 = true ∧ showL (tx [104, 108, 116]).toList 0 0 0 0 = s := by
  rw [tx_toList, splitC_back h]
  decide +kernel
end Go.Proofs.YtjbbmnmbcdohiaaDoor
