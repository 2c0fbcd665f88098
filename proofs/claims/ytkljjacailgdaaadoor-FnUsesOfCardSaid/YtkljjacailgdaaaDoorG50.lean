/- Slices of instructions: what it means that they can be read, or are the call's own; no condition. The laws' helpers over slices of instructions: measure, copy, compare, for every slice whose cells can be read. -/
import Derived.Test.YtkljjacailgdaaaDoorG30
import Derived.Test.YtkljjacailgdaaaDoorW25
namespace Go.Proofs.YtkljjacailgdaaaDoor
open Go.RowKit
/-- An instruction. -/
structure Ins where
  op : ByteArray
  d : Int
  a : Int
  b : Int
  k : Int
/-- Its cells. -/
def Ins.part (c : Ins) : Nat → Value
  | 0 => .string c.op
  | 1 => .int .i64 c.d
  | 2 => .int .i64 c.a
  | 3 => .int .i64 c.b
  | _ => .int .i64 c.k
/-- n instructions at an address can be read. -/
def Code (w : World) (A : Option Addr) (n : Nat) (f : Nat → Ins) : Prop :=
  n = 0 ∨ ∃ b off, A = some ⟨b, off, none⟩ ∧ b < w.heap.size ∧ ∀ j i, j < n → i < 5 → w.cell? ⟨b, off + j * 5 + i, none⟩ = some ((f j).part i)
/-- A row of values. -/
def rowL (m : Nat) (g : Nat → Value) : List Value := (List.range m).map g
theorem rowL_len (m : Nat) (g : Nat → Value) : (rowL m g).length = m := by simp [rowL]
theorem rowL_get (m : Nat) (g : Nat → Value) (j : Nat) (h : j < m) : (rowL m g)[j]? = some (g j) := by simp [rowL, h]
theorem rowL_congr (m : Nat) (f g : Nat → Value) (h : ∀ j, j < m → f j = g j) : rowL m f = rowL m g := by
  unfold rowL
  apply List.map_congr_left
  intro j hj
  exact h j (List.mem_range.1 hj)
theorem rowL_set (m : Nat) (f : Nat → Value) (k : Nat) (x : Value) : (rowL m f).set k x = rowL m (fun j => if j = k then x else f j) := by
  apply List.ext_getElem?
  intro i
  rw [List.getElem?_set]
  by_cases hi : i < m
  · rw [rowL_get m _ i hi, rowL_len, rowL_get m _ i hi]
    by_cases hik : k = i
    · subst hik
      rw [if_pos rfl, if_pos hi, if_pos rfl]
    · rw [if_neg hik, if_neg (fun e => hik e.symm)]
  · have e1 : (rowL m (fun j => if j = k then x else f j))[i]? = none := List.getElem?_eq_none (by rw [rowL_len]; omega)
    rw [e1, rowL_len]
    split
    · rename_i h1
      subst h1
      rw [if_neg hi]
    · exact List.getElem?_eq_none (by rw [rowL_len]; omega)
/-- The cells of n instructions. -/
def codeL (n : Nat) (f : Nat → Ins) : List Value := rowL (n * 5) (fun i => (f (i / 5)).part (i % 5))
/-- n instructions that the call owns. -/
abbrev OwnC (w : World) (B : Nat) (A : Option Addr) (n cap : Nat) (f : Nat → Ins) : Prop := w.ownsRow B 24 5 (.slice A n cap) n (codeL n f)
theorem codeL_len (n : Nat) (f : Nat → Ins) : (codeL n f).length = n * 5 := rowL_len _ _
theorem part5 (c : Ins) (i : Nat) (h : i < 5) : c.part i = match i with | 0 => .string c.op | 1 => .int .i64 c.d | 2 => .int .i64 c.a | 3 => .int .i64 c.b | _ => .int .i64 c.k := by
  match i, h with
  | 0, _ => rfl
  | 1, _ => rfl
  | 2, _ => rfl
  | 3, _ => rfl
  | 4, _ => rfl
theorem codeL_get (n : Nat) (f : Nat → Ins) (j i : Nat) (hj : j < n) (hi : i < 5) : (codeL n f)[j * 5 + i]? = some ((f j).part i) := by
  unfold codeL
  rw [rowL_get _ _ _ (by omega), show (j * 5 + i) / 5 = j by omega, show (j * 5 + i) % 5 = i by omega]
theorem codeL_set5 (n : Nat) (f : Nat → Ins) (k : Nat) (c : Ins) :
    (((((codeL n f).set (k * 5) (.string c.op)).set (k * 5 + 1) (.int .i64 c.d)).set (k * 5 + 2) (.int .i64 c.a)).set (k * 5 + 3) (.int .i64 c.b)).set (k * 5 + 4) (.int .i64 c.k) = codeL n (fun j => if j = k then c else f j) := by
  unfold codeL
  rw [rowL_set, rowL_set, rowL_set, rowL_set, rowL_set]
  apply rowL_congr
  intro i _
  show _ = (if i / 5 = k then c else f (i / 5)).part (i % 5)
  by_cases h : i / 5 = k
  · rw [if_pos h]
    rcases (show i % 5 = 0 ∨ i % 5 = 1 ∨ i % 5 = 2 ∨ i % 5 = 3 ∨ i % 5 = 4 by omega) with e | e | e | e | e
    · rw [e, if_neg (by omega), if_neg (by omega), if_neg (by omega), if_neg (by omega), if_pos (by omega)]
      rfl
    · rw [e, if_neg (by omega), if_neg (by omega), if_neg (by omega), if_pos (by omega)]
      rfl
    · rw [e, if_neg (by omega), if_neg (by omega), if_pos (by omega)]
      rfl
    · rw [e, if_neg (by omega), if_pos (by omega)]
      rfl
    · rw [e, if_pos (by omega)]
      rfl
  · rw [if_neg h, if_neg (by omega), if_neg (by omega), if_neg (by omega), if_neg (by omega), if_neg (by omega)]
theorem codeL_congr (n : Nat) (f g : Nat → Ins) (h : ∀ j, j < n → f j = g j) : codeL n f = codeL n g := by
  unfold codeL
  apply rowL_congr
  intro i hi
  rw [h (i / 5) (by omega)]
section
variable {w w' : World} {A : Option Addr} {B n cap : Nat} {f g : Nat → Ins}
theorem Code.congr (h : Code w A n f) (hf : ∀ j, j < n → f j = g j) : Code w A n g := by
  rcases h with h | ⟨b, off, hA, hb, hc⟩
  · exact .inl h
  · exact .inr ⟨b, off, hA, hb, fun j i hj hi => by rw [hc j i hj hi, hf j hj]⟩
theorem Code.alloc (h : Code w A n f) (o : Obj) : Code (w.alloc o) A n f := by
  rcases h with h | ⟨b, off, hA, hb, hc⟩
  · exact .inl h
  · exact .inr ⟨b, off, hA, by simp; omega, fun j i hj hi => (World.cell?_alloc_some w _ o (by rw [hc j i hj hi]; rfl)).trans (hc j i hj hi)⟩
theorem Code.grown {row : Option Nat} (h : Code w A n f) (hg : w.grownBy w' row) (hne : ∀ b off, A = some ⟨b, off, none⟩ → some b ≠ row) : Code w' A n f := by
  rcases h with h | ⟨b, off, hA, hlt, hc⟩
  · exact .inl h
  · exact .inr ⟨b, off, hA, Nat.lt_of_lt_of_le hlt hg.size, fun j i hj hi => hg.cell (hc j i hj hi) (hne b off hA)⟩
theorem Code.on (h : Code w A n f) (hg : w.grownBy w' none) : Code w' A n f := h.grown hg (by intro _ _ _ e; cases e)
theorem Code.cell (h : Code w (some ⟨B, cap, none⟩) n f) {j i : Nat} (hj : j < n) (hi : i < 5) : w.cell? ⟨B, cap + j * 5 + i, none⟩ = some ((f j).part i) := by
  rcases h with h | ⟨b, off, hA, hb, hc⟩
  · omega
  · injection hA with hA
    injection hA with h1 h2
    subst h1; subst h2
    exact hc j i hj hi
/-- The five cells of one instruction. -/
theorem Code.five (h : Code w (some ⟨B, cap, none⟩) n f) {j : Nat} (hj : j < n) : w.cell? ⟨B, cap + j * 5, none⟩ = some (.string (f j).op) ∧ w.cell? ⟨B, cap + j * 5 + 1, none⟩ = some (.int .i64 (f j).d) ∧ w.cell? ⟨B, cap + j * 5 + 2, none⟩ = some (.int .i64 (f j).a) ∧ w.cell? ⟨B, cap + j * 5 + 3, none⟩ = some (.int .i64 (f j).b) ∧ w.cell? ⟨B, cap + j * 5 + 4, none⟩ = some (.int .i64 (f j).k) :=
  ⟨h.cell hj (i := 0) (by omega), h.cell hj (i := 1) (by omega), h.cell hj (i := 2) (by omega), h.cell hj (i := 3) (by omega), h.cell hj (i := 4) (by omega)⟩
theorem OwnC.code {g : Nat} (h : OwnC w B (some ⟨g, 0, none⟩) n cap f) : Code w (some ⟨g, 0, none⟩) n f := by
  refine .inr ⟨g, 0, rfl, (World.ownsRow.lt h g rfl).2, fun j i hj hi => ?_⟩
  rw [Nat.zero_add, World.ownsRow.cellAt h (j * 5 + i) (by omega), codeL_get n f j i hj hi]
theorem OwnC.congr (h : OwnC w B A n cap f) (hf : ∀ j, j < n → f j = g j) : OwnC w B A n cap g := by
  unfold OwnC at h ⊢
  rw [← codeL_congr n f g hf]
  exact h
theorem OwnC.put {g : Nat} (h : OwnC w B (some ⟨g, 0, none⟩) n cap f) (k : Nat) (c : Ins) :
    OwnC (((((w.setCell ⟨g, k * 5, none⟩ (.string c.op)).setCell ⟨g, k * 5 + 1, none⟩ (.int .i64 c.d)).setCell ⟨g, k * 5 + 2, none⟩ (.int .i64 c.a)).setCell ⟨g, k * 5 + 3, none⟩ (.int .i64 c.b)).setCell ⟨g, k * 5 + 4, none⟩ (.int .i64 c.k)) B (some ⟨g, 0, none⟩) n cap (fun j => if j = k then c else f j) := by
  have h5 := (World.ownsRow.stored (World.ownsRow.stored (World.ownsRow.stored (World.ownsRow.stored (World.ownsRow.stored h (k * 5) (.string c.op)).1 (k * 5 + 1) (.int .i64 c.d)).1 (k * 5 + 2) (.int .i64 c.a)).1 (k * 5 + 3) (.int .i64 c.b)).1 (k * 5 + 4) (.int .i64 c.k)).1
  rw [codeL_set5] at h5
  exact h5
end
end Go.Proofs.YtkljjacailgdaaaDoor

namespace Go.Proofs.YtkljjacailgdaaaDoor
open Go.RowKit
theorem grown_set {w : World} (r o : Nat) (u : Value) : w.grownBy (w.setCell ⟨r, o, none⟩ u) (some r) := ⟨rfl, rfl, rfl, by simp, fun k _ hk => heap_setCell_other w ⟨r, o, none⟩ k u (fun e => hk (by simp [e]))⟩
theorem sz_zero (A : Option Addr) (c : Nat) (left : Int) (w : World) (h0 : 0 ≤ left) (h1 : left ≤ 1048576) :
    Calls Tryd.prog 32 #[.slice A 0 c, .int .i64 left] w fun e w' => e = .returned (.int .i64 left) ∧ w = w' := by
  go_enter Tryd.func32, Tryd.ntmps32
  go_wp2
  refine wp_loop_rounds 1 ?_
  rw [rounds_succ]
  go_wp2
  go_ret
  exact ⟨rfl, rfl⟩
theorem grown_alloc {a w : World} (h : a.grownBy w none) (o : Obj) : a.grownBy (w.alloc o) none := grown_same h (World.grownBy_alloc w o none)
/-- What measuring leaves: a number below 0, or one from which the length can be told. -/
def SzOk (n : Nat) (left : Int) (w : World) (e : Ending) (w' : World) : Prop := ∃ r : Int, e = .returned (.int .i64 r) ∧ (r < 0 ∨ (0 ≤ r ∧ r ≤ left - n)) ∧ w.grownBy w' none
set_option maxHeartbeats 2000000 in
theorem szInstrS_at (b off n c : Nat) (f : Nat → Ins) (left : Int) (w : World) (h0 : 0 ≤ left) (h1 : left ≤ 1048576) (hn : n ≤ 9223372036854775807) (hs : ∀ j, j < n → (f j).op.size ≤ 9223372036854775807) (h : Code w (some ⟨b, off, none⟩) n f) :
    Calls Tryd.prog 32 #[.slice (some ⟨b, off, none⟩) n c, .int .i64 left] w (SzOk n left w) := by
  by_cases hb : left - (n : Int) < 0
  · clear h hs
    go_enter Tryd.func32, Tryd.ntmps32
    go_wp2
    go_ret
    exact ⟨-1, rfl, .inl (by omega), World.grownBy.refl _ _⟩
  · have HC := shade h
    have HS := shade hs
    clear h hs
    have hb2 : 0 ≤ left - (n : Int) := by omega
    go_enter Tryd.func32, Tryd.ntmps32
    go_wp2
    go_loopw [1, 5] (fun x i wr => ∃ (k : Nat) (y : Int), k ≤ n ∧ i = .int .i64 k ∧ x = .int .i64 y ∧ (0 ≤ y ∧ y ≤ left - n) ∧ w.grownBy wr none) (fun _ i _ => n - (intOf i).toNat)
    case atStart => exact ⟨0, left - n, Nat.zero_le _, rfl, rfl, ⟨hb2, Int.le_refl _⟩, World.grownBy.refl _ _⟩
    case round =>
      obtain ⟨k, y, hk, rfl, rfl, ⟨y0, y1⟩, hg⟩ := hrel
      by_cases hkn : k < n
      · obtain ⟨q0, q1, q2, q3, q4⟩ := (HC.out.on hg).five hkn
        have hsz := HS.out k hkn
        have HG := shade hg
        clear hg
        generalize hc : f k = cc at *
        obtain ⟨op, d, a, b', kk⟩ := cc
        simp only [] at q0 q1 q2 q3 q4 hsz
        have HZ := shade (fun W => szInstr_any op d a b' kk y (by omega) (by omega) hsz W)
        clear hsz hc
        by_cases hbig : y - (op.size : Int) < 0
        · rw [if_pos hbig] at HZ
          go_wp2_with (first | (go_at_call 72; refine (HZ.out _).mono ?_; rintro e w' ⟨rfl, o1, rfl⟩))
          go_ret
          exact ⟨-1, rfl, .inl (by omega), grown_alloc HG.out _⟩
        · rw [if_neg hbig] at HZ
          have hp : 0 ≤ y - (op.size : Int) := by omega
          have hq : y - (op.size : Int) ≤ left - n := by omega
          generalize y - (op.size : Int) = y2 at *
          go_wp2_with (first | (go_at_call 72; refine (HZ.out _).mono ?_; rintro e w' ⟨rfl, o1, rfl⟩))
          go_roundw
          case rel => exact ⟨k + 1, y2, by omega, by go_num, rfl, ⟨hp, hq⟩, grown_alloc HG.out _⟩
          case measure => simp [intOf]; omega
      · have hkn2 : k = n := by omega
        subst hkn2
        have HG := shade hg
        clear hg
        go_wp2
        go_ret
        exact ⟨y, rfl, .inr ⟨y0, y1⟩, HG.out⟩
theorem szInstrS_any (A : Option Addr) (n c : Nat) (f : Nat → Ins) (left : Int) (w : World) (h0 : 0 ≤ left) (h1 : left ≤ 1048576) (hn : n ≤ 9223372036854775807) (hs : ∀ j, j < n → (f j).op.size ≤ 9223372036854775807) (h : Code w A n f) :
    Calls Tryd.prog 32 #[.slice A n c, .int .i64 left] w (SzOk n left w) := by
  by_cases hz : n = 0
  · subst hz
    exact (sz_zero A c left w h0 h1).mono fun e w' h => ⟨left, h.1, .inr ⟨h0, by omega⟩, h.2 ▸ World.grownBy.refl _ _⟩
  · obtain ⟨b, off, rfl, _⟩ := h.resolve_left hz
    exact szInstrS_at b off n c f left w h0 h1 hn hs h


theorem info24 : (Tryd.prog.info? 24).map (fun i => (i.zero, i.size, i.bytes)) = some (some (.agg #[.string ⟨#[]⟩, .int .i64 0, .int .i64 0, .int .i64 0, .int .i64 0]), 5, 48) := by kernel_rfl
/-- The instruction of noughts. -/
def zIns : Ins := ⟨⟨#[]⟩, 0, 0, 0, 0⟩
theorem made_ins (n : Nat) : (madeCells #[Value.string ⟨#[]⟩, .int .i64 0, .int .i64 0, .int .i64 0, .int .i64 0] (n * 5)).toList = codeL n (fun _ => zIns) := by
  unfold madeCells codeL rowL
  rw [Array.toList_map, Array.toList_range]
  apply List.map_congr_left
  intro i _
  show (#[Value.string ⟨#[]⟩, .int .i64 0, .int .i64 0, .int .i64 0, .int .i64 0])[i % 5]! = zIns.part (i % 5)
  rcases (show i % 5 = 0 ∨ i % 5 = 1 ∨ i % 5 = 2 ∨ i % 5 = 3 ∨ i % 5 = 4 by omega) with e | e | e | e | e <;> rw [e] <;> rfl
set_option maxHeartbeats 1000000 in
theorem toInstrS_zero (A : Option Addr) (cap : Nat) (f : Nat → Ins) (w : World) :
    Calls Tryd.prog 35 #[.slice A 0 cap] w fun e w' => e = .returned (.slice (some ⟨w.heap.size, 0, none⟩) 0 0) ∧ OwnC w' w.heap.size (some ⟨w.heap.size, 0, none⟩) 0 0 f ∧ w.grownBy w' none := by
  obtain ⟨i0, hi, hz0, hz1, hz2⟩ := info_parts info24
  go_enter Tryd.func35, Tryd.ntmps35
  go_wp2_with (first
    | (at_make; refine wpList_make_full _ rfl _ _ 36 rfl w.heap.size 24 i0 (.agg #[.string ⟨#[]⟩, .int .i64 0, .int .i64 0, .int .i64 0, .int .i64 0]) 5 Tryd.underlying36 hi hz0 hz1 .i64 .i64 0 0 0 rfl rfl rfl rfl (by omega) (by unfold maxLen; omega) (Nat.le_refl _) ?_)
    | go_in)
  intro w1 hown1 hgr1
  have hown2 : OwnC w1 w.heap.size (some ⟨w.heap.size, 0, none⟩) 0 0 f := by
    unfold OwnC
    rw [codeL_congr 0 f (fun _ => zIns) (fun j hj => absurd hj (by omega)), ← made_ins]
    exact hown1
  have HO1 := shade hown2
  have HG1 := shade hgr1
  clear hown1 hown2 hgr1
  go_wp2
  refine wp_loop_rounds 1 ?_
  rw [rounds_succ]
  go_wp2
  go_ret
  exact ⟨rfl, HO1.out, HG1.out⟩
set_option maxHeartbeats 4000000 in
theorem toInstrS_at (b off n cap : Nat) (f : Nat → Ins) (w : World) (hn0 : 0 < n) (hn : n ≤ 1048576) (h : Code w (some ⟨b, off, none⟩) n f) :
    Calls Tryd.prog 35 #[.slice (some ⟨b, off, none⟩) n cap] w fun e w' => e = .returned (.slice (some ⟨w.heap.size, 0, none⟩) n n) ∧ OwnC w' w.heap.size (some ⟨w.heap.size, 0, none⟩) n n f ∧ w.grownBy w' none := by
  have H := shade h
  clear h
  obtain ⟨i0, hi, hz0, hz1, hz2⟩ := info_parts info24
  go_enter Tryd.func35, Tryd.ntmps35
  go_wp2_with (first
    | (at_make; refine wpList_make_full _ rfl _ _ 36 rfl w.heap.size 24 i0 (.agg #[.string ⟨#[]⟩, .int .i64 0, .int .i64 0, .int .i64 0, .int .i64 0]) 5 Tryd.underlying36 hi hz0 hz1 .i64 .i64 n n n rfl rfl rfl rfl (by rw [hz2]; omega) (by unfold maxLen; omega) (Nat.le_refl _) ?_)
    | go_in)
  intro w1 hown1 hgr1
  have hown2 : OwnC w1 w.heap.size (some ⟨w.heap.size, 0, none⟩) n n (fun _ => zIns) := by
    unfold OwnC
    rw [← made_ins]
    exact hown1
  have HO1 := shade hown2
  have HG1 := shade hgr1
  clear hown1 hown2 hgr1
  go_wp2
  go_loopw [4] (fun i wr => ∃ k : Nat, k ≤ n ∧ i = .int .i64 k ∧ OwnC wr w.heap.size (some ⟨w.heap.size, 0, none⟩) n n (fun j => if j < k then f j else zIns) ∧ w.grownBy wr none) (fun i _ => n - (intOf i).toNat)
  case atStart => exact ⟨0, Nat.zero_le _, rfl, OwnC.congr HO1.out (fun j _ => by rw [if_neg (by omega)]), HG1.out⟩
  case round =>
    obtain ⟨k, hk, rfl, hown, hgr⟩ := hrel
    by_cases hkn : k < n
    · obtain ⟨q0, q1, q2, q3, q4⟩ := (H.out.on hgr).five hkn
      have HO := shade hown
      have HR := shade hgr
      clear hown hgr
      generalize hc : f k = cc at *
      obtain ⟨op, d, a, b', kk⟩ := cc
      simp only [] at q0 q1 q2 q3 q4
      have HC := shade hc
      clear hc
      go_wp2_with fail
      refine (toInstr_any _ _ _ _ _ _).mono ?_
      rintro e w2 ⟨rfl, hb⟩
      have hO2 : OwnC w2 w.heap.size (some ⟨w.heap.size, 0, none⟩) n n (fun j => if j < k then f j else zIns) := World.ownsRow.kept HO.out (grown_of_below hb) (.inr (by
        show some w.heap.size ≠ none
        simp))
      obtain ⟨p0, p1, p2, p3, p4⟩ := hO2.code.five hkn
      have t0 := World.ownsRow.frozenAt hO2 (k * 5); have t1 := World.ownsRow.frozenAt hO2 (k * 5 + 1); have t2 := World.ownsRow.frozenAt hO2 (k * 5 + 2); have t3 := World.ownsRow.frozenAt hO2 (k * 5 + 3); have t4 := World.ownsRow.frozenAt hO2 (k * 5 + 4)
      simp only [Nat.zero_add] at p0 p1 p2 p3 p4
      have HO2 := shade hO2
      have HR2 := shade (grown_same HR.out (grown_of_below hb))
      clear hb hO2 q0 q1 q2 q3 q4
      go_wp2_with fail
      go_roundw
      case rel =>
        refine ⟨k + 1, by omega, by go_num, (HO2.out.put k ⟨op, d, a, b', kk⟩).congr (fun j _ => ?_), grown_then (grown_then (grown_then (grown_then (grown_then HR2.out (grown_set _ _ _) (Nat.le_refl _)) (grown_set _ _ _) (Nat.le_refl _)) (grown_set _ _ _) (Nat.le_refl _)) (grown_set _ _ _) (Nat.le_refl _)) (grown_set _ _ _) (Nat.le_refl _)⟩
        show (if j = k then (⟨op, d, a, b', kk⟩ : Ins) else if j < k then f j else zIns) = (if j < k + 1 then f j else zIns)
        by_cases e : j = k
        · rw [if_pos e, if_pos (by omega), e, HC.out]
        · rw [if_neg e]
          by_cases h : j < k
          · rw [if_pos h, if_pos (by omega)]
          · rw [if_neg h, if_neg (by omega)]
      case measure => simp [intOf]; omega
    · have hkn2 : k = n := by omega
      subst hkn2
      have HO := shade hown
      have HR := shade hgr
      clear hown hgr
      go_wp2
      go_ret
      exact ⟨rfl, HO.out.congr (fun j hj => by rw [if_pos hj]), HR.out⟩
theorem toInstrS_any (A : Option Addr) (n cap : Nat) (f : Nat → Ins) (w : World) (hn : n ≤ 1048576) (h : Code w A n f) :
    Calls Tryd.prog 35 #[.slice A n cap] w fun e w' => e = .returned (.slice (some ⟨w.heap.size, 0, none⟩) n n) ∧ OwnC w' w.heap.size (some ⟨w.heap.size, 0, none⟩) n n f ∧ w.grownBy w' none := by
  by_cases h0 : n = 0
  · subst h0
    exact toInstrS_zero A cap f w
  · obtain ⟨b, off, rfl, _⟩ := h.resolve_left h0
    exact toInstrS_at b off n cap f w (by omega) hn h


theorem eqInstrS_zero (A1 A2 : Option Addr) (c1 c2 : Nat) (w : World) :
    Calls Tryd.prog 38 #[.slice A1 0 c1, .slice A2 0 c2] w fun e w' => e = .returned (.bool true) ∧ w.grownBy w' none := by
  go_enter Tryd.func38, Tryd.ntmps38
  go_wp2
  refine wp_loop_rounds 1 ?_
  rw [rounds_succ]
  go_wp2
  go_ret
  exact ⟨rfl, World.grownBy.refl _ _⟩
theorem grown_drew1 (w : World) : w.grownBy w.drew none := ⟨rfl, rfl, rfl, Nat.le_refl _, fun _ _ _ => rfl⟩
set_option maxHeartbeats 4000000 in
theorem eqInstrS_at (b1 o1 b2 o2 c1 c2 n : Nat) (f : Nat → Ins) (w : World) (hn : n ≤ 9223372036854775807) (h1 : Code w (some ⟨b1, o1, none⟩) n f) (h2 : Code w (some ⟨b2, o2, none⟩) n f) :
    Calls Tryd.prog 38 #[.slice (some ⟨b1, o1, none⟩) n c1, .slice (some ⟨b2, o2, none⟩) n c2] w fun e w' => e = .returned (.bool true) ∧ w.grownBy w' none := by
  have H1 := shade h1
  have H2 := shade h2
  clear h1 h2
  go_enter Tryd.func38, Tryd.ntmps38
  go_wp2
  go_loopw [5] (fun i wr => ∃ k : Nat, k ≤ n ∧ i = .int .i64 k ∧ w.grownBy wr none) (fun i _ => n - (intOf i).toNat)
  case atStart => exact ⟨0, Nat.zero_le _, rfl, World.grownBy.refl _ _⟩
  case round =>
    obtain ⟨k, hk, rfl, hg⟩ := hrel
    by_cases hkn : k < n
    · have hgd := grown_same hg (grown_drew1 wr)
      have p := (H1.out.on hgd).five hkn
      have q := (H2.out.on hgd).five hkn
      have HG := shade hgd
      clear hg hgd
      generalize f k = cc at *
      obtain ⟨op, d, a, b', kk⟩ := cc
      simp only [] at p q
      have S0 := shade (And.intro p q)
      clear p q
      go_wp2_with fail
      go_region_held3 (fun w' => (w'.cell? ⟨b1, o1 + k * 5, none⟩ = some (.string op) ∧ w'.cell? ⟨b1, o1 + k * 5 + 1, none⟩ = some (.int .i64 d) ∧ w'.cell? ⟨b1, o1 + k * 5 + 2, none⟩ = some (.int .i64 a) ∧ w'.cell? ⟨b1, o1 + k * 5 + 3, none⟩ = some (.int .i64 b') ∧ w'.cell? ⟨b1, o1 + k * 5 + 4, none⟩ = some (.int .i64 kk)) ∧ (w'.cell? ⟨b2, o2 + k * 5, none⟩ = some (.string op) ∧ w'.cell? ⟨b2, o2 + k * 5 + 1, none⟩ = some (.int .i64 d) ∧ w'.cell? ⟨b2, o2 + k * 5 + 2, none⟩ = some (.int .i64 a) ∧ w'.cell? ⟨b2, o2 + k * 5 + 3, none⟩ = some (.int .i64 b') ∧ w'.cell? ⟨b2, o2 + k * 5 + 4, none⟩ = some (.int .i64 kk))) (first | exact S0.out | exact S1.out)
        ((go_at_call 78; refine (eqInstr_same op d a b' kk _).mono ?_; rintro e w2 ⟨rfl, ob1, ob2, hw2⟩; have hgr := grown_same (World.grownBy_alloc wr.drew ob1 none) (World.grownBy_alloc _ ob2 none); rw [hw2] at hgr; have S1 := shade (And.intro (And.intro (hgr.cell S0.out.1.1 (by simp)) (And.intro (hgr.cell S0.out.1.2.1 (by simp)) (And.intro (hgr.cell S0.out.1.2.2.1 (by simp)) (And.intro (hgr.cell S0.out.1.2.2.2.1 (by simp)) (hgr.cell S0.out.1.2.2.2.2 (by simp)))))) (And.intro (hgr.cell S0.out.2.1 (by simp)) (And.intro (hgr.cell S0.out.2.2.1 (by simp)) (And.intro (hgr.cell S0.out.2.2.2.1 (by simp)) (And.intro (hgr.cell S0.out.2.2.2.2.1 (by simp)) (hgr.cell S0.out.2.2.2.2.2 (by simp))))))); have HG2 := shade (grown_same HG.out hgr); clear hgr hw2))
      rename_i hHeld
      clear hHeld
      go_wp2_with fail
      go_roundw
      case rel => exact ⟨k + 1, by omega, by go_num, HG2.out⟩
      case measure => simp [intOf]; omega
    · have hkn2 : k = n := by omega
      subst hkn2
      have HG := shade hg
      clear hg
      go_wp2
      go_ret
      exact ⟨rfl, HG.out⟩
theorem eqInstrS_any (A1 A2 : Option Addr) (c1 c2 n : Nat) (f : Nat → Ins) (w : World) (hn : n ≤ 9223372036854775807) (h1 : Code w A1 n f) (h2 : Code w A2 n f) :
    Calls Tryd.prog 38 #[.slice A1 n c1, .slice A2 n c2] w fun e w' => e = .returned (.bool true) ∧ w.grownBy w' none := by
  by_cases h0 : n = 0
  · subst h0
    exact eqInstrS_zero A1 A2 c1 c2 w
  · obtain ⟨b1, o1, rfl, _⟩ := h1.resolve_left h0
    obtain ⟨b2, o2, rfl, _⟩ := h2.resolve_left h0
    exact eqInstrS_at b1 o1 b2 o2 c1 c2 n f w hn h1 h2

end Go.Proofs.YtkljjacailgdaaaDoor
