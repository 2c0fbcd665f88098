/- The numbers that are needed: plain facts. -/
import Derived.Test.YtfckmechiochlaaDoorW840
namespace Go.Proofs.YtfckmechiochlaaDoor
open Go.RowKit
set_option linter.unusedSimpArgs false
/-- What is needed behind those that are not yet done, when d are done from the last one on. -/
def lvl (F : Nat → Wid) (x n : Nat) : Nat → Nat
  | 0 => x
  | d + 1 => lvl F x n d % 2 ^ (n - 1 - d) ||| tk (F (n - 1 - d))
/-- What is needed behind an index. -/
def rowW (F : Nat → Wid) (x n i : Nat) : Nat := lvl F x n (n - 1 - i) ||| 2 ^ i
theorem lvl_lt {F : Nat → Wid} {x n : Nat} (hv : ∀ j, j < n → okW j (F j) = true) (hx : x < 2 ^ n) : ∀ d, d ≤ n → lvl F x n d < 2 ^ (n - d)
  | 0, _ => hx
  | d + 1, h => by
    have h1 : n - (d + 1) = n - 1 - d := by omega
    rw [h1]
    exact Nat.or_lt_two_pow (Nat.mod_lt _ (Nat.two_pow_pos _)) (tk_lt _ _ (hv _ (by omega)))
theorem lvl_at {F : Nat → Wid} {x n : Nat} (hv : ∀ j, j < n → okW j (F j) = true) (hx : x < 2 ^ n) (i : Nat) (hi : i < n) : lvl F x n (n - 1 - i) < 2 ^ (i + 1) := by
  have := lvl_lt hv hx (n - 1 - i) (by omega)
  rwa [show n - (n - 1 - i) = i + 1 by omega] at this
theorem rowW_lt {F : Nat → Wid} {x n : Nat} (hv : ∀ j, j < n → okW j (F j) = true) (hx : x < 2 ^ n) (i : Nat) (hi : i < n) : rowW F x n i < 2 ^ (i + 1) :=
  Nat.or_lt_two_pow (lvl_at hv hx i hi) (pow_lt (by omega))
theorem lvl_step (F : Nat → Wid) (x n i : Nat) (hi : i < n) : lvl F x n (n - i) = lvl F x n (n - 1 - i) % 2 ^ i ||| tk (F i) := by
  have h1 : n - i = (n - 1 - i) + 1 := by omega
  rw [h1]
  show lvl F x n (n - 1 - i) % 2 ^ (n - 1 - (n - 1 - i)) ||| tk (F (n - 1 - (n - 1 - i))) = _
  rw [show n - 1 - (n - 1 - i) = i by omega]
/-- Is the set one of n numbers? -/
def ktB (n : Nat) (x : Int) : Bool := decide (0 ≤ x) && decide (x < ((2 ^ n : Nat) : Int))
/-- Are the arguments valid? -/
def vkB (n : Nat) (F : Nat → Wid) (x : Int) : Bool := vwB n F && ktB n x
theorem vkB_iff {n : Nat} {F : Nat → Wid} {x : Int} : vkB n F x = true ↔ vwB n F = true ∧ ∃ y : Nat, x = (y : Int) ∧ y < 2 ^ n := by
  unfold vkB ktB
  rw [Bool.and_eq_true, Bool.and_eq_true, decide_eq_true_iff, decide_eq_true_iff]
  constructor
  · rintro ⟨h, h0, h1⟩
    exact ⟨h, x.toNat, by omega, by omega⟩
  · rintro ⟨h, y, rfl, hy⟩
    exact ⟨h, by omega, by omega⟩
theorem pow8 {n : Nat} (hn : n ≤ 8) : 2 ^ n ≤ 256 := Nat.pow_le_pow_right (by omega) hn
theorem sets_without_nat : ∀ s : Fin 256, ∀ i : Fin 8, s.val < 2 ^ (i.val + 1) → bits .andNot .i64 (s.val : Int) ((2 ^ i.val : Nat) : Int) = ((s.val % 2 ^ i.val : Nat) : Int) := by decide +kernel
theorem or63 (a b : Nat) (ha : a < 256) (hb : b < 256) : bits .or .i64 (a : Int) (b : Int) = ((a ||| b : Nat) : Int) := or_nat a b (by omega) (by omega)
theorem and63 (a b : Nat) (ha : a < 256) (hb : b < 256) : bits .and .i64 (a : Int) (b : Int) = ((a &&& b : Nat) : Int) := and_nat a b (by omega) (by omega)
theorem reads_any (op : ByteArray) (w : World) : Calls Tryd.prog 104 #[.string op] w fun e w' => e = .returned (.int .i64 (if wordN op.toList = 0 then 0 else 2)) ∧ w = w' := by
  have h0 := word0 op.toList
  by_cases e0 : wordN op.toList = 0
  · have e1 := h0.2 e0
    rw [if_pos e0]
    clear h0 e0
    go_enter Tryd.func104, Tryd.ntmps104
    go_wp2
    go_ret
    exact ⟨rfl, rfl⟩
  · have e1 : (op.toList == [115, 101, 116]) = false := by
      rw [Bool.eq_false_iff]
      exact fun h => e0 (h0.1 h)
    rw [if_neg e0]
    clear h0 e0
    go_enter Tryd.func104, Tryd.ntmps104
    go_wp2
    go_ret
    exact ⟨rfl, rfl⟩
/-- A row of sets that a call has made, in block g. -/
structure SetR (w wr : World) (e : TypeId) (g n c : Nat) (f : Nat → Nat) : Prop where
  own : wr.ownsRow w.heap.size e 1 (.slice (some ⟨g, 0, none⟩) n c) n (numL n (fun j => (f j : Int)))
  low : w.grownBy wr none
section
variable {w wr w2 : World} {e : TypeId} {g n c : Nat} {f : Nat → Nat}
theorem SetR.on (h : SetR w wr e g n c f) (hg : wr.grownBy w2 none) : SetR w w2 e g n c f := ⟨World.ownsRow.kept h.own hg (.inr (by
  show some g ≠ none
  simp)), grown_same h.low hg⟩
theorem SetR.blk (h : SetR w wr e g n c f) : w.heap.size ≤ g ∧ g < wr.heap.size := World.ownsRow.lt h.own g rfl
theorem SetR.set (h : SetR w wr e g n c f) (k x : Nat) : SetR w (wr.setCell ⟨g, k, none⟩ (.int .i64 (x : Int))) e g n c (fun j => if j = k then x else f j) := ⟨by
  have h1 := (World.ownsRow.stored h.own k (.int .i64 (x : Int))).1
  rw [numL_set n _ (fun j => (((if j = k then x else f j : Nat)) : Int)) k x (by simp) (fun j _ hne => by
    show _ = (((if j = k then _ else _ : Nat)) : Int)
    rw [if_neg hne])] at h1
  exact h1, grown_then h.low (grown_set g k _) h.blk.1⟩
theorem SetR.congr {f' : Nat → Nat} (h : SetR w wr e g n c f) (hf : ∀ j, j < n → f j = f' j) : SetR w wr e g n c f' := ⟨by
  have := h.own
  rwa [numL_congr n _ (fun j => (f' j : Int)) (fun j hj => by rw [hf j hj])] at this, h.low⟩
theorem SetR.cell (h : SetR w wr e g n c f) (k : Nat) (hk : k < n) : wr.cell? ⟨g, k, none⟩ = some (.int .i64 (f k : Int)) := by
  rw [World.ownsRow.cellAt h.own k (by omega)]
  exact numL_get n _ k hk
theorem SetR.free (h : SetR w wr e g n c f) (k : Nat) : wr.frozen? ⟨g, k, none⟩ = false := World.ownsRow.frozenAt h.own k
theorem SetR.other (h : SetR w wr e g n c f) {r o : Nat} (hr : w.heap.size ≤ r) (hg : r ≠ g) (u : Value) : SetR w (wr.setCell ⟨r, o, none⟩ u) e g n c f :=
  ⟨World.ownsRow.kept h.own (grown_set r o u) (.inr (by
    show some g ≠ some r
    simp
    exact fun e => hg e.symm)), grown_then h.low (grown_set r o u) hr⟩
end
end Go.Proofs.YtfckmechiochlaaDoor
