/- Rows of Booleans that come in: copied, opened. -/
import Derived.Test.YtfmcmndhghfoeaaZ32
import Derived.Test.YtfmcmndhghfoeaaRows
import Derived.WalkKit
import Derived.ProofKit
import Derived.OpenShut
import Derived.Carry
import Derived.ChangeSlices
import Derived.Deep.Grids
namespace Go.Proofs.Ytfmcmndhghfoeaa
open Go.ChangeShapes Go.WideShapes Go.ChangeAt Go.WideMaps Go.WideElems Go.RowKit
theorem own : ownKnob Try.prog.godebug = none := by kernel_rfl
theorem laidOut : laidOutB Try.prog = true := by kernel_rfl
theorem OwnB.on {w w' : World} {B g n cap : Nat} {f : Nat → Bool} (h : OwnB w B (some ⟨g, 0, none⟩) n cap f) (hg : w.grownBy w' none) : OwnB w' B (some ⟨g, 0, none⟩) n cap f := World.ownsRow.kept h hg (.inr (by
  show some g ≠ none
  simp))
set_option maxHeartbeats 1000000 in
theorem toBoolS_zero (A : Option Addr) (cap : Nat) (f : Nat → Bool) (w : World) :
    Calls Try.prog 29 #[.slice A 0 cap] w fun e w' => e = .returned (.slice (some ⟨w.heap.size, 0, none⟩) 0 0) ∧ OwnB w' w.heap.size (some ⟨w.heap.size, 0, none⟩) 0 0 f ∧ w.grownBy w' none := by
  obtain ⟨i0, hi, hz0, hz1, hz2⟩ := info_parts info4b
  go_enter Try.func29, Try.ntmps29
  go_wp2_with (first
    | (at_make; refine wpList_make_full _ rfl _ _ 23 rfl w.heap.size 4 i0 (.bool false) 1 Try.underlying23 hi hz0 hz1 .i64 .i64 0 0 0 rfl rfl rfl rfl (by omega) (by unfold maxLen; omega) (Nat.le_refl _) ?_)
    | go_in)
  intro w1 hown1 hgr1
  simp only [made_bools] at hown1
  have HO1 := shade hown1
  have HG1 := shade hgr1
  clear hown1 hgr1
  go_wp2
  refine wp_loop_rounds 1 ?_
  rw [rounds_succ]
  go_wp2
  go_ret
  exact ⟨rfl, OwnB.congr HO1.out (fun j hj => absurd hj (by omega)), HG1.out⟩
set_option maxHeartbeats 1000000 in
theorem toBoolS_at (b off n cap : Nat) (f : Nat → Bool) (w : World) (hn0 : 0 < n) (hn : n ≤ 1048576) (h : Bols w (some ⟨b, off, none⟩) n f) :
    Calls Try.prog 29 #[.slice (some ⟨b, off, none⟩) n cap] w fun e w' => e = .returned (.slice (some ⟨w.heap.size, 0, none⟩) n n) ∧ OwnB w' w.heap.size (some ⟨w.heap.size, 0, none⟩) n n f ∧ w.grownBy w' none := by
  have H := shade h
  have hlt : b < w.heap.size := by
    rcases h with h | ⟨b', off', hA, hb, _⟩
    · omega
    · injection hA with hA
      injection hA with e1 e2
      omega
  clear h
  obtain ⟨i0, hi, hz0, hz1, hz2⟩ := info_parts info4b
  go_enter Try.func29, Try.ntmps29
  go_wp2_with (first
    | (at_make; refine wpList_make_full _ rfl _ _ 23 rfl w.heap.size 4 i0 (.bool false) 1 Try.underlying23 hi hz0 hz1 .i64 .i64 n n n rfl rfl rfl rfl (by rw [hz2]; omega) (by unfold maxLen; omega) (Nat.le_refl _) ?_)
    | go_in)
  intro w1 hown1 hgr1
  simp only [made_bools] at hown1
  have HO1 := shade hown1
  have HG1 := shade hgr1
  clear hown1 hgr1
  go_wp2
  go_loopw [4] (fun i wr => ∃ k : Nat, k ≤ n ∧ i = .int .i64 k ∧ OwnB wr w.heap.size (some ⟨w.heap.size, 0, none⟩) n n (fun j => if j < k then f j else false) ∧ w.grownBy wr none) (fun i _ => n - (intOf i).toNat)
  case atStart => exact ⟨0, Nat.zero_le _, rfl, OwnB.congr HO1.out (fun j _ => by rw [if_neg (by omega)]), HG1.out⟩
  case round =>
    obtain ⟨k, hk, rfl, hown, hgr⟩ := hrel
    by_cases hkn : k < n
    · have q0 := (H.out.grown hgr (by intro _ _ _ e; cases e)).cell hkn
      have q1 := hown.bols.cell hkn
      have q2 := World.ownsRow.frozenAt hown k
      rw [Nat.zero_add] at q1
      have HO := shade hown
      have HR := shade hgr
      clear hown hgr
      go_wp2
      go_roundw
      case rel =>
        have hs := World.ownsRow.stored HO.out k (.bool (f k))
        refine ⟨k + 1, by omega, by go_num, ?_, grown_then HR.out hs.2 (Nat.le_refl _)⟩
        have h1 := hs.1
        rw [bolL_set n _ (fun j => if j < k + 1 then f j else false) k (f k) (by simp) (fun j _ hne => by
          show (if j < k then _ else _) = (if j < k + 1 then _ else _)
          by_cases h : j < k
          · rw [if_pos h, if_pos (by omega)]
          · rw [if_neg h, if_neg (by omega)])] at h1
        exact h1
      case measure => simp [intOf]; omega
    · have hkn2 : k = n := by omega
      subst hkn2
      have HO := shade hown
      have HR := shade hgr
      clear hown hgr
      go_wp2
      go_ret
      exact ⟨rfl, HO.out.congr (fun j hj => by rw [if_pos hj]), HR.out⟩


theorem toBoolS_any (A : Option Addr) (n cap : Nat) (f : Nat → Bool) (w : World) (hn : n ≤ 1048576) (h : Bols w A n f) :
    Calls Try.prog 29 #[.slice A n cap] w fun e w' => e = .returned (.slice (some ⟨w.heap.size, 0, none⟩) n n) ∧ OwnB w' w.heap.size (some ⟨w.heap.size, 0, none⟩) n n f ∧ w.grownBy w' none := by
  by_cases h0 : n = 0
  · subst h0
    exact toBoolS_zero A cap f w
  · obtain ⟨b, off, rfl, _⟩ := h.resolve_left h0
    exact toBoolS_at b off n cap f w (by omega) hn h


theorem open_bols {H : Type} {enc : TypeId × Value → H} {W : World} {r : Reach} {b0 : Nat} {v : Value} {dt : DataW H} {ps : List MemPlace}
    (hv : Value.okWide Try.prog W r b0 23 v) (h : DataW.Trod enc Try.prog W 0 (fun _ => true) true 23 v dt ps) :
    ∃ (A : Option Addr) (n c : Nat) (f : Nat → Bool), v = .slice A n c ∧ Bols W A n f ∧ n ≤ 9223372036854775807 := by
  obtain ⟨a1, len, cap, rfl⟩ := okWide_slice Try.underlying23 hv
  obtain ⟨fuel, hf⟩ := h
  rcases Go.Deep.open_bools Try.underlying23 Try.underlying4 (by kernel_rfl) hf with ⟨hcs, hx⟩ | ⟨a, len', cap', B, hcs, _, hl, hm, hx, hel⟩
  · simp [Value.cells] at hcs
    obtain ⟨rfl, rfl, rfl⟩ := hcs
    exact ⟨none, 0, 0, fun _ => false, rfl, .inl rfl, by omega⟩
  · simp [Value.cells] at hcs
    obtain ⟨rfl, rfl, rfl⟩ := hcs
    unfold maxLen at hm
    refine ⟨some a, len, cap, B, rfl, ?_, by omega⟩
    by_cases h0 : len = 0
    · exact .inl h0
    · obtain ⟨ab, ao, spot⟩ := a
      have c0 := hel 0 (by omega)
      have hspot : spot = none := by simpa [Addr.add] using World.cell?_spot c0
      subst hspot
      rw [Addr.add_lit] at c0
      refine .inr ⟨ab, ao, rfl, World.block_lt_of_cell? W _ c0, fun j hj => ?_⟩
      have := hel j (by omega)
      rwa [Addr.add_lit] at this
end Go.Proofs.Ytfmcmndhghfoeaa
