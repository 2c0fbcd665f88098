/- Walks of the laws' helpers over slices of numbers: compare, mark, test, copy, measure. Machines that the call makes: what a call leaves that makes one. A state's machine is a machine of memory of its own with the state's numbers. The laws' helpers over machines: compare, mark, test, measure, copy. -/
import Derived.Test.YtlmjbflnfpccdaaDoorW30
import Derived.BigRegion
import Derived.Laws.ResultCell
import Derived.Test.YtlmjbflnfpccdaaDoorW51
namespace Go.Proofs.YtlmjbflnfpccdaaDoor
open Go.RowKit
theorem info3 : (Tryd.prog.info? 3).map (fun i => (i.zero, i.size, i.bytes)) = some (some (.int .i64 0), 1, 8) := by kernel_rfl


theorem eqIntS_zero (A1 A2 : Option Addr) (c1 c2 : Nat) (w : World) :
    Calls Tryd.prog 16 #[.slice A1 0 c1, .slice A2 0 c2] w fun e w' => e = .returned (.bool true) ∧ ∃ m : Nat, w.drewN m = w' := by
  go_enter Tryd.func16, Tryd.ntmps16
  go_wp2
  refine wp_loop_rounds 1 ?_
  rw [rounds_succ]
  go_wp2
  go_ret
  exact ⟨rfl, 0, rfl⟩
set_option maxHeartbeats 1000000 in
theorem eqIntS_at (b1 o1 b2 o2 c1 c2 n : Nat) (f g : Nat → Int) (w : World) (hn : n ≤ 9223372036854775807) (h1 : Nums w (some ⟨b1, o1, none⟩) n f) (h2 : Nums w (some ⟨b2, o2, none⟩) n g) (he : ∀ j, j < n → f j = g j) :
    Calls Tryd.prog 16 #[.slice (some ⟨b1, o1, none⟩) n c1, .slice (some ⟨b2, o2, none⟩) n c2] w fun e w' => e = .returned (.bool true) ∧ ∃ m : Nat, w.drewN m = w' := by
  have H1 := shade h1
  have H2 := shade h2
  have HE := shade he
  clear h1 h2 he
  go_enter Tryd.func16, Tryd.ntmps16
  go_wp2
  go_loopw [5] (fun i wr => ∃ k m : Nat, k ≤ n ∧ i = .int .i64 k ∧ wr = w.drewN m) (fun i _ => n - (intOf i).toNat)
  case atStart => exact ⟨0, 0, Nat.zero_le _, rfl, rfl⟩
  case round =>
    obtain ⟨k, m, hk, rfl, rfl⟩ := hrel
    by_cases hkn : k < n
    · have q1 := H1.out.cell hkn
      have q2 := H2.out.cell hkn
      rw [HE.out k hkn] at q1
      go_wp2
      go_quiet (fail)
      go_wp2
      go_roundw
      case rel => exact ⟨k + 1, _, by omega, by go_num, rfl⟩
      case measure => simp [intOf]; omega
    · have hkn2 : k = n := by omega
      subst hkn2
      go_wp2
      go_ret
      exact ⟨rfl, m, rfl⟩
theorem eqIntS_any (A1 A2 : Option Addr) (c1 c2 n : Nat) (f g : Nat → Int) (w : World) (hn : n ≤ 9223372036854775807) (h1 : Nums w A1 n f) (h2 : Nums w A2 n g) (he : ∀ j, j < n → f j = g j) :
    Calls Tryd.prog 16 #[.slice A1 n c1, .slice A2 n c2] w fun e w' => e = .returned (.bool true) ∧ ∃ m : Nat, w.drewN m = w' := by
  by_cases h0 : n = 0
  · subst h0
    exact eqIntS_zero A1 A2 c1 c2 w
  · obtain ⟨b1, o1, rfl, _⟩ := h1.resolve_left h0
    obtain ⟨b2, o2, rfl, _⟩ := h2.resolve_left h0
    exact eqIntS_at b1 o1 b2 o2 c1 c2 n f g w hn h1 h2 he


theorem equalInts_zero (A1 A2 : Option Addr) (c1 c2 : Nat) (w : World) :
    Calls Tryd.prog 33 #[.slice A1 0 c1, .slice A2 0 c2] w fun e w' => e = .returned (.bool true) ∧ ∃ m : Nat, w.drewN m = w' := by
  go_enter Tryd.func33, Tryd.ntmps33
  go_wp2
  refine wp_loop_rounds 1 ?_
  rw [rounds_succ]
  go_wp2
  go_ret
  exact ⟨rfl, 0, rfl⟩
set_option maxHeartbeats 1000000 in
theorem equalInts_at (b1 o1 b2 o2 c1 c2 n : Nat) (f g : Nat → Int) (w : World) (hn : n ≤ 9223372036854775807) (h1 : Nums w (some ⟨b1, o1, none⟩) n f) (h2 : Nums w (some ⟨b2, o2, none⟩) n g) (he : ∀ j, j < n → f j = g j) :
    Calls Tryd.prog 33 #[.slice (some ⟨b1, o1, none⟩) n c1, .slice (some ⟨b2, o2, none⟩) n c2] w fun e w' => e = .returned (.bool true) ∧ ∃ m : Nat, w.drewN m = w' := by
  have H1 := shade h1
  have H2 := shade h2
  have HE := shade he
  clear h1 h2 he
  go_enter Tryd.func33, Tryd.ntmps33
  go_wp2
  go_loopw [5] (fun i wr => ∃ k m : Nat, k ≤ n ∧ i = .int .i64 k ∧ wr = w.drewN m) (fun i _ => n - (intOf i).toNat)
  case atStart => exact ⟨0, 0, Nat.zero_le _, rfl, rfl⟩
  case round =>
    obtain ⟨k, m, hk, rfl, rfl⟩ := hrel
    by_cases hkn : k < n
    · have q1 := H1.out.cell hkn
      have q2 := H2.out.cell hkn
      rw [HE.out k hkn] at q1
      go_wp2
      go_quiet (fail)
      go_wp2
      go_roundw
      case rel => exact ⟨k + 1, _, by omega, by go_num, rfl⟩
      case measure => simp [intOf]; omega
    · have hkn2 : k = n := by omega
      subst hkn2
      go_wp2
      go_ret
      exact ⟨rfl, m, rfl⟩
theorem equalInts_any (A1 A2 : Option Addr) (c1 c2 n : Nat) (f g : Nat → Int) (w : World) (hn : n ≤ 9223372036854775807) (h1 : Nums w A1 n f) (h2 : Nums w A2 n g) (he : ∀ j, j < n → f j = g j) :
    Calls Tryd.prog 33 #[.slice A1 n c1, .slice A2 n c2] w fun e w' => e = .returned (.bool true) ∧ ∃ m : Nat, w.drewN m = w' := by
  by_cases h0 : n = 0
  · subst h0
    exact equalInts_zero A1 A2 c1 c2 w
  · obtain ⟨b1, o1, rfl, _⟩ := h1.resolve_left h0
    obtain ⟨b2, o2, rfl, _⟩ := h2.resolve_left h0
    exact equalInts_at b1 o1 b2 o2 c1 c2 n f g w hn h1 h2 he


theorem markIntS_zero (A : Option Addr) (c : Nat) (m : Int) (w : World) :
    Calls Tryd.prog 21 #[.slice A 0 c, .int .i64 m] w fun e w' => e = .returned (.int .i64 m) ∧ w = w' := by
  go_enter Tryd.func21, Tryd.ntmps21
  go_wp2
  refine wp_loop_rounds 1 ?_
  rw [rounds_succ]
  go_wp2
  go_ret
  exact ⟨rfl, rfl⟩
set_option maxHeartbeats 1000000 in
theorem markIntS_at (B g n cap : Nat) (f : Nat → Int) (m : Int) (w : World) (hm0 : 0 ≤ m) (hm : m + n ≤ 9223372036854775807) (h : Own w B (some ⟨g, 0, none⟩) n cap f) :
    Calls Tryd.prog 21 #[.slice (some ⟨g, 0, none⟩) n cap, .int .i64 m] w fun e w' => e = .returned (.int .i64 (m + n)) ∧ Own w' B (some ⟨g, 0, none⟩) n cap (fun j => m + (j : Int)) ∧ w.grownBy w' (some g) := by
  have H := shade h
  clear h
  go_enter Tryd.func21, Tryd.ntmps21
  go_wp2
  go_loopw [1, 5] (fun q i wr => ∃ k : Nat, k ≤ n ∧ i = .int .i64 k ∧ q = .int .i64 (m + k) ∧ Own wr B (some ⟨g, 0, none⟩) n cap (fun j => if j < k then m + (j : Int) else f j) ∧ w.grownBy wr (some g)) (fun _ i _ => n - (intOf i).toNat)
  case atStart => exact ⟨0, Nat.zero_le _, rfl, by simp, H.out.congr (fun j _ => by rw [if_neg (by omega)]), grown_refl _ _⟩
  case round =>
    obtain ⟨k, hk, rfl, rfl, hown, hgr⟩ := hrel
    by_cases hkn : k < n
    · have q1 := hown.nums.cell hkn
      have q2 := World.ownsRow.frozenAt hown k
      rw [Nat.zero_add] at q1
      have HO := shade hown
      have HR := shade hgr
      clear hown hgr
      go_wp2
      go_roundw
      case rel =>
        have hs := World.ownsRow.stored HO.out k (.int .i64 (m + k))
        refine ⟨k + 1, by omega, by go_num, by go_num, ?_, grown_same HR.out hs.2⟩
        have h1 := hs.1
        rw [numL_set n _ (fun j => if j < k + 1 then m + (j : Int) else f j) k (m + k) (by simp) (fun j _ hne => by
          show (if j < k then _ else _) = (if j < k + 1 then _ else _)
          by_cases h : j < k
          · rw [if_pos h, if_pos (by omega)]
          · rw [if_neg h, if_neg (by omega)])] at h1
        exact h1
      case measure => simp [intOf]; omega
    · have hkn2 : k = n := by omega
      subst hkn2
      have HO := shade hown
      have HR := shade hgr
      clear hown hgr
      go_wp2
      go_ret
      exact ⟨rfl, HO.out.congr (fun j hj => by rw [if_pos hj]), HR.out⟩


theorem heldIntS_zero (A : Option Addr) (c : Nat) (m : Int) (w : World) :
    Calls Tryd.prog 22 #[.slice A 0 c, .int .i64 m] w fun e w' => e = .returned (.int .i64 m) ∧ w = w' := by
  go_enter Tryd.func22, Tryd.ntmps22
  go_wp2
  refine wp_loop_rounds 1 ?_
  rw [rounds_succ]
  go_wp2
  go_ret
  exact ⟨rfl, rfl⟩
set_option maxHeartbeats 1000000 in
theorem heldIntS_at (b off n cap : Nat) (m : Int) (w : World) (hm0 : 0 ≤ m) (hm : m + n ≤ 9223372036854775807) (h : Nums w (some ⟨b, off, none⟩) n (fun j => m + (j : Int))) :
    Calls Tryd.prog 22 #[.slice (some ⟨b, off, none⟩) n cap, .int .i64 m] w fun e w' => e = .returned (.int .i64 (m + n)) ∧ w = w' := by
  have H := shade h
  clear h
  go_enter Tryd.func22, Tryd.ntmps22
  go_wp2
  go_loop [1, 5] (fun q i => ∃ k : Nat, k ≤ n ∧ i = .int .i64 k ∧ q = .int .i64 (m + k)) (fun _ i => n - (intOf i).toNat)
  case atStart => exact ⟨0, Nat.zero_le _, rfl, by simp⟩
  case round =>
    obtain ⟨k, hk, rfl, rfl⟩ := hrel
    by_cases hkn : k < n
    · have q1 := H.out.cell hkn
      go_wp2
      go_round
      case rel => exact ⟨k + 1, by omega, by go_num, by go_num⟩
      case measure => simp [intOf]; omega
    · have hkn2 : k = n := by omega
      subst hkn2
      go_wp2
      go_ret
      exact ⟨rfl, rfl⟩
theorem heldIntS_any (A : Option Addr) (n cap : Nat) (m : Int) (w : World) (hm0 : 0 ≤ m) (hm : m + n ≤ 9223372036854775807) (h : Nums w A n (fun j => m + (j : Int))) :
    Calls Tryd.prog 22 #[.slice A n cap, .int .i64 m] w fun e w' => e = .returned (.int .i64 (m + n)) ∧ w = w' := by
  by_cases h0 : n = 0
  · subst h0
    exact (heldIntS_zero A cap m w).mono fun e w' h => ⟨by rw [h.1]; simp, h.2⟩
  · obtain ⟨b, off, rfl, _⟩ := h.resolve_left h0
    exact heldIntS_at b off n cap m w hm0 hm h


theorem made_zero (n : Nat) : (madeCells #[Value.int .i64 0] n).toList = numL n (fun _ => 0) := by
  rw [toList_madeCells_one]
  unfold numL
  rw [List.map_const', List.length_range]
end Go.Proofs.YtlmjbflnfpccdaaDoor
namespace Go.Proofs.YtlmjbflnfpccdaaDoor
open Go.RowKit
/-- A machine as a value. -/
abbrev MV (at' : Int) (A1 : Option Addr) (n1 c1 : Nat) (A2 : Option Addr) (n2 c2 : Nat) : Value := .agg #[.int .i64 at', .slice A1 n1 c1, .slice A2 n2 c2]
/-- What a call that makes a machine leaves. -/
def MachOk (w : World) (at' : Int) (n1 n2 : Nat) (f1 f2 : Nat → Int) (e : Ending) (w' : World) : Prop :=
  ∃ g1 c1 g2 c2, e = .returned (MV at' (some ⟨g1, 0, none⟩) n1 c1 (some ⟨g2, 0, none⟩) n2 c2) ∧ g1 ≠ g2 ∧ Own w' w.heap.size (some ⟨g1, 0, none⟩) n1 c1 f1 ∧ Own w' w.heap.size (some ⟨g2, 0, none⟩) n2 c2 f2 ∧ w.grownBy w' none

end Go.Proofs.YtlmjbflnfpccdaaDoor
namespace Go.Proofs.YtlmjbflnfpccdaaDoor
open Go.RowKit
/-- A state as a value. -/
abbrev SV (at' : Int) (f1 f2 : Nat → Int) : Value := .agg #[.int .i64 at', .int .i64 (f1 0), .int .i64 (f1 1), .int .i64 (f1 2), .int .i64 (f1 3), .int .i64 (f2 0), .int .i64 (f2 1), .int .i64 (f2 2), .int .i64 (f2 3), .int .i64 (f2 4), .int .i64 (f2 5), .int .i64 (f2 6), .int .i64 (f2 7)]
/-- What the region of 'machine' keeps: the state's numbers, and a block for the result. -/
structure MS (s r : Nat) (f1 f2 : Nat → Int) (w : World) : Prop where
  n1 : Nums w (some ⟨s, 1, none⟩) 4 f1
  n2 : Nums w (some ⟨s, 5, none⟩) 8 f2
  blk : ∃ x y z, Holds5 w r 78 #[x, y, z]
theorem MS.grown {s r : Nat} {f1 f2 : Nat → Int} {w w' : World} (h : MS s r f1 f2 w) (hg : w.grownBy w' none) : MS s r f1 f2 w' := by
  obtain ⟨x, y, z, hb⟩ := h.blk
  exact ⟨h.n1.grown hg (by intro _ _ _ e; cases e), h.n2.grown hg (by intro _ _ _ e; cases e), x, y, z, hb.grown hg (by intro e; cases e)⟩
theorem MS.put {s r : Nat} {f1 f2 : Nat → Int} {w : World} (h : MS s r f1 f2 w) (hne : s ≠ r) (x y z : Value) : MS s r f1 f2 (((w.setCell ⟨r, 0, none⟩ x).setCell ⟨r, 1, none⟩ y).setCell ⟨r, 2, none⟩ z) := by
  have hf : ∀ (w : World) (o : Nat) (u : Value), Nums w (some ⟨s, 1, none⟩) 4 f1 → Nums (w.setCell ⟨r, o, none⟩ u) (some ⟨s, 1, none⟩) 4 f1 := fun w o u h => h.grown (w' := w.setCell ⟨r, o, none⟩ u) (row := some r) ⟨rfl, rfl, rfl, by simp, fun k _ hk => heap_setCell_other w ⟨r, o, none⟩ k u (fun e => hk (by simp [e]))⟩ (by
    intro b off e1 e2
    injection e1 with e1
    injection e1 with e1
    injection e2 with e2
    omega)
  have hf' : ∀ (w : World) (o : Nat) (u : Value), Nums w (some ⟨s, 5, none⟩) 8 f2 → Nums (w.setCell ⟨r, o, none⟩ u) (some ⟨s, 5, none⟩) 8 f2 := fun w o u h => h.grown (w' := w.setCell ⟨r, o, none⟩ u) (row := some r) ⟨rfl, rfl, rfl, by simp, fun k _ hk => heap_setCell_other w ⟨r, o, none⟩ k u (fun e => hk (by simp [e]))⟩ (by
    intro b off e1 e2
    injection e1 with e1
    injection e1 with e1
    injection e2 with e2
    omega)
  obtain ⟨a, b, c, hb⟩ := h.blk
  refine ⟨hf _ _ _ (hf _ _ _ (hf _ _ _ h.n1)), hf' _ _ _ (hf' _ _ _ (hf' _ _ _ h.n2)), x, y, z, ?_⟩
  have := ((hb.put 0 x).put 1 y).put 2 z
  simpa using this
theorem MS.drew {s r : Nat} {f1 f2 : Nat → Int} {w : World} (h : MS s r f1 f2 w) : MS s r f1 f2 w.drew := ⟨h.n1, h.n2, h.blk⟩
theorem cell_drew {w : World} {a : Addr} {v : Value} (h : w.cell? a = some v) : w.drew.cell? a = some v := h
theorem Own.far {w : World} {B g n c r : Nat} {f : Nat → Int} (h : Own w B (some ⟨g, 0, none⟩) n c f) (hne : g ≠ r) (o : Nat) (u : Value) : Own (w.setCell ⟨r, o, none⟩ u) B (some ⟨g, 0, none⟩) n c f :=
  World.ownsRow.kept h (grown_set r o u) (.inr (by
    show some g ≠ some r
    simpa using hne))
theorem grown_put {a w : World} (h : a.grownBy w none) {r : Nat} (hr : a.heap.size ≤ r) (o : Nat) (u : Value) : a.grownBy (w.setCell ⟨r, o, none⟩ u) none := grown_then h (grown_set r o u) hr
theorem Own.on {w w' : World} {B g n c : Nat} {f : Nat → Int} (h : Own w B (some ⟨g, 0, none⟩) n c f) (hg : w.grownBy w' none) : Own w' B (some ⟨g, 0, none⟩) n c f :=
  World.ownsRow.kept h hg (.inr (by
    show some g ≠ none
    simp))
theorem state_nums {w : World} {s : Nat} {t : TypeId} {at' : Int} {f1 f2 : Nat → Int} (h : Holds5 w s t #[.int .i64 at', .int .i64 (f1 0), .int .i64 (f1 1), .int .i64 (f1 2), .int .i64 (f1 3), .int .i64 (f2 0), .int .i64 (f2 1), .int .i64 (f2 2), .int .i64 (f2 3), .int .i64 (f2 4), .int .i64 (f2 5), .int .i64 (f2 6), .int .i64 (f2 7)]) : Nums w (some ⟨s, 1, none⟩) 4 f1 ∧ Nums w (some ⟨s, 5, none⟩) 8 f2 := by
  refine ⟨.inr ⟨s, 1, rfl, h.inside, fun j hj => ?_⟩, .inr ⟨s, 5, rfl, h.inside, fun j hj => ?_⟩⟩
  · rw [h.look]
    match j, hj with
    | 0, _ => rfl
    | 1, _ => rfl
    | 2, _ => rfl
    | 3, _ => rfl
  · rw [h.look]
    match j, hj with
    | 0, _ => rfl
    | 1, _ => rfl
    | 2, _ => rfl
    | 3, _ => rfl
    | 4, _ => rfl
    | 5, _ => rfl
    | 6, _ => rfl
    | 7, _ => rfl
end Go.Proofs.YtlmjbflnfpccdaaDoor
namespace Go.Proofs.YtlmjbflnfpccdaaDoor
open Go.RowKit
/-- Only the blocks g1 and g2 may have changed. -/
structure But (w w' : World) (g1 g2 : Nat) : Prop where
  os : w'.os = w.os
  tape : w'.tape = w.tape
  output : w'.output = w.output
  size : w.heap.size ≤ w'.heap.size
  block : ∀ i, i < w.heap.size → i ≠ g1 → i ≠ g2 → w'.heap[i]? = w.heap[i]?
theorem But.of1 {w w' : World} {g1 : Nat} (g2 : Nat) (h : w.grownBy w' (some g1)) : But w w' g1 g2 := ⟨h.os, h.tape, h.output, h.size, fun i hi h1 _ => h.block i hi (by simpa using h1)⟩
theorem But.of2 {w w' : World} (g1 : Nat) {g2 : Nat} (h : w.grownBy w' (some g2)) : But w w' g1 g2 := ⟨h.os, h.tape, h.output, h.size, fun i hi _ h1 => h.block i hi (by simpa using h1)⟩
theorem But.of {w w' : World} (g1 g2 : Nat) (h : w.grownBy w' none) : But w w' g1 g2 := ⟨h.os, h.tape, h.output, h.size, fun i hi _ _ => h.block i hi (by simp)⟩
theorem But.trans {a b c : World} {g1 g2 : Nat} (h : But a b g1 g2) (h' : But b c g1 g2) : But a c g1 g2 :=
  ⟨h'.os.trans h.os, h'.tape.trans h.tape, h'.output.trans h.output, Nat.le_trans h.size h'.size, fun i hi h1 h2 => (h'.block i (Nat.lt_of_lt_of_le hi h.size) h1 h2).trans (h.block i hi h1 h2)⟩
theorem But.below {w w' : World} {g1 g2 B : Nat} (h : But w w' g1 g2) (h1 : B ≤ g1) (h2 : B ≤ g2) (hB : B ≤ w.heap.size) : Below B w w' := ⟨h.os, h.tape, h.output, h.size, fun i hi => h.block i (by omega) (by omega) (by omega)⟩
theorem But.holds {w w' : World} {g1 g2 g : Nat} {t : TypeId} {cs : Array Value} (h : But w w' g1 g2) (hh : Holds5 w g t cs) (h1 : g ≠ g1) (h2 : g ≠ g2) : Holds5 w' g t cs := (h.block g hh.inside h1 h2).trans hh
theorem But.nums {w w' : World} {g1 g2 : Nat} {A : Option Addr} {n : Nat} {f : Nat → Int} (h : But w w' g1 g2) (hh : Nums w A n f) (hne : ∀ b off, A = some ⟨b, off, none⟩ → b ≠ g1 ∧ b ≠ g2) : Nums w' A n f := by
  rcases hh with hh | ⟨b, off, hA, hlt, hc⟩
  · exact .inl hh
  · obtain ⟨n1, n2⟩ := hne b off hA
    exact .inr ⟨b, off, hA, Nat.lt_of_lt_of_le hlt h.size, fun j hj => (World.cell?_of_block (a := ⟨b, off + j, none⟩) (h.block b hlt n1 n2)).trans (hc j hj)⟩


/-- What a slice's block is: below the heap's size, if it has elements. -/
theorem Nums.ne {w : World} {A : Option Addr} {n : Nat} {f : Nat → Int} (h : Nums w A n f) (o : Obj) : Nums (w.alloc o) A n f := h.alloc o
end Go.Proofs.YtlmjbflnfpccdaaDoor