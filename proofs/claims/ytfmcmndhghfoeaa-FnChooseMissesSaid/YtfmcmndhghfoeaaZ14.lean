/- What went before as the program begins with it. -/
import Derived.Test.YtfmcmndhghfoeaaZ13
import Derived.Laws.Tables
import Derived.Laws.Rows
import Derived.Deep.DeepCutAuto
namespace Go.Proofs.Ytfmcmndhghfoeaa
open Go.RowKit
theorem grown_set {W : World} (g o : Nat) (u : Value) : W.grownBy (W.setCell ⟨g, o, none⟩ u) (some g) :=
  ⟨rfl, rfl, rfl, by simp [World.setCell], fun i _ hn => Below.heap_setCell W ⟨g, o, none⟩ u i (fun e => hn (by rw [e]))⟩
theorem grown_setRow {a w : World} (h : a.grownBy w none) {r : Nat} (hr : a.heap.size ≤ r) (cs : Array Value) : a.grownBy (w.setRow r cs) none :=
  ⟨h.os, h.tape, h.output, by simpa using h.size, fun i hi hn => (setRow_other w r i cs (by omega)).trans (h.block i hi hn)⟩
theorem Holds5.setRow {w : World} {g : Nat} {t : TypeId} {old : Array Value} (h : Holds5 w g t old) (cs : Array Value) : Holds5 (w.setRow g cs) g t cs := setRow_heap w g old cs t (0, 0) h
theorem Holds5.rowOther {w : World} {g : Nat} {t : TypeId} {cs : Array Value} (h : Holds5 w g t cs) {r : Nat} (hr : g ≠ r) (cs' : Array Value) : Holds5 (w.setRow r cs') g t cs := (setRow_other w r g cs' hr).trans h
abbrev TLB : TypeId := 57
theorem lbA_size (s y : Int) (T G : Nat → Int) : (lbA s y T G).size = 34 := rfl
theorem lbA_all (s y : Int) (T G : Nat → Int) : (lbA s y T G).all (·.oneCell') = true := by simp [lbA, Value.oneCell']
theorem info_lb : (Try.prog.info? TLB).map (·.size) = some 34 := by kernel_rfl
set_option maxRecDepth 100000 in
set_option maxHeartbeats 4000000 in
theorem lookbackOf_any (s : Int) (w : World) :
    Calls Try.prog 44 #[.int .i64 s] w fun e w' => e = .returned (.agg (lbA s 0 (fun _ => 1) (fun _ => 3))) ∧ w.grownBy w' none := by
  have HC := shade (fun W => counterOf_any 2 1 3 (.inr (.inl ⟨rfl, rfl⟩)) W)
  go_enter Try.func44, Try.ntmps44
  go_upto_region 1 with (fail)
  have hB0 := Holds5.fresh w TLB (lbA 0 0 (fun _ => 0) (fun _ => 0))
  have hG0 := World.grownBy_alloc w (.cells (lbA 0 0 (fun _ => 0) (fun _ => 0)) TLB) none
  have hz0 := World.size_alloc w (.cells (lbA 0 0 (fun _ => 0) (fun _ => 0)) TLB)
  change Code.wp _ _ _ _ (w.alloc (.cells (lbA 0 0 (fun _ => 0) (fun _ => 0)) TLB))
  obtain ⟨w1, hw1⟩ : ∃ w1, w.alloc (.cells (lbA 0 0 (fun _ => 0) (fun _ => 0)) TLB) = w1 := ⟨_, rfl⟩
  rw [hw1] at hB0 hG0 hz0 ⊢
  clear hw1
  have HZ0 := shade hz0; have HB0 := shade hB0; have HG0 := shade hG0
  clear hz0 hB0 hG0
  go_upto_region 2 with (first
    | (refine wpList_store_row rfl _ _ _ rfl w1.heap.size (lbA s 0 (fun _ => 0) (fun _ => 0)) rfl rfl TLB (lbA 0 0 (fun _ => 0) (fun _ => 0)) (Holds5.fresh w1 TLB _) info_lb rfl (lbA_all _ _ _ _) ?_)
    | fail)
  change Code.wp _ _ _ _ ((w1.alloc (.cells (lbA 0 0 (fun _ => 0) (fun _ => 0)) TLB)).setRow w1.heap.size (lbA s 0 (fun _ => 0) (fun _ => 0)))
  have hz := HZ0.out
  have hG2 : w.grownBy ((w1.alloc (.cells (lbA 0 0 (fun _ => 0) (fun _ => 0)) TLB)).setRow w1.heap.size (lbA s 0 (fun _ => 0) (fun _ => 0))) none := grown_setRow (grown_same HG0.out (World.grownBy_alloc _ _ none)) (by omega) _
  have hB2 : Holds5 ((w1.alloc (.cells (lbA 0 0 (fun _ => 0) (fun _ => 0)) TLB)).setRow w1.heap.size (lbA s 0 (fun _ => 0) (fun _ => 0))) w1.heap.size TLB (lbA s 0 (fun _ => 0) (fun _ => 0)) := (Holds5.fresh w1 TLB _).setRow _
  have hA2 : Holds5 ((w1.alloc (.cells (lbA 0 0 (fun _ => 0) (fun _ => 0)) TLB)).setRow w1.heap.size (lbA s 0 (fun _ => 0) (fun _ => 0))) w.heap.size TLB (lbA 0 0 (fun _ => 0) (fun _ => 0)) := (HB0.out.alloc _).rowOther (by omega) _
  clear hz
  obtain ⟨w2, hw2⟩ : ∃ w2, (w1.alloc (.cells (lbA 0 0 (fun _ => 0) (fun _ => 0)) TLB)).setRow w1.heap.size (lbA s 0 (fun _ => 0) (fun _ => 0)) = w2 := ⟨_, rfl⟩
  rw [hw2] at hG2 hB2 hA2 ⊢
  have HG2 := shade hG2; have HB2 := shade hB2; have HA2 := shade hA2
  clear hw2 hG2 hB2 hA2 HG0 HB0
  obtain ⟨n1, hn1⟩ : ∃ n1, w1.heap.size = n1 := ⟨_, rfl⟩
  rw [hn1] at HB2 HZ0 ⊢
  clear hn1
  go_wp2_with fail
  go_loopw [4, 8] (fun q i wr => ∃ k : Nat, k ≤ 16 ∧ i = .int .i64 (k : Int) ∧ Holds5 wr n1 TLB (lbA s 0 (fun j => if j < k then 1 else 0) (fun j => if j < k then 3 else 0)) ∧ Holds5 wr w.heap.size TLB (lbA 0 0 (fun _ => 0) (fun _ => 0)) ∧ w.grownBy wr none) (fun _ i _ => 16 - (intOf i).toNat)
  case atStart => exact ⟨0, by omega, rfl, HB2.out, HA2.out, HG2.out⟩
  case round =>
    clear HB2 HA2 HG2
    obtain ⟨k, hk, rfl, hB, hA, hG⟩ := hrel
    have HB := shade hB; have HA := shade hA; have HG := shade hG
    clear hB hA hG
    by_cases hlt : k < 16
    · have i1 : (k : Int) < 16 := by omega
      have i2 : (0 : Int) ≤ (k : Int) := by omega
      go_wp2_with fail
      refine (HC.out _).mono ?_
      rintro e w3 ⟨rfl, hg, -⟩
      have hB3 := HB.out.grown hg (by intro e; cases e)
      have c0 := (hB3.look (2 + k * 2)).trans (lbA_at s 0 _ _ k hlt).1
      have c1 := (hB3.look (2 + k * 2 + 1)).trans (lbA_at s 0 _ _ k hlt).2
      have f0 := hB3.free (2 + k * 2)
      have f1 := hB3.free (2 + k * 2 + 1)
      have HB3 := shade hB3
      have HA3 := shade (HA.out.grown hg (by intro e; cases e))
      have HG3 := shade (grown_same HG.out hg)
      clear hg hB3
      go_wp2_with fail
      go_roundw
      case rel =>
        refine ⟨k + 1, by omega, by go_num, ?_, (HA3.out.other (by show w.heap.size ≠ n1; have := HZ0.out; omega) _).other (by show w.heap.size ≠ n1; have := HZ0.out; omega) _, ?_⟩
        · have h := (HB3.out.put (2 + k * 2) (.int .i64 1)).put (2 + k * 2 + 1) (.int .i64 3)
          rw [lbA_put _ _ _ _ k _ hlt, lbA_put1 _ _ _ _ k _ hlt] at h
          rw [lbA_congr s 0 (T' := up (fun j => if j < k then 1 else 0) k 1) (G' := up (fun j => if j < k then 3 else 0) k 3) (fun i _ => ?_) (fun i _ => ?_)]
          · exact h
          · unfold up
            by_cases h1 : i = k
            · rw [if_pos h1, if_pos (by omega)]
            · rw [if_neg h1]
              show _ = (if i < k then _ else _)
              by_cases h2 : i < k
              · rw [if_pos h2, if_pos (by omega)]
              · rw [if_neg h2, if_neg (by omega)]
          · unfold up
            by_cases h1 : i = k
            · rw [if_pos h1, if_pos (by omega)]
            · rw [if_neg h1]
              show _ = (if i < k then _ else _)
              by_cases h2 : i < k
              · rw [if_pos h2, if_pos (by omega)]
              · rw [if_neg h2, if_neg (by omega)]
        · exact grown_then (grown_then HG3.out (grown_set n1 _ _) (by have := HZ0.out; omega)) (grown_set n1 _ _) (by have := HZ0.out; omega)
      case measure => simp [intOf]; omega
    · obtain rfl : k = 16 := by omega
      have hBe : Holds5 wr n1 TLB (lbA s 0 (fun _ => 1) (fun _ => 3)) := by
        rw [lbA_congr s 0 (T' := fun j => if j < 16 then 1 else 0) (G' := fun j => if j < 16 then 3 else 0) (fun i hi => by rw [if_pos hi]) (fun i hi => by rw [if_pos hi])]
        exact HB.out
      have HBe := shade hBe
      clear hBe HB
      go_wp2_with (first
        | (refine wpList_load_row rfl _ _ rfl n1 rfl TLB (lbA s 0 (fun _ => 1) (fun _ => 3)) (0, 0) _ HBe.out Try.underlying57 rfl info_lb ?_)
        | (refine wpList_store_row rfl _ _ _ rfl w.heap.size (lbA s 0 (fun _ => 1) (fun _ => 3)) rfl rfl TLB (lbA 0 0 (fun _ => 0) (fun _ => 0)) HA.out info_lb rfl (lbA_all _ _ _ _) ?_)
        | fail)
      refine bodyPost_ret (results_cell_row rfl _ _ _ _ _ (0, 0) _ rfl (HA.out.setRow _) Try.underlying57 rfl info_lb) rfl ?_
      exact ⟨rfl, grown_setRow HG.out (Nat.le_refl _) _⟩
end Go.Proofs.Ytfmcmndhghfoeaa
