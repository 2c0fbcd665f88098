/- PastMisses and ChooseMisses of the program. -/
import Derived.Test.YtfmcmndhghfoeaaZ20
import Derived.Deep.WholeRow
namespace Go.Proofs.Ytfmcmndhghfoeaa
open Go.RowKit Go.Shelf
theorem mayB_any (AJ : Option Addr) (m cj : Nat) (s : Int) (w : World) :
    Calls Try.prog 43 #[.slice AJ m cj, .int .i64 s] w fun e w' => e = .returned (.bool (decide (m ≤ 300 ∧ 0 ≤ s ∧ s ≤ 4))) ∧ w = w' := by
  rcases (show 300 < m ∨ m ≤ 300 ∧ s < 0 ∨ m ≤ 300 ∧ 0 ≤ s ∧ 4 < s ∨ m ≤ 300 ∧ 0 ≤ s ∧ s ≤ 4 by omega) with h | ⟨h, h1⟩ | ⟨h, h1, h2⟩ | ⟨h, h1, h2⟩
  · rw [decide_eq_false (by omega)]
    have i1 : ¬ (m : Int) ≤ 300 := by omega
    go_enter Try.func43, Try.ntmps43
    go_wp2
    go_ret
    exact ⟨by simp, rfl⟩
  · rw [decide_eq_false (by omega)]
    have i1 : (m : Int) ≤ 300 := by omega
    have i2 : ¬ (0 : Int) ≤ s := by omega
    go_enter Try.func43, Try.ntmps43
    go_wp2
    go_ret
    exact ⟨by simp, rfl⟩
  · rw [decide_eq_false (by omega)]
    have i1 : (m : Int) ≤ 300 := by omega
    have i2 : ¬ s ≤ 4 := by omega
    go_enter Try.func43, Try.ntmps43
    go_wp2
    go_ret
    exact ⟨by simp, rfl⟩
  · rw [decide_eq_true (by omega)]
    have i1 : (m : Int) ≤ 300 := by omega
    go_enter Try.func43, Try.ntmps43
    go_wp2
    go_ret
    exact ⟨by simp, rfl⟩
theorem LB.zero {w : World} {g s : Nat} (J : Nat → Bool) (h : Holds5 w g TLB (lbA (s : Int) 0 (fun _ => 1) (fun _ => 3))) : LB w g s J 0 := h
set_option maxRecDepth 100000 in
set_option maxHeartbeats 4000000 in
theorem IPast_in (AJ : Option Addr) (m cj : Nat) (J : Nat → Bool) (s : Nat) (w : World) (hj : Bols w AJ m J) (hm : m ≤ 300) (hs : s ≤ 4) :
    Calls Try.prog 21 #[.slice AJ m cj, .int .i64 (s : Int)] w fun e w' => e = .returned (.int .i64 (msB J (pg s J) m : Int)) ∧ w.grownBy w' none := by
  have HM := shade (mayB_any AJ m cj (s : Int) w)
  rw [decide_eq_true (by omega)] at HM
  have HL := shade (lookbackOf_any (s : Int) w)
  have H := shade hj
  clear hj
  go_enter Try.func21, Try.ntmps21
  go_wp2_with fail
  refine HM.out.mono ?_
  rintro e w0 ⟨rfl, rfl⟩
  go_wp2_with fail
  refine HL.out.mono ?_
  rintro e w1 ⟨rfl, hg1⟩
  have HG1 := shade hg1
  have l1 := hg1.size
  clear hg1
  go_upto_region 4 with (first
    | (refine wpList_store_row rfl _ _ _ rfl w1.heap.size (lbA (s : Int) 0 (fun _ => 1) (fun _ => 3)) rfl rfl TLB (lbA 0 0 (fun _ => 0) (fun _ => 0)) (Holds5.fresh w1 TLB _) info_lb rfl (lbA_all _ _ _ _) ?_)
    | fail)
  change Code.wp _ _ _ _ ((w1.alloc (.cells (lbA 0 0 (fun _ => 0) (fun _ => 0)) TLB)).setRow w1.heap.size (lbA (s : Int) 0 (fun _ => 1) (fun _ => 3)))
  have HB2 := shade (LB.zero J ((Holds5.fresh w1 TLB (lbA 0 0 (fun _ => 0) (fun _ => 0))).setRow (lbA (s : Int) 0 (fun _ => 1) (fun _ => 3))))
  have HG2 := shade (show w.grownBy ((w1.alloc (.cells (lbA 0 0 (fun _ => 0) (fun _ => 0)) TLB)).setRow w1.heap.size (lbA (s : Int) 0 (fun _ => 1) (fun _ => 3))) none from grown_setRow (grown_same HG1.out (World.grownBy_alloc _ _ none)) l1 _)
  obtain ⟨w2, hw2⟩ : ∃ w2, (w1.alloc (.cells (lbA 0 0 (fun _ => 0) (fun _ => 0)) TLB)).setRow w1.heap.size (lbA (s : Int) 0 (fun _ => 1) (fun _ => 3)) = w2 := ⟨_, rfl⟩
  rw [hw2] at HB2 HG2 ⊢
  clear hw2
  obtain ⟨g, hg⟩ : ∃ g, w1.heap.size = g := ⟨_, rfl⟩
  rw [hg] at HB2 l1 ⊢
  clear hg
  go_wp2_with fail
  refine (missesOf_any AJ m cj J (pg s J) _ #[.pointer (some ⟨g, 0, none⟩)] #[] (fun j W => LB W g s J j ∧ Below w.heap.size w W) _ hm ⟨HB2.out, below_of_grown HG2.out⟩ (fun _ W h => H.out.below h.2) (enters_of Try.func45 (by kernel_rfl) rfl)
    (fun j W _ h => (ltry_any g s J j hs W h.1).mono (fun e w' he => ⟨he.1, he.2.1, h.2.trans (below_row he.2.2 l1 h.2.size)⟩))).mono ?_
  rintro e w3 ⟨rfl, -, hg⟩
  have HG := shade hg
  clear hg
  go_wp2_with fail
  go_ret
  exact ⟨rfl, grown_of_below HG.out⟩
theorem IPastMisses_any (AJ : Option Addr) (m cj : Nat) (J : Nat → Bool) (s : Int) (w : World) (hj : Bols w AJ m J) :
    Calls Try.prog 21 #[.slice AJ m cj, .int .i64 s] w fun e w' => e = .returned (.int .i64 (pastV J m s)) ∧ w.grownBy w' none := by
  by_cases h : m ≤ 300 ∧ 0 ≤ s ∧ s ≤ 4
  · have hv : pastV J m s = (msB J (pg s.toNat J) m : Int) := if_pos h
    rw [hv]
    obtain ⟨k, rfl⟩ := Int.eq_ofNat_of_zero_le h.2.1
    exact IPast_in AJ m cj J k w hj h.1 (by omega)
  · have hv : pastV J m s = -1 := if_neg h
    rw [hv]
    have HM := shade (mayB_any AJ m cj s w)
    rw [decide_eq_false h] at HM
    clear hj hv h
    go_enter Try.func21, Try.ntmps21
    go_wp2_with fail
    refine HM.out.mono ?_
    rintro e w0 ⟨rfl, rfl⟩
    go_wp2_with fail
    go_ret
    exact ⟨rfl, grown_refl _ _⟩
theorem info_ch : (Try.prog.info? TCH).map (·.size) = some 4 := by kernel_rfl
set_option maxRecDepth 100000 in
set_option maxHeartbeats 4000000 in
theorem IChoose_in (AJ : Option Addr) (m cj : Nat) (J : Nat → Bool) (s : Nat) (w : World) (hj : Bols w AJ m J) (hm : m ≤ 300) (hs : s ≤ 4) :
    Calls Try.prog 25 #[.slice AJ m cj, .int .i64 (s : Int)] w fun e w' => e = .returned (.int .i64 (msB J (chg9 (pg 0 J) (pg s J) J) m : Int)) ∧ w.grownBy w' none := by
  have HM := shade (mayB_any AJ m cj (s : Int) w)
  rw [decide_eq_true (by omega)] at HM
  have HL := shade (fun (k : Nat) W => lookbackOf_any (k : Int) W)
  have HO := shade (fun W => counterOf_any 2 1 3 (.inr (.inl ⟨rfl, rfl⟩)) W)
  have H := shade hj
  clear hj
  go_enter Try.func25, Try.ntmps25
  go_wp2_with fail
  refine HM.out.mono ?_
  rintro e w0 ⟨rfl, rfl⟩
  go_wp2_with fail
  refine (HL.out 0 _).mono ?_
  rintro e w1 ⟨rfl, hg1⟩
  go_wp2_with fail
  refine (HL.out s _).mono ?_
  rintro e w2 ⟨rfl, hg2⟩
  have HG2 := shade (grown_same hg1 hg2)
  have l2 := HG2.out.size
  clear hg1 hg2
  have f1 : Holds5 ((w2.alloc (.cells (lbA 0 0 (fun _ => 0) (fun _ => 0)) TLB)).alloc (.cells (lbA 0 0 (fun _ => 0) (fun _ => 0)) TLB)) w2.heap.size TLB (lbA 0 0 (fun _ => 0) (fun _ => 0)) := (Holds5.fresh w2 TLB _).alloc _
  have f2 : Holds5 ((w2.alloc (.cells (lbA 0 0 (fun _ => 0) (fun _ => 0)) TLB)).alloc (.cells (lbA 0 0 (fun _ => 0) (fun _ => 0)) TLB)) (w2.heap.size + 1) TLB (lbA 0 0 (fun _ => 0) (fun _ => 0)) := by
    have := Holds5.fresh (w2.alloc (.cells (lbA 0 0 (fun _ => 0) (fun _ => 0)) TLB)) TLB (lbA 0 0 (fun _ => 0) (fun _ => 0))
    rwa [World.size_alloc] at this
  have F1 := shade f1; have F2 := shade f2
  clear f1 f2
  go_upto_region 4 with (first
    | (refine wpList_store_row rfl _ _ _ rfl w2.heap.size (lbA ((0 : Nat) : Int) 0 (fun _ => 1) (fun _ => 3)) rfl rfl TLB (lbA 0 0 (fun _ => 0) (fun _ => 0)) F1.out info_lb rfl (lbA_all _ _ _ _) ?_)
    | (refine wpList_store_row rfl _ _ _ rfl (w2.heap.size + 1) (lbA (s : Int) 0 (fun _ => 1) (fun _ => 3)) rfl rfl TLB (lbA 0 0 (fun _ => 0) (fun _ => 0)) (F2.out.rowOther (by omega) _) info_lb rfl (lbA_all _ _ _ _) ?_)
    | fail)
  change Code.wp _ _ _ _ ((((w2.alloc (.cells (lbA 0 0 (fun _ => 0) (fun _ => 0)) TLB)).alloc (.cells (lbA 0 0 (fun _ => 0) (fun _ => 0)) TLB)).setRow w2.heap.size (lbA ((0 : Nat) : Int) 0 (fun _ => 1) (fun _ => 3))).setRow (w2.heap.size + 1) (lbA (s : Int) 0 (fun _ => 1) (fun _ => 3)))
  have HB3 := shade (LB.zero (s := 0) J ((F1.out.setRow (lbA ((0 : Nat) : Int) 0 (fun _ => 1) (fun _ => 3))).rowOther (r := w2.heap.size + 1) (by omega) (lbA (s : Int) 0 (fun _ => 1) (fun _ => 3))))
  have HC3 := shade (LB.zero J ((F2.out.rowOther (r := w2.heap.size) (by omega) (lbA ((0 : Nat) : Int) 0 (fun _ => 1) (fun _ => 3))).setRow (lbA (s : Int) 0 (fun _ => 1) (fun _ => 3))))
  have HG3 := shade (show w.grownBy ((((w2.alloc (.cells (lbA 0 0 (fun _ => 0) (fun _ => 0)) TLB)).alloc (.cells (lbA 0 0 (fun _ => 0) (fun _ => 0)) TLB)).setRow w2.heap.size (lbA ((0 : Nat) : Int) 0 (fun _ => 1) (fun _ => 3))).setRow (w2.heap.size + 1) (lbA (s : Int) 0 (fun _ => 1) (fun _ => 3))) none from grown_setRow (grown_setRow (grown_same HG2.out (grown_same (World.grownBy_alloc _ _ none) (World.grownBy_alloc _ _ none))) l2 _) (by omega) _)
  have HS3 := shade (show ((((w2.alloc (.cells (lbA 0 0 (fun _ => 0) (fun _ => 0)) TLB)).alloc (.cells (lbA 0 0 (fun _ => 0) (fun _ => 0)) TLB)).setRow w2.heap.size (lbA ((0 : Nat) : Int) 0 (fun _ => 1) (fun _ => 3))).setRow (w2.heap.size + 1) (lbA (s : Int) 0 (fun _ => 1) (fun _ => 3))).heap.size = w2.heap.size + 1 + 1 by simp)
  obtain ⟨w3, hw3⟩ : ∃ w3, ((((w2.alloc (.cells (lbA 0 0 (fun _ => 0) (fun _ => 0)) TLB)).alloc (.cells (lbA 0 0 (fun _ => 0) (fun _ => 0)) TLB)).setRow w2.heap.size (lbA ((0 : Nat) : Int) 0 (fun _ => 1) (fun _ => 3))).setRow (w2.heap.size + 1) (lbA (s : Int) 0 (fun _ => 1) (fun _ => 3))) = w3 := ⟨_, rfl⟩
  rw [hw3] at HB3 HC3 HG3 HS3 ⊢
  clear hw3 F1 F2 HG2
  obtain ⟨g, hg⟩ : ∃ g, w2.heap.size = g := ⟨_, rfl⟩
  rw [hg] at HB3 HC3 HS3 l2 ⊢
  clear hg
  go_wp2_with fail
  refine (HO.out _).mono ?_
  rintro e w4 ⟨rfl, hg4, hz4⟩
  have HG4 := shade (grown_same HG3.out hg4)
  have HB4 := shade (LB.other HB3.out hg4 (by intro e; cases e))
  have HC4 := shade (LB.other HC3.out hg4 (by intro e; cases e))
  have hz : g + 1 + 1 < w4.heap.size := by have := HS3.out; omega
  have HZ := shade hz
  clear hg4 hz4 hz HB3 HC3 HG3
  go_wp2_with (first
    | (refine wpList_store_row rfl _ _ _ rfl w4.heap.size #[.int .i64 1, .int .i64 3, ltryV g, ltryV (g + 1)] rfl rfl TCH _ (Holds5.fresh w4 TCH _) info_ch rfl (by simp [Value.oneCell']) ?_; rw [World.setRow_alloc_new])
    | fail)
  refine (missesOf_any (w := w4.alloc (.cells #[.int .i64 1, .int .i64 3, ltryV g, ltryV (g + 1)] TCH)) AJ m cj J (chg9 (pg 0 J) (pg s J) J) _ #[.pointer (some ⟨w4.heap.size, 0, none⟩)] #[] (fun j W => CH W w4.heap.size g (g + 1) s J j ∧ Below w.heap.size w W) hm ⟨⟨Holds5.fresh w4 TCH #[.int .i64 1, .int .i64 3, ltryV g, ltryV (g + 1)], LB.other HB4.out (World.grownBy_alloc _ _ none) (by intro e; cases e), LB.other HC4.out (World.grownBy_alloc _ _ none) (by intro e; cases e), by omega, by have := HZ.out; omega, by have := HZ.out; omega⟩, below_of_grown (grown_same HG4.out (World.grownBy_alloc _ _ none))⟩ (fun _ W h => H.out.below h.2) (enters_of Try.func49 (by kernel_rfl) rfl)
    (fun j W _ h => (htry_any w4.heap.size g (g + 1) s J j w.heap.size hs W h.1 l2 (by omega) (by have := HZ.out; omega)).mono (fun e w' he => ⟨he.1, he.2.1, h.2.trans he.2.2⟩))).mono ?_
  rintro e w5 ⟨rfl, -, hg⟩
  have HG := shade hg
  clear hg
  go_wp2_with fail
  go_ret
  exact ⟨rfl, grown_of_below HG.out⟩
theorem IChooseMisses_any (AJ : Option Addr) (m cj : Nat) (J : Nat → Bool) (s : Int) (w : World) (hj : Bols w AJ m J) :
    Calls Try.prog 25 #[.slice AJ m cj, .int .i64 s] w fun e w' => e = .returned (.int .i64 (chooseV J m s)) ∧ w.grownBy w' none := by
  by_cases h : m ≤ 300 ∧ 0 ≤ s ∧ s ≤ 4
  · have hv : chooseV J m s = (msB J (chg9 (pg 0 J) (pg s.toNat J) J) m : Int) := if_pos h
    rw [hv]
    obtain ⟨k, rfl⟩ := Int.eq_ofNat_of_zero_le h.2.1
    exact IChoose_in AJ m cj J k w hj h.1 (by omega)
  · have hv : chooseV J m s = -1 := if_neg h
    rw [hv]
    have HM := shade (mayB_any AJ m cj s w)
    rw [decide_eq_false h] at HM
    clear hj hv h
    go_enter Try.func25, Try.ntmps25
    go_wp2_with fail
    refine HM.out.mono ?_
    rintro e w0 ⟨rfl, rfl⟩
    go_wp2_with fail
    go_ret
    exact ⟨rfl, grown_refl _ _⟩
end Go.Proofs.Ytfmcmndhghfoeaa
