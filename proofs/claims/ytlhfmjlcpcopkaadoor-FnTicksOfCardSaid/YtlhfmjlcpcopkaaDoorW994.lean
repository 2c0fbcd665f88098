/- TicksOf answers as its model for what is drawn; it is at least 1 and at most 3, and that of a block of it alone is all its time. -/
import Derived.Test.YtlhfmjlcpcopkaaDoorW993
import Derived.Test.YtlhfmjlcpcopkaaDoorW990
import Derived.Test.YtlhfmjlcpcopkaaDoorW25
namespace Go.Proofs.YtlhfmjlcpcopkaaDoor
open Go.RowKit
set_option linter.unusedSimpArgs false
theorem code_one (op : ByteArray) (d a b k : Int) (w : World) : Code (w.alloc (.cells #[.string op, .int .i64 d, .int .i64 a, .int .i64 b, .int .i64 k] 33)) (some ⟨w.heap.size, 0, none⟩) 1 (fun _ => ⟨op, d, a, b, k⟩) := by
  refine .inr ⟨w.heap.size, 0, rfl, by simp, fun j i hj hi => ?_⟩
  obtain rfl : j = 0 := by omega
  rw [show 0 + 0 * 5 + i = i by omega, World.cell?_alloc_new]
  rcases (show i = 0 ∨ i = 1 ∨ i = 2 ∨ i = 3 ∨ i = 4 by omega) with rfl | rfl | rfl | rfl | rfl <;> rfl
theorem time_one (c : Ins) : eF (fun _ => c) (fun i => i) 1 = lat c.op.toList := by
  have h := lat_rng c.op.toList
  show max 0 (bg (fun _ => c) (fun i => i) 0 + lat c.op.toList) = _
  have h0 : bg (fun _ => c) (fun i => i) 0 = 0 := rfl
  rw [h0]
  omega
set_option maxRecDepth 100000 in
set_option maxHeartbeats 4000000 in
theorem fnTicksOf_walk (A : Option Addr) (n cap : Nat) (zs : List Int) (w : World) (hg : WT w) (hB : Bys w A n cap zs) :
    Calls Tryd.prog 13 #[.slice A n cap] w fun e w' => e = .returned (.bool true) ∧ Below w.heap.size w w' := by
  have HG := shade hg
  have HBy := shade hB
  have hcap := hB.fits
  have hbig := hB.big
  unfold maxLen at hbig
  clear hg hB
  by_cases hl : 1048576 < n
  · go_enter Tryd.func13, Tryd.ntmps13
    go_wp2
    go_ret
    exact ⟨rfl, by go_grown⟩
  · go_enter Tryd.func13, Tryd.ntmps13
    go_wp2_with fail
    refine (DrawTicksOf_any A n cap zs _ (HBy.out.alloc _)).mono ?_
    rintro e w1 ⟨op, d, a, b, k, rfl, hb1⟩
    have HG1 := shade (grown_same (grown_of_below hb1) (World.grownBy_alloc w1 (.cells #[.string op, .int .i64 d, .int .i64 a, .int .i64 b, .int .i64 k] 33) none))
    have HP := shade (Holds5.fresh w1 33 #[.string op, .int .i64 d, .int .i64 a, .int .i64 b, .int .i64 k])
    clear hb1
    have HT := shade (fun W (hW : WT W) => ITicksOf_any op d a b k W hW)
    have HS := shade (fun W => STicksOf_any op d a b k W)
    have HW := shade (fun W (hg : w.grownBy W none) => HG.out.below (below_of_grown hg) (wt_lt HG.out))
    go_wp2_with fail
    obtain ⟨W1, hW1⟩ : ∃ W1, w1.alloc (.cells #[.string op, .int .i64 d, .int .i64 a, .int .i64 b, .int .i64 k] 33) = W1 := ⟨_, rfl⟩
    obtain ⟨cB, hcB⟩ : ∃ cB, w1.heap.size = cB := ⟨_, rfl⟩
    rw [hW1] at HG1 HP
    rw [hcB] at HP
    simp only [hW1, hcB]
    clear hW1 hcB
    rcases hv : vI ⟨op, d, a, b, k⟩ with _ | _
    · have ht : tkI ⟨op, d, a, b, k⟩ = -1 := if_neg (by rw [hv]; simp)
      rw [ht] at HT HS
      clear ht
      refine (HT.out _ (HW.out _ HG1.out)).mono ?_
      rintro e w2 ⟨rfl, hg⟩
      have HG2 := shade (grown_same HG1.out hg); have HP2 := shade (HP.out.grown hg (by intro e; cases e))
      clear hg HP HG1
      have p0 := HP2.out.look 0; have p1 := HP2.out.look 1; have p2 := HP2.out.look 2; have p3 := HP2.out.look 3; have p4 := HP2.out.look 4
      simp at p0 p1 p2 p3 p4
      go_wp2_with fail
      refine (HS.out _).mono ?_
      rintro e w3 ⟨rfl, hg⟩
      have HG3 := shade (grown_same HG2.out hg); have HP3 := shade (HP2.out.grown hg (by intro e; cases e))
      clear hg HP2 HG2 p0 p1 p2 p3 p4
      have p0 := HP3.out.look 0; have p1 := HP3.out.look 1; have p2 := HP3.out.look 2; have p3 := HP3.out.look 3; have p4 := HP3.out.look 4
      simp at p0 p1 p2 p3 p4
      go_wp2_with fail
      refine (HS.out _).mono ?_
      rintro e w4 ⟨rfl, hg⟩
      have HG4 := shade (grown_same HG3.out hg)
      clear hg
      go_wp2_with fail
      go_ret
      exact ⟨rfl, below_of_grown HG4.out⟩
    · have ht : tkI ⟨op, d, a, b, k⟩ = lat op.toList := if_pos hv
      rw [ht] at HT HS
      have HBT := shade (fun W (hW : WT W) (hC : Code W (some ⟨W.heap.size - 1, 0, none⟩) 1 (fun _ => ⟨op, d, a, b, k⟩)) => IBlockTime_any (some ⟨W.heap.size - 1, 0, none⟩) 1 1 (fun _ => ⟨op, d, a, b, k⟩) W hW (by omega) (by omega) hC)
      have HVB := shade (fun W A' (hW : WT W) (hC : Code W A' 1 (fun _ => ⟨op, d, a, b, k⟩)) => IValidBlock_any A' 1 1 (fun _ => ⟨op, d, a, b, k⟩) W hW (by omega) hC)
      have HBT2 := shade (fun W A' (hW : WT W) (hC : Code W A' 1 (fun _ => ⟨op, d, a, b, k⟩)) => IBlockTime_any A' 1 1 (fun _ => ⟨op, d, a, b, k⟩) W hW (by omega) (by omega) hC)
      have hlr := lat_rng op.toList
      have hbt : btB 1 (fun _ => (⟨op, d, a, b, k⟩ : Ins)) = if blB 1 (fun _ => (⟨op, d, a, b, k⟩ : Ins)) = true then lat op.toList else -1 := by
        unfold btB
        rw [time_one]
      rw [hbt] at HBT2
      have HC1 := shade (fun W => code_one op d a b k W)
      clear ht hbt hv HBT
      generalize lat op.toList = x at *
      generalize nB 1 (fun _ => (⟨op, d, a, b, k⟩ : Ins)) = nb at *
      generalize bg (fun _ => (⟨op, d, a, b, k⟩ : Ins)) (fun i => i) = bf at *
      refine (HT.out _ (HW.out _ HG1.out)).mono ?_
      rintro e w2 ⟨rfl, hg⟩
      have HG2 := shade (grown_same HG1.out hg); have HP2 := shade (HP.out.grown hg (by intro e; cases e))
      clear hg HP HG1
      have p0 := HP2.out.look 0; have p1 := HP2.out.look 1; have p2 := HP2.out.look 2; have p3 := HP2.out.look 3; have p4 := HP2.out.look 4
      simp at p0 p1 p2 p3 p4
      go_wp2_with fail
      refine (HS.out _).mono ?_
      rintro e w3 ⟨rfl, hg⟩
      have HG3 := shade (grown_same HG2.out hg); have HP3 := shade (HP2.out.grown hg (by intro e; cases e))
      clear hg HP2 HG2 p0 p1 p2 p3 p4
      have p0 := HP3.out.look 0; have p1 := HP3.out.look 1; have p2 := HP3.out.look 2; have p3 := HP3.out.look 3; have p4 := HP3.out.look 4
      simp at p0 p1 p2 p3 p4
      go_wp2_with fail
      have HG3a := shade (grown_same HG3.out (World.grownBy_alloc w3 (.cells #[.string op, .int .i64 d, .int .i64 a, .int .i64 b, .int .i64 k] 33) none))
      have HP3a := shade (HP3.out.alloc (.cells #[.string op, .int .i64 d, .int .i64 a, .int .i64 b, .int .i64 k] 33))
      have HC3 := shade (HC1.out w3)
      refine (HBT2.out _ _ (HW.out _ HG3a.out) HC3.out).mono ?_
      rintro e w4 ⟨v4, rfl, hr4, hg⟩
      obtain ⟨A4, c4, rfl, -⟩ := hr4.nums
      have HG4 := shade (grown_same HG3a.out hg); have HP4 := shade (HP3a.out.grown hg (by intro e; cases e))
      clear hg HP3 HG3 HP3a HG3a HC3 hr4 p0 p1 p2 p3 p4 HBT2
      have p0 := HP4.out.look 0; have p1 := HP4.out.look 1; have p2 := HP4.out.look 2; have p3 := HP4.out.look 3; have p4 := HP4.out.look 4
      simp at p0 p1 p2 p3 p4
      rcases hb : blB 1 (fun _ => (⟨op, d, a, b, k⟩ : Ins)) with _ | _
      all_goals
        rw [hb] at HVB
        go_wp2_with fail
        have HG4a := shade (grown_same HG4.out (World.grownBy_alloc w4 (.cells #[.string op, .int .i64 d, .int .i64 a, .int .i64 b, .int .i64 k] 33) none))
        have HC4 := shade (HC1.out w4)
        refine (HVB.out _ _ (HW.out _ HG4a.out) HC4.out).mono ?_
        rintro e w5 ⟨rfl, hg⟩
        have HG5 := shade (grown_same HG4a.out hg)
        clear hg
        go_wp2_with fail
        go_ret
        exact ⟨rfl, below_of_grown HG5.out⟩
end Go.Proofs.YtlhfmjlcpcopkaaDoor
