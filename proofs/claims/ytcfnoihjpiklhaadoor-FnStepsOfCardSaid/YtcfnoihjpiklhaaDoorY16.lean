/- StepsOf and its model answer alike. -/
import Derived.Test.YtcfnoihjpiklhaaDoorY11
import Derived.Test.YtcfnoihjpiklhaaDoorY15
import Derived.Test.YtcfnoihjpiklhaaDoorG94
namespace Go.Proofs.YtcfnoihjpiklhaaDoor
open Go.RowKit
set_option linter.unusedSimpArgs false
set_option maxRecDepth 100000 in
set_option maxHeartbeats 4000000 in
theorem SStepsOf_yes (A : Option Addr) (len cap : Nat) (F : Nat → Ins) (at' : Int) (b1 o1 c1 b2 o2 c2 : Nat) (f1 f2 : Nat → Int) (fu : Nat) (w : World) (hl : len ≤ 9223372036854775807) (hC : Code w A len F) (h1 : Nums w (some ⟨b1, o1, none⟩) 4 f1) (h2 : Nums w (some ⟨b2, o2, none⟩) 8 f2) (hn1 : 4 ≤ 9223372036854775807) (hn2 : 8 ≤ 9223372036854775807) (hr : runB len F at' 4 8 f1 f2 fu = true) (hv : vcB len F = true) (hm : vmB at' 4 8 f1 f2 = true) (hf1 : (fu : Int) ≤ 300) :
    Calls Tryd.prog 7 #[.slice A len cap, MV at' (some ⟨b1, o1, none⟩) 4 c1 (some ⟨b2, o2, none⟩) 8 c2, .int .i64 fu] w (fun e w' => ∃ k, RunEnd len F ⟨at', f1, f2⟩ fu k ∧ StpRes k (fun j => insS F (sN F ⟨at', f1, f2⟩ j)) (fun j => jmS F (sN F ⟨at', f1, f2⟩ j)) w e w') := by
  have hga := World.grownBy_alloc w (.cells #[.int .i64 at', .slice (some ⟨b1, o1, none⟩) 4 c1, .slice (some ⟨b2, o2, none⟩) 8 c2] 26) none
  have HVR := shade (validRun_any A len cap F at' (some ⟨b1, o1, none⟩) 4 c1 (some ⟨b2, o2, none⟩) 8 c2 f1 f2 fu _ hl (hC.on hga) (h1.on hga) (h2.on hga) hn1 hn2)
  have E1 := shade (Holds5.fresh w 26 #[.int .i64 at', .slice (some ⟨b1, o1, none⟩) 4 c1, .slice (some ⟨b2, o2, none⟩) 8 c2])
  have HGA := shade hga
  rw [hr] at HVR
  have HST := shade (fun W (hW : w.grownBy W none) => stepsOf_yes A len cap F ⟨at', f1, f2⟩ b1 o1 c1 b2 o2 c2 fu W (hC.on hW) (h1.on hW) (h2.on hW) hv hm (by omega))
  clear hC h1 h2 hr hv hm hga
  go_enter Tryd.func7, Tryd.ntmps7
  go_wp2_with fail
  refine HVR.out.mono ?_
  rintro e w1 ⟨rfl, hgr⟩
  have HG := shade (grown_same HGA.out hgr)
  have hE2 := E1.out.grown hgr (by intro e; cases e)
  have x0 := hE2.look 0; have x1 := hE2.look 1; have x2 := hE2.look 2
  simp at x0 x1 x2
  clear hgr HVR hE2
  go_wp2_with fail
  refine (HST.out _ HG.out).mono ?_
  rintro e w2 ⟨k, hk, hst⟩
  obtain ⟨v1, v2, rfl, p1, p2, hg⟩ := StpRes.after HG.out hst
  have P1 := shade p1; have P2 := shade p2; have HG2 := shade hg; have HK := shade hk
  obtain ⟨A4, c4, rfl, -⟩ := ownsRow_slice p1
  obtain ⟨A5, c5, rfl, -⟩ := ownsRow_slice p2
  clear p1 p2 hg hst hk
  go_wp2_with fail
  go_ret2
  exact ⟨k, HK.out, _, _, rfl, P1.out, P2.out, HG2.out⟩

theorem steps_both (n : Nat) (F : Nat → Ins) (at' : Int) (n1 n2 : Nat) (f1 f2 : Nat → Int) (fuel : Int) (hn : n ≤ 9223372036854775807) (hn1 : n1 ≤ 9223372036854775807) (hn2 : n2 ≤ 9223372036854775807) :
    ∃ (K : Nat) (f : Nat → Ins) (f2' : Nat → Bool), K ≤ 300 ∧ (∀ (A : Option Addr) (cap : Nat) (A1 : Option Addr) (c1 : Nat) (A2 : Option Addr) (c2 : Nat) (W : World), Code W A n F → Nums W A1 n1 f1 → Nums W A2 n2 f2 → Calls Tryd.prog 7 #[.slice A n cap, MV at' A1 n1 c1 A2 n2 c2, .int .i64 fuel] W (StpRes K f f2' W)) ∧
      (∀ (A : Option Addr) (cap : Nat) (A1 : Option Addr) (c1 : Nat) (A2 : Option Addr) (c2 : Nat) (W : World), WT W → Code W A n F → Nums W A1 n1 f1 → Nums W A2 n2 f2 → Calls Tryd.prog 6 #[.slice A n cap, MV at' A1 n1 c1 A2 n2 c2, .int .i64 fuel] W (StpRes K f f2' W)) := by
  obtain ⟨K, g, hK, hRun, hcase⟩ := run_told n F at' n1 n2 f1 f2 fuel hn
  refine ⟨K, fun j => insS F (g j), fun j => jmS F (g j), hK, fun A cap A1 c1 A2 c2 W hC h1 h2 => ?_, fun A cap A1 c1 A2 c2 W hg hC h1 h2 => ?_⟩
  · rcases hcase with ⟨hr, rfl⟩ | ⟨hr, rfl, rfl, rfl, hre⟩
    · exact SStepsOf_no A n cap F at' A1 n1 c1 A2 n2 c2 f1 f2 fuel W hn hC h1 h2 hn1 hn2 hr _ _
    · obtain ⟨hv, hm, hf0, hf1⟩ := runB_parts hr
      obtain ⟨fu, rfl⟩ := Int.eq_ofNat_of_zero_le hf0
      rw [Int.toNat_natCast] at hre
      obtain ⟨b1, o1, rfl, _⟩ := h1.resolve_left (by omega)
      obtain ⟨b2, o2, rfl, _⟩ := h2.resolve_left (by omega)
      refine (SStepsOf_yes A n cap F at' b1 o1 c1 b2 o2 c2 f1 f2 fu W hn hC h1 h2 hn1 hn2 hr hv hm hf1).mono ?_
      rintro e w' ⟨k, hk, h⟩
      obtain rfl := hk.uniq hre
      exact h
  · refine StepsOf_res A n cap at' A1 n1 c1 A2 n2 c2 fuel F K g W hg hC hK (fun i hi => ?_) fun W' hW => hRun A cap A1 c1 A2 c2 W' (hg.below (below_of_grown hW) (wt_lt hg)) (hC.on hW) (h1.on hW) (h2.on hW)
    rcases hcase with ⟨hr, rfl⟩ | ⟨hr, rfl, rfl, rfl, hre⟩
    · omega
    · obtain ⟨hv, hm, hf0, hf1⟩ := runB_parts hr
      exact ⟨hv, (okS_of hm).run hv i (fun j hj => hre.go j (by omega)), hre.go i hi⟩
end Go.Proofs.YtcfnoihjpiklhaaDoor
