/- StepsOf, by the model, of anything. -/
import Derived.Test.YtcfnoihjpiklhaaDoorY10
import Derived.Test.YtcfnoihjpiklhaaDoorG94
namespace Go.Proofs.YtcfnoihjpiklhaaDoor
open Go.RowKit
set_option linter.unusedSimpArgs false
set_option maxRecDepth 100000 in
set_option maxHeartbeats 4000000 in
theorem SStepsOf_no (A : Option Addr) (len cap : Nat) (F : Nat → Ins) (at' : Int) (A1 : Option Addr) (n1 c1 : Nat) (A2 : Option Addr) (n2 c2 : Nat) (f1 f2 : Nat → Int) (fuel : Int) (w : World) (hl : len ≤ 9223372036854775807) (hC : Code w A len F) (h1 : Nums w A1 n1 f1) (h2 : Nums w A2 n2 f2) (hn1 : n1 ≤ 9223372036854775807) (hn2 : n2 ≤ 9223372036854775807) (hr : runB len F at' n1 n2 f1 f2 fuel = false) (G : Nat → Ins) (J : Nat → Bool) :
    Calls Tryd.prog 7 #[.slice A len cap, MV at' A1 n1 c1 A2 n2 c2, .int .i64 fuel] w (StpRes 0 G J w) := by
  have hga := World.grownBy_alloc w (.cells #[.int .i64 at', .slice A1 n1 c1, .slice A2 n2 c2] 26) none
  have HVR := shade (validRun_any A len cap F at' A1 n1 c1 A2 n2 c2 f1 f2 fuel _ hl (hC.on hga) (h1.on hga) (h2.on hga) hn1 hn2)
  have E1 := shade (Holds5.fresh w 26 #[.int .i64 at', .slice A1 n1 c1, .slice A2 n2 c2])
  have HGA := shade hga
  rw [hr] at HVR
  clear hC h1 h2 hr hga
  go_enter Tryd.func7, Tryd.ntmps7
  go_wp2_with fail
  refine HVR.out.mono ?_
  rintro e w1 ⟨rfl, hgr⟩
  have HG := shade (grown_same HGA.out hgr)
  clear hgr
  go_wp2_with fail
  go_ret2
  exact ⟨_, _, rfl, World.ownsRow_nil _ _ _ _, World.ownsRow_nil _ _ _ _, HG.out⟩
theorem StpRes.after {k : Nat} {G : Nat → Ins} {J : Nat → Bool} {w w1 w2 : World} {e : Ending} (hg : w.grownBy w1 none) (h : StpRes k G J w1 e w2) : StpRes k G J w e w2 := by
  obtain ⟨v1, v2, he, h1, h2, h3⟩ := h
  exact ⟨v1, v2, he, World.ownsRow.mono h1 hg.size, World.ownsRow.mono h2 hg.size, grown_same hg h3⟩
set_option maxRecDepth 100000 in
set_option maxHeartbeats 4000000 in
theorem SStepsOf_any (A : Option Addr) (len cap : Nat) (F : Nat → Ins) (at' : Int) (A1 : Option Addr) (n1 c1 : Nat) (A2 : Option Addr) (n2 c2 : Nat) (f1 f2 : Nat → Int) (fuel : Int) (w : World) (hl : len ≤ 9223372036854775807) (hC : Code w A len F) (h1 : Nums w A1 n1 f1) (h2 : Nums w A2 n2 f2) (hn1 : n1 ≤ 9223372036854775807) (hn2 : n2 ≤ 9223372036854775807) :
    Calls Tryd.prog 7 #[.slice A len cap, MV at' A1 n1 c1 A2 n2 c2, .int .i64 fuel] w (fun e w' => ∃ (k : Nat) (G : Nat → Ins) (J : Nat → Bool), k ≤ 300 ∧ StpRes k G J w e w') := by
  rcases hr : runB len F at' n1 n2 f1 f2 fuel with _ | _
  · exact (SStepsOf_no A len cap F at' A1 n1 c1 A2 n2 c2 f1 f2 fuel w hl hC h1 h2 hn1 hn2 hr (fun _ => zIns) (fun _ => false)).mono fun e w' h => ⟨0, _, _, by omega, h⟩
  · obtain ⟨hv, hm, hf0, hf1⟩ := runB_parts hr
    obtain ⟨-, e1, e2, -⟩ := vmB_parts hm
    subst e1 e2
    obtain ⟨b1, o1, rfl, _⟩ := h1.resolve_left (by omega)
    obtain ⟨b2, o2, rfl, _⟩ := h2.resolve_left (by omega)
    obtain ⟨fu, rfl⟩ := Int.eq_ofNat_of_zero_le hf0
    have hga := World.grownBy_alloc w (.cells #[.int .i64 at', .slice (some ⟨b1, o1, none⟩) 4 c1, .slice (some ⟨b2, o2, none⟩) 8 c2] 26) none
    have HVR := shade (validRun_any A len cap F at' (some ⟨b1, o1, none⟩) 4 c1 (some ⟨b2, o2, none⟩) 8 c2 f1 f2 fu _ hl (hC.on hga) (h1.on hga) (h2.on hga) hn1 hn2)
    have E1 := shade (Holds5.fresh w 26 #[.int .i64 at', .slice (some ⟨b1, o1, none⟩) 4 c1, .slice (some ⟨b2, o2, none⟩) 8 c2])
    have HGA := shade hga
    rw [hr] at HVR
    have HST := shade (fun W (hW : w.grownBy W none) => stepsOf_yes A len cap F ⟨at', f1, f2⟩ b1 o1 c1 b2 o2 c2 fu W (hC.on hW) (h1.on hW) (h2.on hW) hv hm (by omega))
    clear hC h1 h2 hr hv hm hga
    go_enter Tryd.func7, Tryd.ntmps7
    go_wp2_with fail
    refine HVR.out.mono ?_
    rintro e w1 ⟨rfl, hgr⟩
    have HG := shade (grown_same HGA.out hgr)
    have hE2 := E1.out.grown hgr (by intro e; cases e)
    have x0 := hE2.look 0; have x1 := hE2.look 1; have x2 := hE2.look 2
    simp at x0 x1 x2
    clear hgr HVR hE2
    go_wp2_with fail
    refine (HST.out _ HG.out).mono ?_
    rintro e w2 ⟨k, hk, hst⟩
    obtain ⟨v1, v2, rfl, p1, p2, hg⟩ := StpRes.after HG.out hst
    have P1 := shade p1; have P2 := shade p2; have HG2 := shade hg; have HK := shade hk.le
    obtain ⟨A4, c4, rfl, -⟩ := ownsRow_slice p1
    obtain ⟨A5, c5, rfl, -⟩ := ownsRow_slice p2
    clear p1 p2 hg hst hk
    go_wp2_with fail
    go_ret2
    exact ⟨k, _, _, by have := HK.out; omega, _, _, rfl, P1.out, P2.out, HG2.out⟩
end Go.Proofs.YtcfnoihjpiklhaaDoor
