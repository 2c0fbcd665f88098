/- BlockTime, by the program. -/
import Derived.Test.YtlhfmjlcpcopkaaDoorW964
import Derived.Test.YtlhfmjlcpcopkaaDoorW969
namespace Go.Proofs.YtlhfmjlcpcopkaaDoor
open Go.RowKit
set_option linter.unusedSimpArgs false
set_option maxRecDepth 100000 in
set_option maxHeartbeats 4000000 in
theorem IBlockTime_any (A : Option Addr) (n c : Nat) (F : Nat → Ins) (w : World) (hw : WT w) (hn : n ≤ 9223372036854775807) (hcap : n ≤ c) (h : Code w A n F) :
    Calls Tryd.prog 31 #[.slice A n c] w (NumRes2 (nB n F) (bg F (fun i => i)) (btB n F) w) := by
  rcases hv : blB n F with _ | _
  · rw [nB_no hv, btB_no hv]
    have HB := shade (IBlockOf_no A n c F w hw hv hn h)
    clear h hv
    go_enter Tryd.func31, Tryd.ntmps31
    go_wp2_with fail
    refine HB.out.mono ?_
    rintro e w1 ⟨rfl, hg⟩
    have HG := shade (grown_same hg (World.grownBy_alloc w1 (.cells #[.slice none 0 0, .slice none 0 0] 61) none))
    clear hg
    go_wp2_with fail
    go_ret2
    exact ⟨_, rfl, ⟨World.ownsRow_nil _ _ _ _, fun _ h => (by cases h)⟩, HG.out⟩
  · rw [nB_yes hv, btB_yes hv]
    have h6 := blB_6 hv
    have HB := shade (IBlockOf_any A n c F w hw hcap hv h)
    clear h hv
    go_enter Tryd.func31, Tryd.ntmps31
    go_wp2_with fail
    refine HB.out.mono ?_
    rintro e w1 ⟨tv, wv, AS, rfl, ht, hr, -, hg⟩
    have hbk : Blk w1 w.heap.size w1.heap.size tv wv AS n F := ⟨⟨ht, fun b hb => (World.ownsRow.lt ht b hb).2⟩, hr⟩
    obtain ⟨A1, c1, rfl, -⟩ := ownsRow_slice ht
    obtain ⟨A2, c2, rfl, -⟩ := hr.shape
    have HG := shade (grown_same hg (World.grownBy_alloc w1 (.cells #[.slice A1 n c1, .slice A2 n c2] 61) none))
    have HX := shade (Holds5.fresh w1 61 #[.slice A1 n c1, .slice A2 n c2])
    have HK := shade (hbk.grown (World.grownBy_alloc w1 (.cells #[.slice A1 n c1, .slice A2 n c2] 61) none))
    have HBX := shade (show Hid (w.heap.size ≤ w1.heap.size) from shade hg.size)
    clear hg ht hr hbk
    go_wp2_with fail
    obtain ⟨W1, hW1⟩ : ∃ W1, w1.alloc (.cells #[.slice A1 n c1, .slice A2 n c2] 61) = W1 := ⟨_, rfl⟩
    obtain ⟨Bb, hBb⟩ : ∃ Bb, w1.heap.size = Bb := ⟨_, rfl⟩
    rw [hW1] at HG HX HK
    rw [hBb] at HX HK
    simp only [hW1, hBb]
    clear hW1 hBb
    have HST := shade (iStands_any _ _ _ _ AS n F _ h6 HK.out)
    refine HST.out.mono ?_
    rintro e w2 h2
    obtain ⟨v, rfl, hR, hg2⟩ := NumRes.row h2
    obtain ⟨A3, c3, rfl, hN⟩ := hR.nums
    have HG2 := shade (grown_same HG.out hg2); have HX2 := shade (HX.out.grown hg2 (by intro e; cases e)); have HK2 := shade (HK.out.grown hg2); have HN2 := shade hN
    clear h2 hR hN hg2 HST HG HX HK
    have x0 := HX2.out.look 0; have x1 := HX2.out.look 1
    simp at x0 x1
    have HBG := shade (fun W (hg : w2.grownBy W none) => iBegins_any _ _ _ _ AS n F A3 n c3 (fun i => i) W h6 (HK2.out.grown hg) (HN2.out.grown hg (by intro _ _ _ e; cases e)) (fun j hj => hj))
    have HEN := shade (fun W (hg : w2.grownBy W none) => iEnd_any _ _ _ _ AS n F A3 n c3 (fun i => i) W h6 (HK2.out.grown hg) (HN2.out.grown hg (by intro _ _ _ e; cases e)) (fun j hj => hj))
    go_wp2_with fail
    have HX3 := shade HX2.out.drew
    go_region_held3 (fun w' => w'.cell? ⟨Bb, 0, none⟩ = some (.slice A1 n c1) ∧ w'.cell? ⟨Bb, 1, none⟩ = some (.slice A2 n c2))
      (exact ⟨HX3.out.look 0, HX3.out.look 1⟩)
      (first
        | (go_at_call 64; refine (HBG.out _ (grown_drew1 _)).mono ?_; rintro e w3 h3; obtain ⟨v3, rfl, hR3, hg3⟩ := NumRes.row h3; obtain ⟨A4, c4, rfl, -⟩ := hR3.nums; have HX3 := shade (HX3.out.grown hg3 (by intro e; cases e)); have HG3 := shade (grown_same (grown_drew1 w2) hg3); have HR3 := shade hR3; clear h3 hR3 hg3)
        | (go_at_call 65; refine (HEN.out _ HG3.out).mono ?_; rintro e w4 ⟨rfl, hg4⟩; have HX3 := shade (HX3.out.grown hg4 (by intro e; cases e)); have HG4 := shade (grown_same HG3.out hg4); have HR4 := shade (HR3.out.grown hg4); have HS4 := shade hg4.size; clear hg4))
    rename_i hHeld
    clear hHeld
    go_wp2_with fail
    go_ret2
    exact ⟨_, rfl, ⟨World.ownsRow.mono HR4.out.own (Nat.le_trans HG2.out.size (Nat.le_refl _)), fun b hb => Nat.lt_of_lt_of_le (HR4.out.hib b hb) HS4.out⟩, grown_same HG2.out HG4.out⟩
theorem time_both (n : Nat) (F : Nat → Ins) (hn : n ≤ 9223372036854775807) :
    ∃ (K : Nat) (f : Nat → Int) (z : Int), K ≤ 300 ∧ (∀ (A : Option Addr) (c : Nat) (W : World), Code W A n F → Calls Tryd.prog 30 #[.slice A n c] W (NumRes2 K f z W)) ∧
      (∀ (A : Option Addr) (W : World), WT W → Code W A n F → Calls Tryd.prog 31 #[.slice A n n] W (NumRes2 K f z W)) ∧ True := by
  have h6 := nB_6 n F
  exact ⟨nB n F, _, btB n F, by omega, fun A c W h => SBlockTime_any A n c F W hn h, fun A W hW h => IBlockTime_any A n n F W hW hn (Nat.le_refl _) h, trivial⟩

end Go.Proofs.YtlhfmjlcpcopkaaDoor
