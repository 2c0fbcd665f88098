/- ShareWide, by both. -/
import Derived.Test.YtehjfnfpebdidaaDoorV46
import Derived.Test.YtehjfnfpebdidaaDoorV50
namespace Go.Proofs.YtehjfnfpebdidaaDoor
open Go.RowKit
set_option linter.unusedSimpArgs false
theorem ShRes.after {k n : Nat} {f : Nat → Wid} {g : Nat → Int} {w w1 w2 : World} {e : Ending} (hg : w.grownBy w1 none) (h : ShRes k f n g w1 e w2) : ShRes k f n g w e w2 := by
  obtain ⟨v1, v2, he, h1, h2, h3⟩ := h
  exact ⟨v1, v2, he, World.ownsRow.mono h1 hg.size, World.ownsRow.mono h2 hg.size, grown_same hg h3⟩
theorem ShRes.nil (f : Nat → Wid) (g : Nat → Int) (w w' : World) (hg : w.grownBy w' none) : ShRes 0 f 0 g w (.returned (.tuple #[.slice none 0 0, .slice none 0 0])) w' := ⟨_, _, rfl, World.ownsRow_nil _ _ _ _, World.ownsRow_nil _ _ _ _, hg⟩
/-- What is shared of any list: nothing where it is none. -/
def shK (n : Nat) (F : Nat → Wid) : Nat := if vwB n F = true then (shS F n).1.length else 0
def shN (n : Nat) (F : Nat → Wid) : Nat := if vwB n F = true then n else 0
def shW (n : Nat) (F : Nat → Wid) (j : Nat) : Wid := (shS F n).1.getD j zWid
def shP (n : Nat) (F : Nat → Wid) (j : Nat) : Int := (((shS F n).2.getD j 0 : Nat) : Int)
theorem ShareWide_any (A : Option Addr) (n c : Nat) (F : Nat → Wid) (w : World) (hn : n ≤ 9223372036854775807) (hg : WT w) (h : Wds w A n F) :
    Calls Tryd.prog 6 #[.slice A n c] w (ShRes (shK n F) (shW n F) (shN n F) (shP n F) w) := by
  rcases hv : vwB n F with _ | _
  · have HV := shade (ValidWide_any A n c F w hg hn h)
    rw [hv] at HV
    have e1 : shK n F = 0 := by unfold shK; rw [hv, if_neg (by decide)]
    have e2 : shN n F = 0 := by unfold shN; rw [hv, if_neg (by decide)]
    rw [e1, e2]
    go_enter Tryd.func6, Tryd.ntmps6
    go_wp2_with fail
    refine HV.out.mono ?_
    rintro e w1 ⟨rfl, hgr⟩
    have HG := shade hgr
    clear hgr HV
    go_wp2_with fail
    go_ret2
    exact ShRes.nil _ _ _ _ HG.out
  · have e1 : shK n F = (shS F n).1.length := by unfold shK; rw [if_pos hv]
    have e2 : shN n F = n := by unfold shN; rw [if_pos hv]
    rw [e1, e2]
    exact IShare_yes A n c F w hg hv h
theorem SpecShareWide_any (A : Option Addr) (n c : Nat) (F : Nat → Wid) (w : World) (hn : n ≤ 9223372036854775807) (h : Wds w A n F) :
    Calls Tryd.prog 7 #[.slice A n c] w (ShRes (shK n F) (shW n F) (shN n F) (shP n F) w) := by
  have HV := shade (validWide_any A n c F w hn h)
  have H := shade h
  clear h
  rcases hv : vwB n F with _ | _
  · rw [hv] at HV
    have e1 : shK n F = 0 := by unfold shK; rw [hv, if_neg (by decide)]
    have e2 : shN n F = 0 := by unfold shN; rw [hv, if_neg (by decide)]
    rw [e1, e2]
    go_enter Tryd.func7, Tryd.ntmps7
    go_wp2_with fail
    refine HV.out.mono ?_
    rintro e w1 ⟨rfl, hgr⟩
    have HG := shade hgr
    clear hgr HV
    go_wp2_with fail
    go_ret2
    exact ShRes.nil _ _ _ _ HG.out
  · rw [hv] at HV
    have e1 : shK n F = (shS F n).1.length := by unfold shK; rw [if_pos hv]
    have e2 : shN n F = n := by unfold shN; rw [if_pos hv]
    rw [e1, e2]
    have HVV := shade hv
    clear hv
    go_enter Tryd.func7, Tryd.ntmps7
    go_wp2_with fail
    refine HV.out.mono ?_
    rintro e w1 ⟨rfl, hgr⟩
    have HS := shade (SShare_yes A n c F w1 HVV.out (H.out.on hgr))
    have HG := shade hgr
    clear hgr HV
    go_wp2_with fail
    refine HS.out.mono ?_
    intro e w2 hr
    obtain ⟨v1, v2, rfl, h1, h2, h3⟩ := ShRes.after HG.out hr
    have HR := shade (And.intro h1 (And.intro h2 h3))
    clear hr h1 h2 h3 HS
    go_wp2_with fail
    go_ret2
    exact ⟨_, _, rfl, HR.out.1, HR.out.2.1, HR.out.2.2⟩
theorem share_both (n : Nat) (F : Nat → Wid) (hn : n ≤ 9223372036854775807) :
    ∃ (K K2 : Nat) (f : Nat → Wid) (f2 : Nat → Int), K ≤ 300 ∧ K2 ≤ 300 ∧ (∀ A c W, Wds W A n F → Calls Tryd.prog 7 #[.slice A n c] W (ShRes K f K2 f2 W)) ∧
      (∀ A c W, WT W → Wds W A n F → Calls Tryd.prog 6 #[.slice A n c] W (ShRes K f K2 f2 W)) := by
  have h8 : shK n F ≤ 8 ∧ shN n F ≤ 8 := by
    unfold shK shN
    rcases hv : vwB n F with _ | _
    · rw [if_neg (by decide), if_neg (by decide)]
      exact ⟨by omega, by omega⟩
    · have h1 := (vwB_iff.1 hv).2
      have h2 := (shS_len F n).2
      rw [if_pos rfl, if_pos rfl]
      exact ⟨by omega, h1⟩
  exact ⟨shK n F, shN n F, shW n F, shP n F, by omega, by omega, fun A c W h => SpecShareWide_any A n c F W hn h, fun A c W hw h => ShareWide_any A n c F W hn hw h⟩
end Go.Proofs.YtehjfnfpebdidaaDoor
