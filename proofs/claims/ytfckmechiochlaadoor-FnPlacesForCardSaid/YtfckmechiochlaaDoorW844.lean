/- LiveWide, by the model. -/
import Derived.Test.YtfckmechiochlaaDoorW843
namespace Go.Proofs.YtfckmechiochlaaDoor
open Go.RowKit
set_option linter.unusedSimpArgs false
/-- How many numbers there are, for a set that is kept. -/
def nK (n : Nat) (F : Nat → Wid) (x : Int) : Nat := if vkB n F x then n else 0
theorem mask_all (R i : Nat) (hR : R < 2 ^ (i + 1)) (hi : i < 8) : bits .and .i64 (R : Int) (((2 ^ (i + 1) : Nat) : Int) - 1) = (R : Int) := by
  have h8 : 2 ^ (i + 1) ≤ 256 := pow8 (by omega)
  have h1 : 1 ≤ 2 ^ (i + 1) := Nat.two_pow_pos _
  rw [show (((2 ^ (i + 1) : Nat) : Int) - 1) = ((2 ^ (i + 1) - 1 : Nat) : Int) by omega, and63 R _ (by omega) (by omega), Nat.and_two_pow_sub_one_eq_mod, Nat.mod_eq_of_lt hR]
set_option maxRecDepth 100000 in
set_option maxHeartbeats 8000000 in
theorem SpecLiveWide_yes (A : Option Addr) (n c x : Nat) (F : Nat → Wid) (w : World) (hv : vwB n F = true) (hx : x < 2 ^ n) (h : Wds w A n F) :
    Calls Tryd.prog 56 #[.slice A n c, .int .i64 x] w (NumRes n (fun j => (rowW F x n j : Int)) w) := by
  have hn := (vwB_iff.1 hv).2
  have HK := shade (validKept_any A n c x F w (by omega) h)
  rw [vkB_iff.2 ⟨hv, x, rfl, hx⟩] at HK
  have HL := shade (fun W (hg : w.grownBy W none) => liveWide_any A n c x F W hv hx (h.on hg))
  have HRW := shade (fun i (hi : i < n) => rowW_lt (vwB_iff.1 hv).1 hx i hi)
  clear h hv hx
  go_enter Tryd.func56, Tryd.ntmps56
  go_wp2_with fail
  refine HK.out.mono ?_
  rintro e w1 ⟨rfl, hg1⟩
  have HG1 := shade hg1
  clear hg1 HK
  go_wp2_with fail
  refine (HL.out _ HG1.out).mono ?_
  rintro e w2 h2
  obtain ⟨v, rfl, ho, hg2⟩ := NumRes.after HG1.out h2
  have HO := shade ho
  have HG2 := shade hg2
  clear ho hg2 h2 HL HG1
  obtain ⟨A4, c4, rfl, -⟩ := ownsRow_slice HO.out
  go_wp2
  go_loopw [6] (fun q wr => ∃ (i : Nat), i ≤ n ∧ q = .int .i64 (i : Int) ∧ w.grownBy wr none ∧ wr.ownsRow w.heap.size 3 1 (.slice A4 n c4) n (numL n (fun j => (rowW F x n j : Int)))) (fun q _ => n - (intOf q).toNat)
  case atStart => exact ⟨0, Nat.zero_le _, rfl, HG2.out, HO.out⟩
  case round =>
    obtain ⟨i, hi, rfl, hg, ho⟩ := hrel
    by_cases hin : i < n
    · obtain ⟨g, rfl⟩ : ∃ g, A4 = some ⟨g, 0, none⟩ := by
        rcases ho.2 with ⟨e, h0⟩ | ⟨g', c', cur, e, _⟩
        · omega
        · injection e with e
          exact ⟨g', e⟩
      have hS : SetR w wr 3 g n c4 (fun j => rowW F x n j) := ⟨ho, hg⟩
      have hcell := hS.cell i hin
      have fr := hS.free i
      have HS2 := shade ((hS.set i (rowW F x n i)).congr (f' := fun j => rowW F x n j) (fun j _ => by
        show (if j = i then _ else _) = _
        by_cases e : j = i
        · rw [if_pos e, e]
        · rw [if_neg e]))
      have hm := mask_all _ i (HRW.out i hin) (by omega)
      have HPW := shade (fun W => power_nat (i + 1) (by omega) W)
      rw [show ((i + 1 : Nat) : Int) = (i : Int) + 1 by omega] at HPW
      have hwr : IntKind.i64.wrap ((i : Int) + 1) = (i : Int) + 1 := by
        have := wrap63 (i + 1) (by omega)
        rwa [show ((i + 1 : Nat) : Int) = (i : Int) + 1 by omega] at this
      have hP1 : 1 ≤ 2 ^ (i + 1) := Nat.two_pow_pos _
      have hP2 : 2 ^ (i + 1) ≤ 256 := pow8 (by omega)
      have hwp : IntKind.i64.wrap (((2 ^ (i + 1) : Nat) : Int) - 1) = ((2 ^ (i + 1) : Nat) : Int) - 1 := by
        have := wrap63 (2 ^ (i + 1) - 1) (by omega)
        rwa [show ((2 ^ (i + 1) - 1 : Nat) : Int) = ((2 ^ (i + 1) : Nat) : Int) - 1 by omega] at this
      have hm2 : bits .and .i64 (rowW F x n i : Int) (IntKind.i64.wrap (((2 ^ (i + 1) : Nat) : Int) - 1)) = (rowW F x n i : Int) := by rw [hwp]; exact hm
      have HPW2 := shade (fun W => show Calls Tryd.prog 46 #[.int .i64 (IntKind.i64.wrap ((i : Int) + 1))] W fun e w' => e = .returned (.int .i64 ((2 ^ (i + 1) : Nat) : Int)) ∧ W = w' by rw [hwr]; exact HPW.out W)
      have iq0 : (0 : Int) ≤ (i : Int) := by omega
      have iq : (i : Int) < (n : Int) := by omega
      clear hg ho hS hwr hwp hP1 hP2 HO HG2
      generalize 2 ^ (i + 1) = P at *
      generalize rowW F x n i = R at *
      go_wp2_with (first
          | (go_at_call 46; refine (HPW.out _).mono ?_; rintro e w' ⟨rfl, rfl⟩)
          | go_in)
      have HC := shade (And.intro hcell fr)
      have HC2 := shade (show ∀ W : World, (wr.setCell ⟨g, i, none⟩ (.int .i64 (R : Int))).cell? ⟨g, i, none⟩ = some (.int .i64 (R : Int)) ∧ (wr.setCell ⟨g, i, none⟩ (.int .i64 (R : Int))).frozen? ⟨g, i, none⟩ = false from fun _ => ⟨World.cell?_setCell_same' wr ⟨g, i, none⟩ (.int .i64 (R : Int)) (by rw [hcell]; rfl), by rw [World.frozen?_setCell]; exact fr⟩)
      have HCd := shade (show wr.drew.cell? ⟨g, i, none⟩ = some (.int .i64 (R : Int)) ∧ wr.drew.frozen? ⟨g, i, none⟩ = false from ⟨hcell, fr⟩)
      have HC2d := shade (show ∀ W : World, (wr.drew.setCell ⟨g, i, none⟩ (.int .i64 (R : Int))).cell? ⟨g, i, none⟩ = some (.int .i64 (R : Int)) ∧ (wr.drew.setCell ⟨g, i, none⟩ (.int .i64 (R : Int))).frozen? ⟨g, i, none⟩ = false from HC2.out)
      have HC2e := shade (show ∀ W : World, (wr.setCell ⟨g, i, none⟩ (.int .i64 (R : Int))).drew.cell? ⟨g, i, none⟩ = some (.int .i64 (R : Int)) ∧ (wr.setCell ⟨g, i, none⟩ (.int .i64 (R : Int))).drew.frozen? ⟨g, i, none⟩ = false from HC2.out)
      clear hcell fr
      have iw : (i : Int) + 1 ≤ 9223372036854775807 := by omega
      have iw2 : (i : Int) ≤ 8 := by omega
      go_region_held3 (fun w' => w'.cell? ⟨g, i, none⟩ = some (.int .i64 (R : Int)) ∧ w'.frozen? ⟨g, i, none⟩ = false)
        (first | with_reducible exact HC.out | with_reducible exact HCd.out | with_reducible exact HC2.out wr | with_reducible exact HC2d.out wr | with_reducible exact HC2e.out wr)
        ((go_at_call 46; refine (HPW2.out _).mono ?_; rintro e w' ⟨rfl, rfl⟩))
      rename_i hHeld
      clear hHeld
      go_wp2
      go_roundw
      case rel => exact ⟨i + 1, by omega, by go_num, grown_same HS2.out.low (grown_drew1 _), ownsRow_on HS2.out.own (grown_drew1 _)⟩
      case measure => simp [intOf]; omega
    · have e : i = n := by omega
      subst e
      have HO2 := shade ho
      have HG := shade hg
      clear ho hg
      go_wp2
      go_ret
      exact ⟨_, rfl, HO2.out, HG.out⟩
/-- What is needed, as numbers. -/
def rowK (F : Nat → Wid) (x : Int) (n : Nat) : Nat → Int := fun j => (rowW F x.toNat n j : Int)
theorem SpecLiveWide_any (A : Option Addr) (n c : Nat) (x : Int) (F : Nat → Wid) (w : World) (hn : n ≤ 9223372036854775807) (h : Wds w A n F) :
    Calls Tryd.prog 56 #[.slice A n c, .int .i64 x] w (NumRes (nK n F x) (rowK F x n) w) := by
  unfold nK
  rcases hv : vkB n F x with _ | _
  · have HK := shade (validKept_any A n c x F w hn h)
    rw [hv] at HK
    clear h hv
    go_enter Tryd.func56, Tryd.ntmps56
    go_wp2_with fail
    refine HK.out.mono ?_
    rintro e w1 ⟨rfl, hg1⟩
    have HG1 := shade hg1
    clear hg1 HK
    go_wp2
    go_ret
    exact NumRes.nil _ _ _ HG1.out
  · obtain ⟨h1, y, rfl, hy⟩ := vkB_iff.1 hv
    exact SpecLiveWide_yes A n c y F w h1 hy h
end Go.Proofs.YtfckmechiochlaaDoor
