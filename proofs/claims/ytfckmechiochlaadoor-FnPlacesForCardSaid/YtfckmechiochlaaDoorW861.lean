/- The least registers, by the model. -/
import Derived.Test.YtfckmechiochlaaDoorW860
import Derived.Maps.AppendAt
namespace Go.Proofs.YtfckmechiochlaaDoor
open Go.RowKit
set_option linter.unusedSimpArgs false
/-- The registers of numbers. -/
def plW (F : Nat → Wid) (x n : Nat) : Nat → Nat := pl (rowW F x n)
theorem row_pos {w : World} {B k : Nat} {A : Option Addr} {c : Nat} {t : TypeId} {xs : List Value} (h : w.ownsRow B t 1 (.slice A k c) k xs) (hk : 0 < k) : ∃ g, A = some ⟨g, 0, none⟩ ∧ B ≤ g ∧ g < w.heap.size := by
  rcases h.2 with ⟨e, h0⟩ | ⟨g', c', cur, e, _⟩
  · omega
  · have hh := h
    injection e with e
    subst e
    exact ⟨g', rfl, World.ownsRow.lt hh g' rfl⟩
set_option maxRecDepth 100000 in
set_option maxHeartbeats 16000000 in
theorem placesFor_yes (A : Option Addr) (n c x : Nat) (F : Nat → Wid) (w : World) (hv : vwB n F = true) (hx : x < 2 ^ n) (h : Wds w A n F) :
    Calls Tryd.prog 55 #[.slice A n c, .int .i64 x] w (NumRes n (fun j => (plW F x n j : Int)) w) := by
  have hn := (vwB_iff.1 hv).2
  have HL := shade (fun W (hg : w.grownBy W none) => SpecLiveWide_yes A n c x F W hv hx (h.on hg))
  have HR := shade (fun i (hi : i < n) => lt256 (rowW_lt (vwB_iff.1 hv).1 hx i hi) (by omega))
  clear h hv hx
  obtain ⟨i0, hi0, hz0, hz1, hz2⟩ := info_parts info3
  have HO0 := shade (World.ownsRow_lit (base := w.heap.size) (e := 3) (size := 1) w #[] 0 (by omega) (by decide) rfl)
  go_enter Tryd.func55, Tryd.ntmps55
  go_wp2_with fail
  refine (HL.out _ (World.grownBy_alloc _ _ _)).mono ?_
  rintro e w1 ⟨v, rfl, ho1, hg1⟩
  obtain ⟨A4, c4, rfl, -⟩ := ownsRow_slice ho1
  have HB4 := shade (fun b off (e : A4 = some ⟨b, off, none⟩) => show w.heap.size + 1 ≤ b from by
    rcases ho1.2 with ⟨e', h0⟩ | ⟨g', c', cur, e', hb', _⟩
    · injection e' with e'
      rw [e] at e'
      cases e'
    · injection e' with e'
      rw [e] at e'
      injection e' with e'
      injection e' with e1 e2
      rw [World.size_alloc] at hb'
      omega)
  have ho2 := ownsRow_on HO0.out hg1
  have HM := shade (rowT_cell ho1)
  have HG1 := shade (grown_same (World.grownBy_alloc _ _ _) hg1)
  have HO1 := shade ho2
  clear ho1 hg1 ho2 HL HO0
  have hsz1 := HG1.out.size
  go_wp2
  go_loopw [5, 7] (fun v q wr => ∃ i : Nat, i ≤ n ∧ q = .int .i64 i ∧ w.grownBy wr none ∧ Nums wr A4 n (fun j => (rowW F x n j : Int)) ∧ wr.ownsRow w.heap.size 3 1 v i (numL i (fun j => (plW F x n j : Int))) ∧ (∀ b off, A4 = some ⟨b, off, none⟩ → v.ownBlock ≠ some b)) (fun _ q _ => n - (intOf q).toNat)
  case atStart => exact ⟨0, Nat.zero_le _, rfl, HG1.out, HM.out, HO1.out, fun b off e => by
    have := HB4.out b off e
    show some w.heap.size ≠ some b
    simp
    omega⟩
  case round =>
    obtain ⟨i, hi, rfl, hgr, hnm, hown, hne⟩ := hrel
    obtain ⟨A5, c5, rfl, -⟩ := ownsRow_slice hown
    by_cases hin : i < n
    · obtain ⟨g4, o4, rfl, hg4, -⟩ := hnm.resolve_left (by omega)
      have q0 : wr.cell? ⟨g4, o4 + i, none⟩ = some (Value.int .i64 ((rowW F x n i : Nat) : Int)) := hnm.cell hin
      have HRi := HR.out i hin
      have HUS := shade (fun k (hk : k ≤ i) => usd_at (rowW F x n) (rowW F x n i) k i hk (by omega))
      have HPL := shade (show plW F x n i = lst (usd (rowW F x n i) (plW F x n) i) from pl_eq _ i)
      have HPB := shade (fun k (hk : k < i) => show plW F x n k ≤ k from pl_le _ (k + 1) k (by omega) (by omega))
      have HNM := shade hnm
      have HO := shade hown
      have HG := shade hgr
      have HNE := shade hne
      have hsz := hgr.size
      clear hnm hown hgr hne
      obtain ⟨r, hr⟩ : ∃ r, rowW F x n i = r := ⟨_, rfl⟩
      rw [hr] at q0 HRi HUS HPL
      clear hr
      obtain ⟨wo, rfl⟩ : ∃ wo : World, wo = wr := ⟨_, rfl⟩
      go_wp2
      go_loopw [8, 9] (fun u q wr => ∃ k m : Nat, k ≤ i ∧ q = .int .i64 k ∧ u = .int .i64 ((usd r (plW F x n) k : Nat) : Int) ∧ wr = wo.drewN m) (fun _ q _ => i - (intOf q).toNat)
      case atStart => exact ⟨0, 0, Nat.zero_le _, rfl, rfl, rfl⟩
      case round =>
        obtain ⟨k, m, hk, rfl, rfl, rfl⟩ := hrel
        by_cases hki : k < i
        · have hU := lt256 (HUS.out k hk) (by omega)
          have HBT := shade (fun W => bitS_any r k W HRi (by omega))
          have hbi : bi r k = if r.testBit k then 1 else 0 := rfl
          obtain ⟨g5, rfl, hg5, hg5l⟩ := row_pos HO.out (by omega)
          have q1 : wo.cell? ⟨g5, k, none⟩ = some (Value.int .i64 ((plW F x n k : Nat) : Int)) := by
            have := (row_cell HO.out).cell hki
            rwa [Nat.zero_add] at this
          have hp := HPB.out k hki
          have HPW := shade (fun W => power_nat (plW F x n k) (by omega) W)
          have hpw : 2 ^ plW F x n k < 256 := lt256 (pow_lt (show plW F x n k < k + 1 by omega)) (by omega)
          have eor := or63 (usd r (plW F x n) k) (2 ^ plW F x n k) hU hpw
          have HX := shade (show usd r (plW F x n) (k + 1) = if r.testBit k then usd r (plW F x n) k ||| 2 ^ plW F x n k else usd r (plW F x n) k from rfl)
          rcases hb : r.testBit k with _ | _
          · rw [hb] at HX hbi
            rw [hbi] at HBT
            clear hb hbi hU hpw eor hp q1 HPW
            go_wp2_with (first
              | (go_at_call 88; refine (HBT.out _).mono ?_; rintro e w' ⟨rfl, rfl⟩)
              | go_in)
            go_roundw
            case rel => exact ⟨k + 1, _, by omega, by go_num, by rw [HX.out]; rfl, rfl⟩
            case measure => simp [intOf]; omega
          · rw [hb] at HX hbi
            rw [hbi] at HBT
            rw [if_pos rfl] at HX
            generalize usd r (plW F x n) k ||| 2 ^ plW F x n k = U2 at *
            generalize 2 ^ plW F x n k = P at *
            generalize plW F x n k = p at *
            generalize usd r (plW F x n) k = U at *
            clear hb hbi hU hpw hp
            go_wp2_with (first
              | (go_at_call 88; refine (HBT.out _).mono ?_; rintro e w' ⟨rfl, rfl⟩)
              | (go_at_call 46; refine (HPW.out _).mono ?_; rintro e w' ⟨rfl, rfl⟩)
              | go_in)
            go_roundw
            case rel => exact ⟨k + 1, _, by omega, by go_num, by rw [HX.out], rfl⟩
            case measure => simp [intOf]; omega
        · obtain rfl : k = i := by omega
          have hlt := lst_told (usd r (plW F x n) k) k (by omega) (HUS.out k (Nat.le_refl _))
          have hU := lt256 (HUS.out k (Nat.le_refl _)) (by omega)
          rw [← HPL.out] at hlt
          obtain ⟨hL, hB, hE⟩ := hlt
          have HBT := shade (fun j (hj : j ≤ 8) W => bitS_any (usd r (plW F x n) k) j W hU hj)
          have HBB := shade (fun j (hj : j < plW F x n k) => show bi (usd r (plW F x n) k) j = 1 by unfold bi; rw [hB j hj]; rfl)
          have HBE := shade (show bi (usd r (plW F x n) k) (plW F x n k) = 0 by unfold bi; rw [hE]; rfl)
          have hnum : ∀ L, plW F x n k = L → Hid (plW F x n k = L) := fun L h => shade h
          obtain ⟨L, hLL⟩ : ∃ L, plW F x n k = L := ⟨_, rfl⟩
          have HLL := hnum L hLL
          rw [hLL] at hL HBB HBE
          clear hB hE hnum hLL
          generalize usd r (plW F x n) k = U at *
          have HOD := shade (ownsRow_on HO.out (grown_drewN (grown_refl wo none) m))
          have HGD := shade (grown_drewN HG.out m)
          have HND := shade (show Nums (wo.drewN m) _ _ _ from HNM.out)
          have hzd : (wo.drewN m).heap.size = wo.heap.size := rfl
          have hg4d : g4 < (wo.drewN m).heap.size := hg4
          have hszd : w.heap.size ≤ (wo.drewN m).heap.size := hsz
          clear q0 hzd
          go_wp2_with fail
          obtain ⟨wq, hwq⟩ : ∃ wq, wo.drewN m = wq := ⟨_, rfl⟩
          rw [hwq] at HOD HGD HND hg4d hszd ⊢
          clear hwq
          go_loopw [10] (fun q wr => ∃ j : Nat, j ≤ L ∧ q = .int .i64 j ∧ wq = wr) (fun q _ => L - (intOf q).toNat)
          case atStart => exact ⟨0, Nat.zero_le _, rfl, rfl⟩
          case round =>
            obtain ⟨j, hj, rfl, rfl⟩ := hrel
            by_cases hjl : j < L
            · have HC := shade (fun W => HBT.out j (by omega) W)
              rw [HBB.out j hjl] at HC
              go_wp2_with (first
                | (go_at_call 88; refine (HC.out _).mono ?_; rintro e w' ⟨rfl, rfl⟩)
                | go_in)
              go_roundw
              case rel => exact ⟨j + 1, by omega, by go_num, trivial⟩
              case measure => simp [intOf]; omega
            · obtain rfl : j = L := by omega
              have HC := shade (fun W => HBT.out j (by omega) W)
              rw [HBE.out] at HC
              go_wp2_with (first
                | (go_at_call 88; refine (HC.out _).mono ?_; rintro e w' ⟨rfl, rfl⟩)
                | (at_builtin; refine wpList_append_own_at _ rfl _ _ 27 rfl w.heap.size 3 i0 (.int .i64 0) 1 8 Tryd.underlying27 hi0 hz0 hz1 hz2 rfl (by decide) _ _ _ rfl (World.ownsRow.alloc HOD.out _) ⟨wq.heap.size, 0, none⟩ 1 1 [.int .i64 (j : Int)] rfl rfl (int_new _ _ _) (int_one _) (by unfold maxLen; omega) (by omega) (by simp; omega) ?_)
                | go_in)
              intro v8 w8 hown8 hgr8 hnil8 hat8
              have HO8 := shade (row_more hown8 (show ((plW F x n k : Nat) : Int) = (j : Int) by rw [HLL.out]))
              have hga := World.grownBy_alloc wq (.cells #[.int .i64 (j : Int)] 3) none
              have HZ8 := shade (grown_row (grown_same HGD.out hga) hgr8 (fun j e => (World.ownsRow.lt HOD.out j e).1))
              have HN8 := shade ((HND.out.grown hga (by intro _ _ _ e; cases e)).grown hgr8 (fun b off e e' => HNE.out b off e e'.symm))
              have HE8 := shade (fun b off (e : some (⟨g4, o4, none⟩ : Addr) = some ⟨b, off, none⟩) => show v8.ownBlock ≠ some b by
                rcases hat8 with h | h
                · rw [h]
                  exact HNE.out b off e
                · rw [h]
                  intro e'
                  injection e' with e'
                  injection e with e
                  injection e with e1 e2
                  omega)
              clear hown8 hgr8 hnil8 hga hat8
              go_wp2
              go_roundw
              case rel => exact ⟨k + 1, by omega, by go_num, HZ8.out, HN8.out, HO8.out, HE8.out⟩
              case measure => simp [intOf]; omega
    · have e : i = n := by omega
      subst e
      have HO := shade hown
      have HG := shade hgr
      clear hown hgr hnm hne
      go_wp2
      go_ret
      exact ⟨_, rfl, HO.out, HG.out⟩
/-- The registers, as numbers. -/
def plK (F : Nat → Wid) (x : Int) (n : Nat) : Nat → Int := fun j => (plW F x.toNat n j : Int)
theorem SpecPlacesFor_any (A : Option Addr) (n c : Nat) (x : Int) (F : Nat → Wid) (w : World) (hn : n ≤ 9223372036854775807) (h : Wds w A n F) :
    Calls Tryd.prog 16 #[.slice A n c, .int .i64 x] w (NumRes (nK n F x) (plK F x n) w) := by
  have HK := shade (validKept_any A n c x F w hn h)
  unfold nK
  rcases hv : vkB n F x with _ | _
  · rw [hv] at HK
    clear h hv
    go_enter Tryd.func16, Tryd.ntmps16
    go_wp2_with fail
    refine HK.out.mono ?_
    rintro e w1 ⟨rfl, hg1⟩
    have HG1 := shade hg1
    clear hg1 HK
    go_wp2
    go_ret
    exact NumRes.nil _ _ _ HG1.out
  · obtain ⟨h1, y, rfl, hy⟩ := vkB_iff.1 hv
    have HW := shade (fun W (hg : w.grownBy W none) => placesFor_yes A n c y F W h1 hy (h.on hg))
    rw [hv] at HK
    clear h hv h1 hy
    go_enter Tryd.func16, Tryd.ntmps16
    go_wp2_with fail
    refine HK.out.mono ?_
    rintro e w1 ⟨rfl, hg1⟩
    have HG1 := shade hg1
    clear hg1 HK
    go_wp2_with fail
    refine (HW.out _ HG1.out).mono ?_
    rintro e w3 h3
    obtain ⟨v, rfl, ho, h2⟩ := NumRes.after HG1.out h3
    have HO := shade ho
    have H2 := shade h2
    clear ho h2 h3
    go_wp2
    go_ret
    exact ⟨_, rfl, HO.out, H2.out⟩
end Go.Proofs.YtfckmechiochlaaDoor
