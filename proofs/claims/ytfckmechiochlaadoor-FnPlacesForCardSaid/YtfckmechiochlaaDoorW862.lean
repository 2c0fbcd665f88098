/- The least registers, by the program. -/
import Derived.Test.YtfckmechiochlaaDoorW861
namespace Go.Proofs.YtfckmechiochlaaDoor
open Go.RowKit
set_option linter.unusedSimpArgs false
theorem info_place : (Tryd.prog.info? 68).map (fun i => (i.zero, i.size, i.bytes)) = some (some (.int .i64 0), 1, 8) := by kernel_rfl
set_option maxRecDepth 100000 in
set_option maxHeartbeats 8000000 in
theorem takenPlaces_any (R k c : Nat) (A : Option Addr) (p : Nat → Nat) (w : World) (hR : R < 256) (hk : k ≤ 8) (hp : ∀ j, j < k → p j < 8) (hn : Nums w A k (fun j => (p j : Int))) :
    Calls Tryd.prog 85 #[.int .i64 R, .slice A k c] w fun e w' => e = .returned (.int .i64 (usd R p k : Nat)) ∧ ∃ m, w.drewN m = w' := by
  have HN := shade hn
  have HP := shade hp
  clear hn hp
  go_enter Tryd.func85, Tryd.ntmps85
  go_wp2
  go_loopw [5, 10] (fun u q wr => ∃ j m : Nat, j ≤ k ∧ q = .int .i64 j ∧ u = .int .i64 ((usd R p j : Nat) : Int) ∧ w.drewN m = wr) (fun _ q _ => k - (intOf q).toNat)
  case atStart => exact ⟨0, 0, Nat.zero_le _, rfl, rfl, rfl⟩
  case round =>
    obtain ⟨j, m, hj, rfl, rfl, rfl⟩ := hrel
    by_cases hjk : j < k
    · obtain ⟨b, off, rfl, -⟩ := HN.out.resolve_left (by omega)
      have q0 : _ = some (Value.int .i64 ((p j : Nat) : Int)) := HN.out.cell hjk
      have hpj := HP.out j hjk
      have hU := lt256 (usd_lt R p 8 j (fun t ht => HP.out t (by omega))) (by omega)
      have HH := shade (fun W => has_any R j W hR (by omega))
      have HX := shade (show usd R p (j + 1) = if R.testBit j then usd R p j ||| 2 ^ p j else usd R p j from rfl)
      have HWI := shade (fun W => withP_any (usd R p j) (p j) W hU hpj)
      generalize usd R p j ||| 2 ^ p j = U2 at *
      generalize usd R p j = U at *
      obtain ⟨pj, hpp⟩ : ∃ pj, p j = pj := ⟨_, rfl⟩
      rw [hpp] at q0 HWI
      clear hpp hpj hU
      rcases hb : R.testBit j with _ | _
      · rw [hb] at HX HH
        clear hb
        go_wp2_with (first
          | (go_at_call 86; refine (HH.out _).mono ?_; rintro e w' ⟨rfl, rfl⟩)
          | go_in)
        go_roundw
        case rel => exact ⟨j + 1, m, by omega, by go_num, by rw [HX.out]; rfl, rfl⟩
        case measure => simp [intOf]; omega
      · rw [hb] at HX HH
        rw [if_pos rfl] at HX
        clear hb
        go_wp2_with (first
          | (go_at_call 86; refine (HH.out _).mono ?_; rintro e w' ⟨rfl, rfl⟩)
          | (go_at_call 103; refine (HWI.out _).mono ?_; rintro e w' ⟨rfl, rfl⟩)
          | go_in)
        go_roundw
        case rel => exact ⟨j + 1, m, by omega, by go_num, by rw [HX.out], rfl⟩
        case measure => simp [intOf]; omega
    · have e : j = k := by omega
      subst e
      go_wp2
      go_ret
      exact ⟨rfl, m, rfl⟩
theorem rowT_more {w : World} {B k : Nat} {t : TypeId} {v : Value} {f : Nat → Int} {x : Int} (h : w.ownsRow B t 1 v (k + 1) (numL k f ++ [.int .i64 x])) (hx : f k = x) : w.ownsRow B t 1 v (k + 1) (numL (k + 1) f) := by
  rw [← numL_snoc, hx]
  exact h
/-- What placed leaves. -/
def PlcRes (k : Nat) (ok : Bool) (f : Nat → Int) (w : World) (e : Ending) (w' : World) : Prop :=
  ∃ v, e = .returned (.tuple #[v, .bool ok]) ∧ w'.ownsRow w.heap.size 68 1 v k (numL k f) ∧ w.grownBy w' none
set_option maxRecDepth 100000 in
set_option maxHeartbeats 8000000 in
theorem placed_any (A : Option Addr) (n c : Nat) (x : Int) (F : Nat → Wid) (w : World) (hw : WT w) (hn : n ≤ 9223372036854775807) (h : Wds w A n F) :
    Calls Tryd.prog 52 #[.slice A n c, .int .i64 x] w (PlcRes (nK n F x) (vkB n F x) (plK F x n) w) := by
  have HN := shade (neededOf_any A n c x F w hw hn h)
  have h8 := nK_le n F x
  have HK := shade (show ∀ i, i < nK n F x → rowW F x.toNat n i < 256 ∧ i < n ∧ n ≤ 8 from fun i hi => by
    unfold nK at hi
    rcases hv : vkB n F x with _ | _
    · rw [hv] at hi
      exact absurd hi (by simp)
    · rw [hv] at hi
      obtain ⟨h1, y, rfl, hy⟩ := vkB_iff.1 hv
      have hi : i < n := hi
      exact ⟨lt256 (rowW_lt (vwB_iff.1 h1).1 hy i hi) (by have := (vwB_iff.1 h1).2; omega), hi, (vwB_iff.1 h1).2⟩)
  unfold NedRes at HN
  generalize nK n F x = K at *
  generalize vkB n F x = ok at *
  obtain ⟨i0, hi0, hz0, hz1, hz2⟩ := info_parts info_place
  clear h hw
  go_enter Tryd.func52, Tryd.ntmps52
  go_wp2_with fail
  refine HN.out.mono ?_
  rintro e w1 ⟨v, rfl, ho1, hg1⟩
  obtain ⟨A4, c4, rfl, -⟩ := ownsRow_slice ho1
  have HR := shade (rowT_cell ho1)
  have HG1 := shade hg1
  clear ho1 hg1 HN
  go_wp2
  go_loopw [8, 19] (fun v q wr => ∃ i : Nat, i ≤ K ∧ q = .int .i64 i ∧ w1.grownBy wr none ∧ wr.ownsRow w1.heap.size 68 1 v i (numL i (plK F x n))) (fun _ q _ => K - (intOf q).toNat)
  case atStart => exact ⟨0, Nat.zero_le _, rfl, grown_refl _ _, World.ownsRow_nil _ _ _ _⟩
  case round =>
    obtain ⟨i, hi, rfl, hgr, hown⟩ := hrel
    obtain ⟨A5, c5, rfl, -⟩ := ownsRow_slice hown
    have HRR := shade hgr
    have HO := shade hown
    have hgl := hgr.size
    by_cases hin : i < K
    · have hn2 := HR.out.grown hgr (by intro _ _ _ e; cases e)
      obtain ⟨b, off, rfl, -⟩ := hn2.resolve_left (by omega)
      obtain ⟨hR8, hin2, hn8⟩ := HK.out i hin
      have q0 : _ = some (Value.int .i64 ((rowW F x.toNat n i : Nat) : Int)) := hn2.cell hin
      have hpb : ∀ j, j < i → plW F x.toNat n j < 8 := fun j hj => by
        have := pl_le (rowW F x.toNat n) (j + 1) j (by omega) (by omega)
        show pl _ j < 8
        omega
      have HT := shade (takenPlaces_any (rowW F x.toNat n i) i c5 A5 (plW F x.toNat n) wr hR8 (by omega) hpb (rowT_cell hown))
      have hU := lt256 (usd_at (rowW F x.toNat n) (rowW F x.toNat n i) i i (Nat.le_refl _) (by omega)) (show i ≤ 8 by omega)
      have HLO := shade (fun W => leastOutside_any (usd (rowW F x.toNat n i) (plW F x.toNat n) i) W hU)
      have HPL := shade (show plK F x n i = ((lst (usd (rowW F x.toNat n i) (plW F x.toNat n) i) : Nat) : Int) from congrArg (fun z : Nat => (z : Int)) (pl_eq _ i))
      obtain ⟨r, hr⟩ : ∃ r, rowW F x.toNat n i = r := ⟨_, rfl⟩
      rw [hr] at q0 HT HLO HPL
      clear hr hgr hown hn2 hpb hU hR8
      generalize usd r (plW F x.toNat n) i = U at *
      generalize lst U = L at *
      go_wp2_with fail
      refine HT.out.mono ?_
      rintro e w4 ⟨rfl, m, rfl⟩
      have HOD := shade (ownsRow_on HO.out (grown_drewN (grown_refl wr none) m))
      have hzd : (wr.drewN m).heap.size = wr.heap.size := rfl
      have HRD := shade (grown_drewN HRR.out m)
      obtain ⟨wq, hwq⟩ : ∃ wq, wr.drewN m = wq := ⟨_, rfl⟩
      rw [hwq] at HOD hzd HRD ⊢
      clear hwq
      have hgl2 : w1.heap.size ≤ wq.heap.size := by omega
      clear hzd
      go_wp2_with (first
        | (go_at_call 84; refine (HLO.out _).mono ?_; rintro e w' ⟨rfl, rfl⟩)
        | (at_builtin; refine wpList_append_own _ rfl _ _ 65 rfl w1.heap.size 68 i0 (.int .i64 0) 1 8 Tryd.underlying65 hi0 hz0 hz1 hz2 rfl (by decide) _ _ _ rfl (World.ownsRow.alloc HOD.out _) ⟨wq.heap.size, 0, none⟩ 1 1 [.int .i64 (L : Int)] rfl rfl (int_new _ _ _) (int_one _) (by unfold maxLen; omega) (by omega) (by simp; omega) ?_)
        | go_in)
      intro v8 w8 hown8 hgr8 hnil8
      have HO8 := shade (rowT_more hown8 HPL.out)
      have HZ8 := shade (grown_row (grown_same HRD.out (World.grownBy_alloc wq (.cells #[.int .i64 (L : Int)] 68) none)) hgr8 (fun j e => (World.ownsRow.lt HOD.out j e).1))
      clear hown8 hgr8 hnil8
      go_wp2
      go_roundw
      case rel => exact ⟨i + 1, by omega, by go_num, HZ8.out, HO8.out⟩
      case measure => simp [intOf]; omega
    · have e : i = K := by omega
      subst e
      clear hgr hown
      go_wp2
      go_ret2
      exact ⟨_, rfl, World.ownsRow.mono HO.out HG1.out.size, grown_same HG1.out HRR.out⟩
end Go.Proofs.YtfckmechiochlaaDoor
