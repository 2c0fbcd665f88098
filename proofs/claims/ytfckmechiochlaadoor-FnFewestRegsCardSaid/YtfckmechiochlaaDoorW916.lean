/- Registers that are tried: the program's canPlace. -/
import Derived.Test.YtfckmechiochlaaDoorW915
namespace Go.Proofs.YtfckmechiochlaaDoor
open Go.RowKit
set_option linter.unusedSimpArgs false
theorem usd_clash (R : Nat → Nat) (n i r : Nat) (p : Nat → Nat) : (usd (wi R i n) p i).testBit r = true ↔ ∃ j, j < i ∧ clB R j i n = true ∧ p j = r := by
  rw [usd_bit]
  constructor
  · rintro ⟨j, h1, h2, h3⟩
    exact ⟨j, h1, (wi_bit R j i n).symm.trans h2, h3⟩
  · rintro ⟨j, h1, h2, h3⟩
    exact ⟨j, h1, (wi_bit R j i n).trans h2, h3⟩
theorem usd_no {R : Nat → Nat} {n i r : Nat} {p : Nat → Nat} (h : (usd (wi R i n) p i).testBit r = true) : ¬ okR R n p i r := fun hk => by
  obtain ⟨j, h1, h2, h3⟩ := (usd_clash R n i r p).1 h
  exact hk j h1 h2 h3
theorem usd_ok {R : Nat → Nat} {n i r : Nat} {p : Nat → Nat} (h : (usd (wi R i n) p i).testBit r = false) : okR R n p i r := fun j h1 h2 h3 => by
  have := (usd_clash R n i r p).2 ⟨j, h1, h2, h3⟩
  rw [h] at this
  cases this
theorem nums_below {w w' : World} {A : Option Addr} {n B : Nat} {f : Nat → Int} (h : Nums w A n f) (hA : ∀ b off, A = some ⟨b, off, none⟩ → b < B) (hb : Below B w w') : Nums w' A n f := by
  rcases h with h | ⟨b, off, hA2, hlt, hc⟩
  · exact .inl h
  · refine .inr ⟨b, off, hA2, Nat.lt_of_lt_of_le hlt hb.size, fun j hj => ?_⟩
    rw [← hc j hj]
    exact hb.cell (hA b off hA2)
set_option maxRecDepth 100000 in
set_option maxHeartbeats 16000000 in
theorem canPlace_any {n m : Nat} {R : Nat → Nat} (hv : IV R n) (hm : m ≤ 8) : ∀ (d i : Nat), d + i = n → ∀ (Aw : Option Addr) (cw B : Nat) (v : Value) (p : Nat → Nat) (w : World), Nums w Aw n (fun j => ((wi R j n : Nat) : Int)) → (∀ b off, Aw = some ⟨b, off, none⟩ → b < B) → B ≤ w.heap.size →
    w.ownsRow B 68 1 v i (numL i (fun j => (p j : Int))) → (∀ j, j < i → p j < m) →
    Calls Tryd.prog 54 #[.slice Aw n cw, v, .int .i64 m] w fun e w' => ∃ b, e = .returned (.bool b) ∧ Ans R n m p i b ∧ w'.ownsRow B 68 1 v i (numL i (fun j => (p j : Int))) ∧ Below B w w'
  | 0, i, hd, Aw, cw, B, v, p, w, h1, hA, hB, ho, hp => by
    obtain rfl : i = n := by omega
    obtain ⟨Av, cv, rfl, -⟩ := ownsRow_slice ho
    have HV := shade hv
    have HO := shade ho
    clear h1 hv ho hA
    go_enter Tryd.func54, Tryd.ntmps54
    go_wp2_with fail
    go_ret
    exact ⟨true, rfl, Ans.full HV.out, HO.out, Below.refl _ _⟩
  | d + 1, i, hd, Aw, cw, B, v, p, w, h1, hA, hB, ho, hp => by
    have hin : i < n := by omega
    have hn8 := hv.n8
    have hin2 : ((i : Int) == (n : Int)) = false := beq_eq_false_iff_ne.2 (by omega)
    obtain ⟨Av, cv, rfl, -⟩ := ownsRow_slice ho
    have HI := shade (fun (Aw : Option Addr) (cw B : Nat) (v : Value) (p : Nat → Nat) (w : World) => canPlace_any hv hm d (i + 1) (by omega) Aw cw B v p w)
    have HV := shade hv
    have HW := shade h1
    have HA := shade hA
    have HO := shade ho
    have HP := shade hp
    have HT := shade (takenPlaces_any (wi R i n) i cv Av p w (wi_lt R i n (fun k hk => hv.lt8 k hk)) (by omega) (fun j hj => by have := hp j hj; omega) (rowT_cell ho))
    have hu8 := lt256 (usd_lt (wi R i n) p 8 i (fun j hj => by have := hp j hj; omega)) (by omega)
    have HH := shade (fun q (hq : q < m) W => hasP_any (usd (wi R i n) p i) q W hu8 (by omega))
    obtain ⟨bw, ow, rfl, -⟩ := h1.resolve_left (by omega)
    have q0 : _ = some (Value.int .i64 ((wi R i n : Nat) : Int)) := h1.cell hin
    clear h1 hv ho hA hp hu8
    have HNO := shade (fun r => usd_no (R := R) (n := n) (i := i) (r := r) (p := p))
    have HOK := shade (fun r => usd_ok (R := R) (n := n) (i := i) (r := r) (p := p))
    generalize hU : usd (wi R i n) p i = U at *
    clear hU
    generalize wi R i n = r0 at q0 HT
    go_enter Tryd.func54, Tryd.ntmps54
    go_wp2_with fail
    refine HT.out.mono ?_
    rintro e w1 ⟨rfl, x, hx⟩
    have HG1 := shade (show w.grownBy w1 none by rw [← hx]; exact grown_drewN (grown_refl _ _) x)
    clear hx HT
    go_wp2_with fail
    go_loopw [6, 23] (fun _ q wr => ∃ k : Nat, k ≤ m ∧ q = .int .i64 (k : Int) ∧ wr.ownsRow B 68 1 (.slice Av i cv) i (numL i (fun j => (p j : Int))) ∧ Below B w wr ∧ Tried R n m p i k) (fun _ q _ => m - (intOf q).toNat)
    case atStart => exact ⟨0, Nat.zero_le _, rfl, ownsRow_on HO.out HG1.out, below_of_row HG1.out hB (by intro _ e; cases e), Tried.zero _ _ _ _ _⟩
    case round =>
      obtain ⟨k, hk, rfl, hown, hbl, htr⟩ := hrel
      have HOR := shade hown
      have HBR := shade hbl
      have HTR := shade htr
      clear hown hbl htr HO HG1
      by_cases hkm : k < m
      · have HHK := shade (fun W => HH.out k hkm W)
        rcases hb : U.testBit k with _ | _
        · have HOKK := shade (HOK.out k hb)
          rw [hb] at HHK
          clear hb
          obtain ⟨i0, hi0, hz0, hz1, hz2⟩ := info_parts info_place
          have S1 := World.ownsRow.alloc HOR.out (.cells #[.int .i64 (k : Int)] 68)
          have S2 := int_new wr 68 (k : Int)
          have S3 : B ≤ (wr.alloc (.cells #[.int .i64 (k : Int)] 68)).heap.size := by
            have := HBR.out.size
            simp
            omega
          go_wp2_with (first
            | (go_at_call 87; refine (HHK.out _).mono ?_; rintro e w' ⟨rfl, rfl⟩)
            | (at_builtin; refine wpList_append_keep (by rfl) _ _ 65 rfl B 68 i0 (.int .i64 0) 1 8 Tryd.underlying65 hi0 hz0 hz1 hz2 rfl (by decide) _ i _ rfl S1 ⟨wr.heap.size, 0, none⟩ 1 1 [.int .i64 (k : Int)] rfl rfl S2 (int_one _) (by decide) (by unfold maxLen; omega) (by omega) S3 ?_)
            | go_in)
          intro v4 w4 hkeep
          obtain ⟨B2, hB1, hB2, ho4, hb4, hkp⟩ := hkeep
          have heq : numL i (fun j => (p j : Int)) ++ [.int .i64 (k : Int)] = numL (i + 1) (fun j => ((more p i k j : Nat) : Int)) := by
            rw [← numL_snoc, numL_congr i (fun j => ((more p i k j : Nat) : Int)) (fun j => (p j : Int)) (fun j hj => by rw [more_low _ _ _ _ hj]), more_at]
          rw [heq] at ho4 hkp
          have hBR := HBR.out.size
          have HBW := shade ((HBR.out.trans ((Below.refl B wr).alloc (by omega) _)).trans hb4)
          have hr5 := HI.out (some ⟨bw, ow, none⟩) cw B2 v4 (more p i k) w4 (nums_below HW.out HA.out HBW.out) (fun b off e => Nat.lt_of_lt_of_le (HA.out b off e) hB1) hB2 ho4 (fun j hj => by
            by_cases e : j = i
            · rw [e, more_at]
              exact hkm
            · rw [more_low _ _ _ _ (by omega)]
              exact HP.out j (by omega))
          have HR5 := shade hr5
          have HKP := shade hkp
          clear hr5 hkp ho4 hb4 S1 S2 S3 heq
          go_wp2_with fail
          refine HR5.out.mono ?_
          rintro e w5 ⟨b, rfl, ha, ho6, hb6⟩
          have HO6 := shade (HKP.out w5 ho6 hb6)
          have HB6 := shade (HBW.out.trans (hb6.mono hB1))
          have HAN := shade ha
          clear ha ho6 hb6 HR5 HKP HBW
          rcases b with _ | _
          · have HN := shade (HTR.out.no HAN.out)
            go_wp2_with fail
            go_roundw
            case rel => exact ⟨k + 1, by omega, by go_num, HO6.out, HB6.out, HN.out⟩
            case measure => simp [intOf]; omega
          · have HN := shade (Ans.next hkm HOKK.out HAN.out)
            go_wp2_with fail
            go_ret
            exact ⟨true, rfl, HN.out, HO6.out, HB6.out⟩
        · have HN := shade (HTR.out.skip HV.out hin (HNO.out k hb))
          rw [hb] at HHK
          clear hb
          go_wp2_with (first
            | (go_at_call 87; refine (HHK.out _).mono ?_; rintro e w' ⟨rfl, rfl⟩)
            | go_in)
          go_roundw
          case rel => exact ⟨k + 1, by omega, by go_num, HOR.out, HBR.out, HN.out⟩
          case measure => simp [intOf]; omega
      · obtain rfl : k = m := by omega
        have HE := shade (HTR.out.end HV.out hin)
        go_wp2_with fail
        go_ret
        exact ⟨false, rfl, HE.out, HOR.out, HBR.out⟩
end Go.Proofs.YtfckmechiochlaaDoor
