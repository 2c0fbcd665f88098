/- Registers that are tried: the model's colorFrom. -/
import Derived.Test.YtfckmechiochlaaDoorW911
import Derived.Test.YtfckmechiochlaaDoorW861
namespace Go.Proofs.YtfckmechiochlaaDoor
open Go.RowKit
set_option linter.unusedSimpArgs false
/-- May the next one have it, as far as the first k tell? -/
def okB (R : Nat → Nat) (n : Nat) (p : Nat → Nat) (i r : Nat) : Nat → Bool
  | 0 => true
  | k + 1 => okB R n p i r k && (!(p k == r) || !clB R k i n)
theorem okB_iff {R : Nat → Nat} {n : Nat} {p : Nat → Nat} {i r : Nat} : ∀ {k : Nat}, okB R n p i r k = true ↔ ∀ j, j < k → clB R j i n = true → p j ≠ r
  | 0 => by simp [okB]
  | k + 1 => by
    simp only [okB, Bool.and_eq_true, okB_iff (k := k), Bool.or_eq_true, Bool.not_eq_true', beq_eq_false_iff_ne]
    constructor
    · rintro ⟨h1, h2⟩ j hj hc
      by_cases e : j = k
      · subst e
        rcases h2 with h2 | h2
        · exact h2
        · rw [hc] at h2
          cases h2
      · exact h1 j (by omega) hc
    · intro h
      refine ⟨fun j hj hc => h j (by omega) hc, ?_⟩
      rcases hc : clB R k i n with _ | _
      · exact .inr rfl
      · exact .inl (h k (by omega) hc)
/-- Has none of the first k the register? -/
def frB (p : Nat → Nat) (r : Nat) : Nat → Bool
  | 0 => true
  | k + 1 => frB p r k && !(p k == r)
theorem frB_iff {p : Nat → Nat} {r : Nat} : ∀ {k : Nat}, frB p r k = true ↔ ∀ j, j < k → p j ≠ r
  | 0 => by simp [frB]
  | k + 1 => by
    simp only [frB, Bool.and_eq_true, frB_iff (k := k), Bool.not_eq_true', beq_eq_false_iff_ne]
    constructor
    · rintro ⟨h1, h2⟩ j hj
      by_cases e : j = k
      · subst e
        exact h2
      · exact h1 j (by omega)
    · intro h
      exact ⟨fun j hj => h j (by omega), h k (by omega)⟩
theorem nums_up {w w' : World} {A : Option Addr} {n : Nat} {f : Nat → Int} (h : Nums w A n f) (hg : w.grownBy w' none) : Nums w' A n f := h.grown hg (by intro _ _ _ e; cases e)
theorem int_eq (a b : Nat) : ((a : Int) == (b : Int)) = (a == b) := by
  rw [Bool.eq_iff_iff, beq_iff_eq, beq_iff_eq]
  omega
theorem numL_one (k : Nat) (f : Nat → Int) : ∀ u ∈ numL k f, u.oneCell' = true := by
  intro u hu
  simp only [numL, List.mem_map] at hu
  obtain ⟨j, _, rfl⟩ := hu
  rfl
theorem nums_news {w : World} {ad : Addr} {k : Nat} {f : Nat → Int} (h : Nums w (some ad) k f) : ∀ j u, (numL k f)[j]? = some u → w.cell? (ad.add j) = some u := by
  intro j u hj
  by_cases hjk : j < k
  · rcases h with h | ⟨b, off, hA, hb, hc⟩
    · omega
    · injection hA with hA
      subst hA
      rw [numL_get k f j hjk] at hj
      injection hj with hj
      subst hj
      rw [Addr.add_lit]
      exact hc j hjk
  · rw [List.getElem?_eq_none (by rw [numL_len]; omega)] at hj
    cases hj
theorem HX0 {b c : Bool} (h : b = (false && c)) : b = false := h.trans rfl
set_option maxRecDepth 100000 in
set_option maxHeartbeats 16000000 in
theorem colorFrom_any {n m : Nat} {R : Nat → Nat} (hv : IV R n) (hm : m ≤ 8) : ∀ (d i : Nat), d + i = n → ∀ (A : Option Addr) (c g2 o2 c2 : Nat) (p : Nat → Nat) (w : World), Nums w A n (fun j => (R j : Int)) → g2 < w.heap.size → Nums w (some ⟨g2, o2, none⟩) i (fun j => (p j : Int)) →
    Calls Tryd.prog 57 #[.slice A n c, .int .i64 m, .slice (some ⟨g2, o2, none⟩) i c2] w fun e w' => ∃ b, e = .returned (.bool b) ∧ Ans R n m p i b ∧ w.grownBy w' none
  | 0, i, hd, A, c, g2, o2, c2, p, w, h1, hg2, h2 => by
    obtain rfl : i = n := by omega
    have HV := shade hv
    clear h1 h2 hv
    go_enter Tryd.func57, Tryd.ntmps57
    go_wp2_with fail
    go_ret
    exact ⟨true, rfl, Ans.full HV.out, grown_refl _ _⟩
  | d + 1, i, hd, A, c, g2, o2, c2, p, w, h1, hg2, h2 => by
    have hin : i < n := by omega
    have hn8 := hv.n8
    have hin2 : ((i : Int) == (n : Int)) = false := beq_eq_false_iff_ne.2 (by omega)
    have HI := shade (fun (A : Option Addr) (c g2 o2 c2 : Nat) (p : Nat → Nat) (w : World) => colorFrom_any hv hm d (i + 1) (by omega) A c g2 o2 c2 p w)
    have HV := shade hv
    have H1 := shade h1
    have H2 := shade h2
    have HC := shade (fun k W (hk : k < i) (h : Nums W A n (fun j => (R j : Int))) => clash_any A n c k i R W hn8 (fun t ht => hv.lt8 t ht) (by omega) (by omega) h)
    clear h1 h2 hv
    go_enter Tryd.func57, Tryd.ntmps57
    go_wp2_with fail
    go_loopw [6, 8] (fun _ r wr => ∃ q : Nat, q ≤ m ∧ r = .int .i64 (q : Int) ∧ w.grownBy wr none ∧ Tried R n m p i q) (fun _ r _ => m - (intOf r).toNat)
    case atStart => exact ⟨0, Nat.zero_le _, rfl, grown_refl _ _, Tried.zero _ _ _ _ _⟩
    case round =>
      obtain ⟨q, hq, rfl, hgr, htr⟩ := hrel
      have HG := shade hgr
      have HT := shade htr
      clear hgr htr
      by_cases hqm : q < m
      · go_wp2_with fail
        go_loopw [9, 10] (fun ok k wr2 => ∃ t x : Nat, t ≤ i ∧ k = .int .i64 (t : Int) ∧ ok = .bool (okB R n p i q t) ∧ wr.drewN x = wr2) (fun _ k _ => i - (intOf k).toNat)
        case atStart => exact ⟨0, 0, Nat.zero_le _, rfl, rfl, rfl⟩
        case round =>
          obtain ⟨t, x, ht, rfl, rfl, rfl⟩ := hrel
          by_cases hti : t < i
          · have HX := shade (show okB R n p i q (t + 1) = (okB R n p i q t && (!(p t == q) || !clB R t i n)) from rfl)
            have q0 : _ = some (Value.int .i64 ((p t : Nat) : Int)) := (nums_up H2.out HG.out).cell hti
            have HCL := shade (fun W h => HC.out t W hti h)
            generalize okB R n p i q t = b1 at *
            generalize p t = y at q0 HX
            rcases b1 with _ | _
            · go_wp2_with fail
              go_roundw
              case rel => exact ⟨t + 1, x, by omega, by go_num, by rw [HX0 HX.out], rfl⟩
              case measure => simp [intOf]; omega
            · by_cases hyq : y = q
              rotate_left
              · have hyq1 : (y == q) = false := beq_eq_false_iff_ne.2 hyq
                have hyq2 : ¬ (y : Int) = (q : Int) := by omega
                have hyq3 : ((y : Int) == (q : Int)) = false := beq_eq_false_iff_ne.2 hyq2
                have hyq4 : ((y : Int) != (q : Int)) = true := bne_iff_ne.2 hyq2
                rw [hyq1] at HX
                go_wp2_with fail
                go_roundw
                case rel => exact ⟨t + 1, x, by omega, by go_num, by rw [HX.out]; rfl, rfl⟩
                case measure => simp [intOf]; omega
              · subst hyq
                rw [beq_self_eq_true] at HX
                generalize clB R t i n = b3 at *
                go_wp2_with fail
                refine (HCL.out _ (nums_up H1.out (grown_drewN HG.out _))).mono ?_
                rintro e w2 ⟨rfl, x2, rfl⟩
                rcases b3 with _ | _
                · go_wp2_with fail
                  go_roundw
                  case rel => exact ⟨t + 1, _, by omega, by go_num, by rw [HX.out]; rfl, rfl⟩
                  case measure => simp [intOf]; omega
                · go_wp2_with fail
                  go_roundw
                  case rel => exact ⟨t + 1, _, by omega, by go_num, by rw [HX.out]; rfl, rfl⟩
                  case measure => simp [intOf]; omega
          · obtain rfl : i = t := by omega
            generalize hwx : wr.drewN x = wx
            have HGX := shade (show w.grownBy wx none by rw [← hwx]; exact grown_drewN HG.out x)
            clear hwx HG
            rcases hok : okB R n p i q i with _ | _
            · have HTR := shade (HT.out.skip HV.out hin (fun h => by
                have := okB_iff.2 h
                rw [hok] at this
                cases this))
              clear HT hok
              have HN2 := shade (nums_up (H2.out) HGX.out)
              go_wp2_with fail
              go_loopw [11, 12] (fun fr k wr2 => ∃ t : Nat, t ≤ i ∧ k = .int .i64 (t : Int) ∧ fr = .bool (frB p q t) ∧ wx = wr2) (fun _ k _ => i - (intOf k).toNat)
              case atStart => exact ⟨0, Nat.zero_le _, rfl, rfl, rfl⟩
              case round =>
                obtain ⟨t, ht, rfl, rfl, rfl⟩ := hrel
                by_cases hti : t < i
                · have HX := shade (show frB p q (t + 1) = (frB p q t && !(p t == q)) from rfl)
                  have q0 : _ = some (Value.int .i64 ((p t : Nat) : Int)) := HN2.out.cell hti
                  generalize frB p q t = b1 at *
                  generalize p t = y at q0 HX
                  rcases b1 with _ | _
                  · go_wp2_with fail
                    go_roundw
                    case rel => exact ⟨t + 1, by omega, by go_num, by rw [HX0 HX.out], trivial⟩
                    case measure => simp [intOf]; omega
                  · by_cases hyq : y = q
                    rotate_left
                    · have hyq1 : (y == q) = false := beq_eq_false_iff_ne.2 hyq
                      have hyq2 : ¬ (y : Int) = (q : Int) := by omega
                      have hyq3 : ((y : Int) == (q : Int)) = false := beq_eq_false_iff_ne.2 hyq2
                      have hyq4 : ((y : Int) != (q : Int)) = true := bne_iff_ne.2 hyq2
                      rw [hyq1] at HX
                      go_wp2_with fail
                      go_roundw
                      case rel => exact ⟨t + 1, by omega, by go_num, by rw [HX.out]; rfl, trivial⟩
                      case measure => simp [intOf]; omega
                    · subst hyq
                      rw [beq_self_eq_true] at HX
                      go_wp2_with fail
                      go_roundw
                      case rel => exact ⟨t + 1, by omega, by go_num, by rw [HX.out]; rfl, trivial⟩
                      case measure => simp [intOf]; omega
                · obtain rfl : t = i := by omega
                  rcases hfr : frB p q t with _ | _
                  · go_wp2_with fail
                    go_roundw
                    case rel => exact ⟨q + 1, by omega, by go_num, HGX.out, HTR.out⟩
                    case measure => simp [intOf]; omega
                  · have HA := shade (HTR.out.fresh HV.out hin (frB_iff.1 hfr))
                    go_wp2_with fail
                    go_ret
                    exact ⟨false, rfl, HA.out, HGX.out⟩
            · have HOK := shade (okB_iff.1 hok)
              clear hok
              obtain ⟨i0, hi0, hz0, hz1, hz2⟩ := info_parts info3
              have HL0 := shade (World.ownsRow_lit (base := wx.heap.size) (e := 3) (size := 1) wx #[] 0 (Nat.le_refl _) (by decide) rfl)
              have T1 := nums_news (nums_up H2.out (grown_same HGX.out (World.grownBy_alloc wx (.cells #[] 3) none)))
              have T2 : (numL i (fun j => (p j : Int))).length = i * 1 := by rw [numL_len]; omega
              have T3 := numL_one i (fun j => (p j : Int))
              have T4 : 0 + i ≤ maxLen := by unfold maxLen; omega
              have T5 : (0 + i) * 8 ≤ 140737488355328 := by omega
              have T6 : wx.heap.size ≤ (wx.alloc (.cells #[] 3)).heap.size := by simp
              have T7 := HL0.out
              go_upto_region 12 with (fail)
              go_wp2_with (first
                | (at_builtin; refine wpList_append_own_g (by rfl) _ _ 27 rfl wx.heap.size 3 i0 (.int .i64 0) 1 8 Tryd.underlying27 hi0 hz0 hz1 hz2 rfl (by decide) _ _ _ rfl T7 ⟨g2, o2, none⟩ i c2 (numL i (fun j => (p j : Int))) rfl T2 T1 T3 T4 T5 T6 ?_)
                | go_in)
              intro v3 w3 hown3 hgr3 hnil3
              have HG3 := shade (grown_row (grown_same HGX.out (World.grownBy_alloc wx (.cells #[] 3) none)) hgr3 (fun k e => by
                have hs := HGX.out.size
                have e' : some wx.heap.size = some k := e
                injection e' with e'
                omega))
              have HN3 := shade (show v3 ≠ .slice none 0 0 from hnil3)
              have HO3 := shade (show w3.ownsRow wx.heap.size 3 1 v3 i (numL i (fun j => (p j : Int))) from hown3)
              have l3 : wx.heap.size ≤ w3.heap.size := Nat.le_trans T6 hgr3.size
              clear hown3 hgr3 hnil3 HL0 T1 T2 T3 T4 T5 T6 T7
              go_wp2_with (first
                | (at_builtin; refine wpList_append_own_g (by rfl) _ _ 27 rfl wx.heap.size 3 i0 (.int .i64 0) 1 8 Tryd.underlying27 hi0 hz0 hz1 hz2 rfl (by decide) _ _ _ rfl (World.ownsRow.alloc HO3.out _) ⟨w3.heap.size, 0, none⟩ 1 1 [.int .i64 (q : Int)] rfl rfl (int_new _ _ _) (int_one _) (by unfold maxLen; omega) (by omega) (by simp; omega) ?_)
                | go_in)
              intro v4 w4 hown4 hgr4 hnil4
              have HG4 := shade (grown_row (grown_same HG3.out (World.grownBy_alloc w3 (.cells #[.int .i64 (q : Int)] 3) none)) hgr4 (fun k e => by
                have hs := HGX.out.size
                have := (World.ownsRow.lt HO3.out k e).1
                omega))
              have hown5 : w4.ownsRow wx.heap.size 3 1 v4 (i + 1) (numL (i + 1) (fun j => ((more p i q j : Nat) : Int))) := by
                refine row_more (x := (q : Int)) ?_ (by rw [more_at])
                rw [numL_congr i (fun j => ((more p i q j : Nat) : Int)) (fun j => (p j : Int)) (fun j hj => by rw [more_low _ _ _ _ hj])]
                exact hown4
              obtain ⟨A4, c4, rfl, -⟩ := ownsRow_slice hown5
              obtain ⟨g4, rfl, -, hg4⟩ := row_pos hown5 (by omega)
              have hr5 := HI.out A c g4 0 c4 (more p i q) w4 (nums_up H1.out HG4.out) hg4 (row_cell hown5)
              have HR5 := shade hr5
              clear hown4 hown5 hgr4 hnil4 hr5 HG3 HO3 HN3
              go_wp2_with fail
              refine HR5.out.mono ?_
              rintro e w5 ⟨b, rfl, ha, hg5⟩
              have HGX := shade (grown_same HG4.out hg5)
              have HAN := shade ha
              clear HG4 hg5 ha HR5
              rcases b with _ | _
              · have HTR := shade (HT.out.no HAN.out)
                clear HT HAN
                have HN2 := shade (nums_up (H2.out) HGX.out)
                go_wp2_with fail
                go_loopw [11, 12] (fun fr k wr2 => ∃ t : Nat, t ≤ i ∧ k = .int .i64 (t : Int) ∧ fr = .bool (frB p q t) ∧ w5 = wr2) (fun _ k _ => i - (intOf k).toNat)
                case atStart => exact ⟨0, Nat.zero_le _, rfl, rfl, rfl⟩
                case round =>
                  obtain ⟨t, ht, rfl, rfl, rfl⟩ := hrel
                  by_cases hti : t < i
                  · have HX := shade (show frB p q (t + 1) = (frB p q t && !(p t == q)) from rfl)
                    have q0 : _ = some (Value.int .i64 ((p t : Nat) : Int)) := HN2.out.cell hti
                    generalize frB p q t = b1 at *
                    generalize p t = y at q0 HX
                    rcases b1 with _ | _
                    · go_wp2_with fail
                      go_roundw
                      case rel => exact ⟨t + 1, by omega, by go_num, by rw [HX0 HX.out], trivial⟩
                      case measure => simp [intOf]; omega
                    · by_cases hyq : y = q
                      rotate_left
                      · have hyq1 : (y == q) = false := beq_eq_false_iff_ne.2 hyq
                        have hyq2 : ¬ (y : Int) = (q : Int) := by omega
                        have hyq3 : ((y : Int) == (q : Int)) = false := beq_eq_false_iff_ne.2 hyq2
                        have hyq4 : ((y : Int) != (q : Int)) = true := bne_iff_ne.2 hyq2
                        rw [hyq1] at HX
                        go_wp2_with fail
                        go_roundw
                        case rel => exact ⟨t + 1, by omega, by go_num, by rw [HX.out]; rfl, trivial⟩
                        case measure => simp [intOf]; omega
                      · subst hyq
                        rw [beq_self_eq_true] at HX
                        go_wp2_with fail
                        go_roundw
                        case rel => exact ⟨t + 1, by omega, by go_num, by rw [HX.out]; rfl, trivial⟩
                        case measure => simp [intOf]; omega
                  · obtain rfl : t = i := by omega
                    rcases hfr : frB p q t with _ | _
                    · go_wp2_with fail
                      go_roundw
                      case rel => exact ⟨q + 1, by omega, by go_num, HGX.out, HTR.out⟩
                      case measure => simp [intOf]; omega
                    · have HA := shade (HTR.out.fresh HV.out hin (frB_iff.1 hfr))
                      go_wp2_with fail
                      go_ret
                      exact ⟨false, rfl, HA.out, HGX.out⟩
              · have HA := shade (Ans.next hqm HOK.out HAN.out)
                go_wp2_with fail
                go_ret
                exact ⟨true, rfl, HA.out, HGX.out⟩
      · obtain rfl : q = m := by omega
        have HA := shade (HT.out.end HV.out hin)
        go_wp2_with fail
        go_ret
        exact ⟨false, rfl, HA.out, HG.out⟩
end Go.Proofs.YtfckmechiochlaaDoor
