/- In which part of the pipe an instruction is, by the model. PipeTable, by the model. In which part of the pipe an instruction is, by the program. PipeTable, by the program. The laws' isIn and ascends, for every row of numbers that can be read. Tables: rows compared; no two in one part; each part behind the one ahead of it. PipeTable answers as its model for what is drawn; no two are in one part, each goes through all in order, and all is over at PipeTime. -/
import Derived.Test.YtlmjbflnfpccdaaDoorG12
import Derived.Deep.RegionHeld3
import Derived.Test.YtlmjbflnfpccdaaDoorG33
import Derived.Test.YtlmjbflnfpccdaaDoorW400d
import Derived.Test.YtlmjbflnfpccdaaDoorY14
import Derived.Test.YtlmjbflnfpccdaaDoorW25
namespace Go.Proofs.YtlmjbflnfpccdaaDoor
open Go.RowKit
set_option linter.unusedSimpArgs false
theorem st_0 (J : Nat → Bool) (f : Nat → Int) : st J f 0 = 2 := if_pos rfl
theorem st_s (J : Nat → Bool) (f : Nat → Int) (q : Nat) : st J f (q + 1) = f q + 1 + (if J q = true then 2 else 0) := if_neg (by omega)
set_option maxRecDepth 100000 in
set_option maxHeartbeats 8000000 in
theorem part_any (AT : Option Addr) (ct : Nat) (AJ : Option Addr) (cj n : Nat) (f : Nat → Int) (J : Nat → Bool) (k : Nat) (t : Int) (w : World) (hk : k < n) (hn : n ≤ 300) (ht0 : 0 ≤ t) (ht1 : t ≤ 2000) (hr : ∀ j, 2 ≤ f j ∧ f j ≤ 3 * (j : Int) + 2) (hs : ∀ j, st J f j ≤ f j) (h0 : f 0 = 2) (hN : Nums w AT n f) (hj : Bols w AJ n J) :
    Calls Tryd.prog 47 #[.slice AT n ct, .slice AJ n cj, .int .i64 (k : Int), .int .i64 t] w fun e w' => e = .returned (.int .i64 (prt J f k t)) ∧ w.grownBy w' none := by
  obtain ⟨tb, tq, rfl, -⟩ := hN.resolve_left (by omega)
  obtain ⟨jb, jo, rfl, -⟩ := hj.resolve_left (by omega)
  have c0 := hN.cell hk
  have hrk := hr k
  have hsk := hs k
  have hs0 := st_0 J f
  have i1 : (k : Int) < (n : Int) := by omega
  have i2 : (0 : Int) ≤ (k : Int) := by omega
  obtain ⟨P, hP⟩ : ∃ P, prt J f k t = P := ⟨_, rfl⟩
  unfold prt at hP
  rcases k with _ | q
  · rw [hs0] at hP hsk
    rw [h0] at hP hrk hsk c0
    rw [Nat.add_zero] at c0
    have HPP := shade (show (prt J f 0 t) = P by unfold prt; rw [hs0, h0]; exact hP)
    rw [HPP.out]
    by_cases a1 : 2 ≤ t
    · by_cases a2 : t ≤ 4
      · obtain rfl : P = t := by rw [← hP]; repeat' split <;> omega
        clear hP HPP hr hs hs0 h0
        have e1 : P - 2 + 2 = P := by omega
        go_enter Tryd.func47, Tryd.ntmps47
        go_wp2_with fail
        go_ret
        exact ⟨by first | rfl | (congr 2; omega), World.grownBy.refl _ _⟩
      · obtain rfl : P = -1 := by rw [← hP]; repeat' split <;> omega
        clear hP HPP hr hs hs0 h0
        have e0 : (t == 0) = false := by simp; omega
        have e1 : (t == 1) = false := by simp; omega
        go_enter Tryd.func47, Tryd.ntmps47
        go_wp2_with fail
        go_ret
        exact ⟨rfl, World.grownBy.refl _ _⟩
    · rcases (show t = 0 ∨ t = 1 by omega) with rfl | rfl
      · obtain rfl : P = 0 := by rw [← hP]; repeat' split <;> omega
        clear hP HPP hr hs hs0 h0
        go_enter Tryd.func47, Tryd.ntmps47
        go_wp2_with fail
        go_ret
        exact ⟨rfl, World.grownBy.refl _ _⟩
      · obtain rfl : P = 1 := by rw [← hP]; repeat' split <;> omega
        clear hP HPP hr hs hs0 h0
        go_enter Tryd.func47, Tryd.ntmps47
        go_wp2_with fail
        go_ret
        exact ⟨rfl, World.grownBy.refl _ _⟩
  · have c1 := hN.cell (show q < n by omega)
    have c2 := hj.cell (show q < n by omega)
    have hrq := hr q
    have hss := st_s J f q
    have HPP := shade (show (prt J f (q + 1) t) = P by unfold prt; exact hP)
    rw [HPP.out]
    clear HPP
    rw [hss] at hP hsk
    have j1 : (q : Int) < (n : Int) := by omega
    have j2 : (0 : Int) ≤ (q : Int) := by omega
    have j3 : (0 : Int) < (q : Int) + 1 := by omega
    clear hr hs hs0 h0 hss
    generalize f (q + 1) = fk at *
    generalize f q = fq at *
    rcases hjj : J q with _ | _
    · rw [hjj] at c2 hP hsk
      simp only [if_true, if_neg Bool.false_ne_true, Int.add_zero] at hP hsk
      clear hjj
      by_cases a1 : fk ≤ t
      · by_cases a2 : t < fk + 3
        · obtain rfl : P = t - fk + 2 := by rw [← hP]; repeat' split <;> omega
          clear hP
          go_enter Tryd.func47, Tryd.ntmps47
          go_wp2_with fail
          go_ret
          exact ⟨rfl, World.grownBy.refl _ _⟩
        · obtain rfl : P = -1 := by rw [← hP]; repeat' split <;> omega
          clear hP
          go_enter Tryd.func47, Tryd.ntmps47
          go_wp2_with fail
          go_ret
          exact ⟨rfl, World.grownBy.refl _ _⟩
      · by_cases a2 : fq ≤ t
        · obtain rfl : P = 1 := by rw [← hP]; repeat' split <;> omega
          clear hP
          go_enter Tryd.func47, Tryd.ntmps47
          go_wp2_with fail
          go_ret
          exact ⟨rfl, World.grownBy.refl _ _⟩
        · by_cases a3 : t = fq - 1
          · obtain rfl : P = 0 := by rw [← hP]; repeat' split <;> omega
            clear hP
            subst a3
            go_enter Tryd.func47, Tryd.ntmps47
            go_wp2_with fail
            go_ret
            exact ⟨rfl, World.grownBy.refl _ _⟩
          · obtain rfl : P = -1 := by rw [← hP]; repeat' split <;> omega
            clear hP
            go_enter Tryd.func47, Tryd.ntmps47
            go_wp2_with fail
            go_ret
            exact ⟨rfl, World.grownBy.refl _ _⟩
    · rw [hjj] at c2 hP hsk
      simp only [if_true, if_neg Bool.false_ne_true, Int.add_zero] at hP hsk
      clear hjj
      by_cases a1 : fk ≤ t
      · by_cases a2 : t < fk + 3
        · obtain rfl : P = t - fk + 2 := by rw [← hP]; repeat' split <;> omega
          clear hP
          go_enter Tryd.func47, Tryd.ntmps47
          go_wp2_with fail
          go_ret
          exact ⟨rfl, World.grownBy.refl _ _⟩
        · obtain rfl : P = -1 := by rw [← hP]; repeat' split <;> omega
          clear hP
          go_enter Tryd.func47, Tryd.ntmps47
          go_wp2_with fail
          go_ret
          exact ⟨rfl, World.grownBy.refl _ _⟩
      · by_cases a2 : fq + 2 ≤ t
        · obtain rfl : P = 1 := by rw [← hP]; repeat' split <;> omega
          clear hP
          go_enter Tryd.func47, Tryd.ntmps47
          go_wp2_with fail
          go_ret
          exact ⟨rfl, World.grownBy.refl _ _⟩
        · by_cases a3 : t = fq + 1
          · obtain rfl : P = 0 := by rw [← hP]; repeat' split <;> omega
            clear hP
            subst a3
            go_enter Tryd.func47, Tryd.ntmps47
            go_wp2_with fail
            go_ret
            exact ⟨rfl, World.grownBy.refl _ _⟩
          · obtain rfl : P = -1 := by rw [← hP]; repeat' split <;> omega
            clear hP
            go_enter Tryd.func47, Tryd.ntmps47
            go_wp2_with fail
            go_ret
            exact ⟨rfl, World.grownBy.refl _ _⟩
end Go.Proofs.YtlmjbflnfpccdaaDoor

namespace Go.Proofs.YtlmjbflnfpccdaaDoor
open Go.RowKit
set_option linter.unusedSimpArgs false
theorem info41 : (Tryd.prog.info? 25).map (fun i => (i.zero, i.size, i.bytes)) = some (some (.slice none 0 0), 1, 24) := by kernel_rfl
theorem slice_new (w : World) (t : TypeId) (u : Value) : ∀ j x, ([u] : List Value)[j]? = some x → (w.alloc (.cells #[u] t)).cell? ((⟨w.heap.size, 0, none⟩ : Addr).add j) = some x := by
  intro j x hx
  have : j = 0 := by
    have := (List.getElem?_eq_some_iff.1 hx).1
    simpa using this
  subst this
  rw [Addr.add_lit, World.cell?_alloc_new]
  simpa using hx
/-- The parts, tick by tick. -/
def ptR (F : Nat → Ins) (J : Nat → Bool) (fw : Bool) (k i : Nat) : Int := prt J (pk F J fw) k (i : Int)
/-- How many ticks. -/
def lnP (n : Nat) (F : Nat → Ins) (J : Nat → Bool) (fw : Bool) (_ : Nat) : Nat := (ptm n (pk F J fw)).toNat
theorem lnP_le {n : Nat} (hn : n ≤ 300) (F : Nat → Ins) (J : Nat → Bool) (fw : Bool) (j : Nat) : lnP n F J fw j ≤ 1000 := by
  unfold lnP ptm
  have := pk_rng F J fw (n - 1)
  split <;> omega
theorem pk_0 (F : Nat → Ins) (J : Nat → Bool) (fw : Bool) : pk F J fw 0 = 2 := (pk_eq F J fw 0).symm
theorem SPipeTable_no (A : Option Addr) (n c : Nat) (F : Nat → Ins) (AJ : Option Addr) (m cj : Nat) (fw : Bool) (len : Nat → Nat) (R : Nat → Nat → Int) (w : World) (hv : vpB n F m = false) (hn : n ≤ 9223372036854775807) (h : Code w A n F) :
    Calls Tryd.prog 25 #[.slice A n c, .slice AJ m cj, .bool fw] w (RwsRes 0 len R w) := by
  have HV := shade (validPipe_any A n c F AJ m cj w hn h)
  rw [hv] at HV
  clear h hv
  go_enter Tryd.func25, Tryd.ntmps25
  go_wp2_with fail
  refine HV.out.mono ?_
  rintro e w1 ⟨rfl, hg⟩
  have HG := shade hg
  clear hg HV
  go_wp2_with fail
  go_ret
  exact RwsRes.nil _ _ _ _ HG.out
/-- The rows so far. -/
structure Pts (w wr : World) (v : Value) (k : Nat) (AS : Nat → Value) (len : Nat → Nat) (R : Nat → Nat → Int) : Prop where
  rws : Rws wr w.heap.size wr.heap.size v k AS len R
  low : w.grownBy wr none
set_option maxRecDepth 100000 in
set_option maxHeartbeats 8000000 in
theorem SPipeTable_yes (A : Option Addr) (q c : Nat) (F : Nat → Ins) (AJ : Option Addr) (cj : Nat) (J : Nat → Bool) (fw : Bool) (w : World) (hv : vpB (q + 1) F (q + 1) = true) (h : Code w A (q + 1) F) (hj : Bols w AJ (q + 1) J) :
    Calls Tryd.prog 25 #[.slice A (q + 1) c, .slice AJ (q + 1) cj, .bool fw] w (RwsRes (q + 1) (lnP (q + 1) F J fw) (ptR F J fw) w) := by
  obtain ⟨h3, -, hI⟩ := vpB_yes hv
  have HV := shade (validPipe_any A (q + 1) c F AJ (q + 1) cj w (by omega) h)
  rw [hv] at HV
  have HP := shade (fun W (hW : w.grownBy W none) => sPipe_any A (q + 1) c F AJ cj J fw W h3 hI (h.on hW) (bols_on hj hW))
  have HBJ := shade hj
  have HR := shade (pk_rng F J fw)
  have HU := shade (pk_up F J fw)
  have H0 := shade (pk_0 F J fw)
  obtain ⟨len, hlen⟩ : ∃ len, lnP (q + 1) F J fw = len := ⟨_, rfl⟩
  obtain ⟨R, hRR⟩ : ∃ R, ptR F J fw = R := ⟨_, rfl⟩
  have HLN := shade (show ∀ j, (len j : Int) = pk F J fw q + 3 ∧ len j ≤ 1000 from fun j => by
    have h1 := lnP_le h3 F J fw j
    rw [hlen] at h1
    refine ⟨?_, h1⟩
    rw [← hlen]
    unfold lnP ptm
    rw [if_neg (by omega), show q + 1 - 1 = q from rfl]
    have := HR.out q
    omega)
  have HRE := shade (show ∀ k i, R k i = prt J (pk F J fw) k (i : Int) from fun k i => by rw [← hRR]; rfl)
  rw [hlen, hRR]
  clear h hv hj hI hlen hRR
  obtain ⟨f, hf⟩ : ∃ f, pk F J fw = f := ⟨_, rfl⟩
  rw [hf] at HP HR HU H0 HLN HRE
  clear hf
  obtain ⟨i0, hi0, hz0, hz1, hz2⟩ := info_parts info41
  obtain ⟨i1, hi1, hy0, hy1, hy2⟩ := info_parts info3p
  have HI := shade (And.intro hi0 (And.intro hz0 (And.intro hz1 hz2)))
  have HJ := shade (And.intro hi1 (And.intro hy0 (And.intro hy1 hy2)))
  clear hi0 hz0 hz1 hz2 hi1 hy0 hy1 hy2
  go_enter Tryd.func25, Tryd.ntmps25
  go_wp2_with fail
  refine HV.out.mono ?_
  rintro e w0 ⟨rfl, hg0⟩
  have HG0 := shade hg0
  clear hg0 HV
  go_wp2_with fail
  refine (HP.out _ HG0.out).mono ?_
  rintro e w1 h2
  obtain ⟨v, rfl, hRo, hg⟩ := NumRes.row h2
  obtain ⟨At, ct, rfl, hN⟩ := hRo.nums
  have HN := shade hN
  have HG := shade (grown_same HG0.out hg)
  clear h2 hRo hN hg HP
  have L0 := shade (show (w1.alloc (.cells #[] 25)).ownsRow w1.heap.size 25 1 (.slice (some ⟨w1.heap.size, 0, none⟩) 0 0) 0 [] from World.ownsRow_lit (base := w1.heap.size) (e := 25) (size := 1) w1 #[] 0 (by omega) (by decide) rfl)
  have G0 := shade (World.grownBy_alloc w1 (.cells #[] 25) none)
  obtain ⟨tb, tq, rfl, -⟩ := HN.out.resolve_left (by omega)
  go_wp2_with fail
  go_loopw [8, 9] (fun v k wr => ∃ (kk : Nat) (AS : Nat → Value), kk ≤ q + 1 ∧ k = .int .i64 kk ∧ Pts w1 wr v kk AS len R) (fun _ k _ => q + 1 - (intOf k).toNat)
  case atStart => exact ⟨0, fun _ => .slice none 0 0, Nat.zero_le _, rfl, ⟨⟨L0.out, fun b hb => (World.ownsRow.lt L0.out b hb).2⟩, fun j hj => absurd hj (Nat.not_lt_zero j), fun i _ _ hi => absurd hi (Nat.not_lt_zero i)⟩, G0.out⟩
  case round =>
    clear L0 G0
    obtain ⟨wo, hwo⟩ : ∃ wo : World, wo = wr := ⟨_, rfl⟩
    subst hwo
    obtain ⟨k, AS, hk, rfl, ho⟩ := hrel
    have HO := shade ho
    obtain ⟨A1, c1, rfl, -⟩ := ho.rws.shape
    clear ho
    by_cases hkn : k < q + 1
    · have hk2 : (k : Int) < (q : Int) + 1 := by omega
      have N0 := shade (show (wo.alloc (.cells #[] 3)).ownsRow wo.heap.size 3 1 (.slice (some ⟨wo.heap.size, 0, none⟩) 0 0) 0 [] from World.ownsRow_lit (base := wo.heap.size) (e := 3) (size := 1) wo #[] 0 (by omega) (by decide) rfl)
      go_wp2_with fail
      go_loopw [10, 11] (fun u i wq => ∃ ii : Nat, ii ≤ len k ∧ i = .int .i64 ii ∧ wq.ownsRow wo.heap.size 3 1 u ii (numL ii (R k)) ∧ wo.grownBy wq none) (fun _ i _ => len k - (intOf i).toNat)
      case atStart => exact ⟨0, Nat.zero_le _, rfl, N0.out, World.grownBy_alloc wo _ none⟩
      case round =>
        clear N0
        obtain ⟨i, hik, rfl, hu, hgq⟩ := hrel
        have HU2 := shade hu; have HGQ := shade hgq
        obtain ⟨A2, c2, rfl, -⟩ := ownsRow_slice hu
        clear hu hgq
        have hln := HLN.out k
        have c0 := (HN.out.grown (grown_same HO.out.low HGQ.out) (by intro _ _ _ e; cases e)).cell (show q < q + 1 by omega)
        have hfq := HR.out q
        have iq0 : (q : Int) < (q : Int) + 1 := by omega
        have iq1 : (0 : Int) ≤ (q : Int) := by omega
        obtain ⟨L, hL⟩ : ∃ L, len k = L := ⟨_, rfl⟩
        rw [hL] at hln hik ⊢
        obtain ⟨z, hz⟩ : ∃ z, f q = z := ⟨_, rfl⟩
        rw [hz] at hln c0 hfq
        clear hz
        have HL := shade hL
        clear hL
        by_cases hlt : i < L
        · have HPA := shade (fun W (hW : wo.grownBy W none) => part_any (some ⟨tb, tq, none⟩) ct AJ cj (q + 1) f J k (i : Int) W hkn h3 (by omega) (by omega) HR.out HU.out H0.out (HN.out.grown (grown_same HO.out.low hW) (by intro _ _ _ e; cases e)) (bols_on HBJ.out (grown_same HG.out (grown_same HO.out.low hW))))
          obtain ⟨x, hx⟩ : ∃ x, R k i = x := ⟨_, rfl⟩
          have hx2 := HRE.out k i
          rw [hx] at hx2
          rw [← hx2] at HPA
          have HX := shade hx
          clear hx hx2
          have hA2 : ∀ r, (Value.slice A2 i c2).ownBlock = some r → wo.heap.size ≤ r := fun r e => (World.ownsRow.lt HU2.out r e).1
          have HA2 := shade hA2
          clear hA2
          go_wp2_with fail
          refine (HPA.out _ HGQ.out).mono ?_
          rintro e w3 ⟨rfl, hg3⟩
          have HU3 := shade (ownsRow_on HU2.out hg3)
          have HGQ3 := shade (grown_same HGQ.out hg3)
          clear hg3
          go_wp2_with (first
            | (at_builtin; refine wpList_append_own _ rfl _ _ 25 rfl wo.heap.size 3 i1 (.int .i64 0) 1 8 Tryd.underlying25 HJ.out.1 HJ.out.2.1 HJ.out.2.2.1 HJ.out.2.2.2 rfl (by decide) _ _ _ rfl (World.ownsRow.alloc HU3.out _) ⟨w3.heap.size, 0, none⟩ 1 1 [.int .i64 x] rfl rfl (int_new _ _ _) (int_one _) (by unfold maxLen; omega) (by omega) (by have := HGQ3.out.size; simp; omega) ?_)
            | go_in)
          intro v8 w8 hown8 hgr8 hnil8
          rw [numL_snoc' i _ x HX.out] at hown8
          have HU8 := shade hown8
          have HG8 := shade (grown_row' (grown_same HGQ3.out (World.grownBy_alloc _ _ none)) hgr8 HA2.out)
          clear hown8 hgr8 hnil8
          go_wp2_with fail
          go_roundw
          case rel => exact ⟨i + 1, by omega, by go_num, HU8.out, HG8.out⟩
          case measure =>
            have := HL.out
            simp [intOf]
            omega
        · obtain rfl : i = L := by omega
          have HG9 := shade (grown_same HO.out.low HGQ.out)
          go_wp2_with (first
            | (at_builtin; refine wpList_append_own _ rfl _ _ 38 rfl w1.heap.size 25 i0 (.slice none 0 0) 1 24 Tryd.underlying38 HI.out.1 HI.out.2.1 HI.out.2.2.1 HI.out.2.2.2 rfl (by decide) _ _ _ rfl (World.ownsRow.alloc (ownsRow_on HO.out.rws.out.own HGQ.out) _) ⟨wr.heap.size, 0, none⟩ 1 1 [.slice A2 i c2] rfl rfl (slice_new _ _ _) (fun u hu => by rw [List.mem_singleton.1 hu]; rfl) (by unfold maxLen; omega) (by omega) (by have := HG9.out.size; simp; omega) ?_)
            | go_in)
          intro v8 w8 hown8 hgr8 hnil8
          have HN8 := shade (HO.out.rws.snoc (AS' := fun j => if j = k then .slice A2 i c2 else AS j) (R' := R) (Nat.le_refl _) HO.out.low.size (World.ownsRow.alloc (show wr.ownsRow wo.heap.size 3 1 (.slice A2 i c2) (len k) (numL (len k) (R k)) by rw [HL.out]; exact HU2.out) (.cells #[.slice A2 i c2] 25)) (grown_same HGQ.out (World.grownBy_alloc _ _ none)) hown8 hgr8 (fun _ _ => rfl) (fun j hj => if_neg (by omega)) (if_pos rfl))
          have HL8 := shade (grown_row' (grown_same HG9.out (World.grownBy_alloc _ _ none)) hgr8 (fun r e => (World.ownsRow.lt HO.out.rws.out.own r e).1))
          clear hown8 hgr8 hnil8
          go_wp2_with fail
          go_roundw
          case rel => exact ⟨k + 1, _, by omega, by go_num, HN8.out, HL8.out⟩
          case measure => simp [intOf]; omega
    · obtain rfl : k = q + 1 := by omega
      go_wp2_with fail
      go_ret
      exact ⟨_, AS, rfl, ⟨⟨World.ownsRow.mono HO.out.rws.out.own HG.out.size, HO.out.rws.out.hib⟩, fun j hj => ⟨World.ownsRow.mono (HO.out.rws.row j hj).own HG.out.size, (HO.out.rws.row j hj).hib⟩, HO.out.rws.sep⟩, grown_same HG.out HO.out.low⟩
theorem SPipeTable_zero (A : Option Addr) (c : Nat) (F : Nat → Ins) (AJ : Option Addr) (cj : Nat) (fw : Bool) (len : Nat → Nat) (R : Nat → Nat → Int) (w : World) :
    Calls Tryd.prog 25 #[.slice A 0 c, .slice AJ 0 cj, .bool fw] w (RwsRes 0 len R w) := by
  have HV := shade (validPipe_any A 0 c F AJ 0 cj w (by omega) (.inl rfl))
  rw [show vpB 0 F 0 = true from rfl] at HV
  have HP := shade (fun W => sPipe_zero A c AJ cj (fun _ => 0) fw W)
  go_enter Tryd.func25, Tryd.ntmps25
  go_wp2_with fail
  refine HV.out.mono ?_
  rintro e w0 ⟨rfl, hg0⟩
  have HG0 := shade hg0
  clear hg0 HV
  go_wp2_with fail
  refine (HP.out _).mono ?_
  rintro e w1 h2
  obtain ⟨v, rfl, hRo, hg⟩ := NumRes.row h2
  have HG := shade (grown_same HG0.out hg)
  clear h2 hRo hg HP
  have L0 := shade (show (w1.alloc (.cells #[] 25)).ownsRow w1.heap.size 25 1 (.slice (some ⟨w1.heap.size, 0, none⟩) 0 0) 0 [] from World.ownsRow_lit (base := w1.heap.size) (e := 25) (size := 1) w1 #[] 0 (by omega) (by decide) rfl)
  have G0 := shade (grown_same HG.out (World.grownBy_alloc w1 (.cells #[] 25) none))
  go_wp2_with fail
  refine wp_loop_rounds 1 ?_
  rw [rounds_succ]
  go_wp2_with fail
  go_ret
  exact ⟨_, fun _ => .slice none 0 0, rfl, ⟨⟨World.ownsRow.mono L0.out HG.out.size, fun b hb => (World.ownsRow.lt L0.out b hb).2⟩, fun j hj => absurd hj (Nat.not_lt_zero j), fun i _ _ hi => absurd hi (Nat.not_lt_zero i)⟩, G0.out⟩
theorem SPipeTable_any (A : Option Addr) (n c : Nat) (F : Nat → Ins) (AJ : Option Addr) (m cj : Nat) (J : Nat → Bool) (fw : Bool) (w : World) (hn : n ≤ 9223372036854775807) (h : Code w A n F) (hj : Bols w AJ m J) :
    Calls Tryd.prog 25 #[.slice A n c, .slice AJ m cj, .bool fw] w (RwsRes (nP n F m) (lnP n F J fw) (ptR F J fw) w) := by
  rcases hv : vpB n F m with _ | _
  · rw [nP_no hv]
    exact SPipeTable_no A n c F AJ m cj fw _ _ w hv hn h
  · rw [nP_yes hv]
    obtain ⟨-, rfl, -⟩ := vpB_yes hv
    rcases m with _ | q
    · exact SPipeTable_zero A c F AJ cj fw _ _ w
    · exact SPipeTable_yes A q c F AJ cj J fw w hv h hj
end Go.Proofs.YtlmjbflnfpccdaaDoor

namespace Go.Proofs.YtlmjbflnfpccdaaDoor
open Go.RowKit
set_option linter.unusedSimpArgs false
set_option maxRecDepth 100000 in
set_option maxHeartbeats 8000000 in
theorem partAt_any (Ar : Option Addr) (cr : Nat) (A2 : Option Addr) (n c2 : Nat) (f : Nat → Int) (J : Nat → Bool) (k : Nat) (t : Int) (w : World) (hk : k < n) (hn : n ≤ 300) (ht0 : 0 ≤ t) (ht1 : t ≤ 2000) (hr : ∀ j, 2 ≤ f j ∧ f j ≤ 3 * (j : Int) + 2) (hrd : 1 ≤ rdP J f k ∧ rdP J f k ≤ 1000) (hs : st J f k ≤ f k) (hN : Nums w A2 n f) (hR : Nums w Ar n (rdP J f)) :
    Calls Tryd.prog 48 #[.agg #[.slice Ar n cr, .slice A2 n c2], .int .i64 (k : Int), .int .i64 t] w fun e w' => e = .returned (.int .i64 (prt J f k t)) ∧ w.grownBy w' none := by
  have hg := World.grownBy_alloc w (.cells #[.slice Ar n cr, .slice A2 n c2] 56) none
  obtain ⟨tb, tq, rfl, htb, -⟩ := hN.resolve_left (by omega)
  obtain ⟨rb, rq, rfl, hrb, -⟩ := hR.resolve_left (by omega)
  have c0 := hN.cell hk
  have c1 := hg.cell c0 (by intro e; cases e)
  have d0 := hR.cell hk
  have d1 := hg.cell d0 (by intro e; cases e)
  have hb := Holds5.fresh w 56 #[.slice (some ⟨rb, rq, none⟩) n cr, .slice (some ⟨tb, tq, none⟩) n c2]
  have hrk := hr k
  have i1 : (k : Int) < (n : Int) := by omega
  have i2 : (0 : Int) ≤ (k : Int) := by omega
  obtain ⟨P, hP⟩ : ∃ P, prt J f k t = P := ⟨_, rfl⟩
  have hrs : rdP J f k = st J f k - 1 := rfl
  unfold prt at hP
  have HPP := shade (show (prt J f k t) = P by unfold prt; exact hP)
  rw [HPP.out]
  clear HPP
  rw [show st J f k = rdP J f k + 1 by omega] at hP hs
  clear hrs hr
  generalize rdP J f k = rk at *
  generalize f k = fk at *
  have HCC := shade (show (w.alloc (.cells #[.slice (some ⟨rb, rq, none⟩) n cr, .slice (some ⟨tb, tq, none⟩) n c2] 56)).drew.cell? ⟨w.heap.size, 0, none⟩ = some (.slice (some ⟨rb, rq, none⟩) n cr) ∧ (w.alloc (.cells #[.slice (some ⟨rb, rq, none⟩) n cr, .slice (some ⟨tb, tq, none⟩) n c2] 56)).drew.cell? ⟨w.heap.size, 1, none⟩ = some (.slice (some ⟨tb, tq, none⟩) n c2) ∧ (w.alloc (.cells #[.slice (some ⟨rb, rq, none⟩) n cr, .slice (some ⟨tb, tq, none⟩) n c2] 56)).drew.cell? ⟨rb, rq + k, none⟩ = some (.int .i64 rk) ∧ (w.alloc (.cells #[.slice (some ⟨rb, rq, none⟩) n cr, .slice (some ⟨tb, tq, none⟩) n c2] 56)).drew.cell? ⟨tb, tq + k, none⟩ = some (.int .i64 fk) from ⟨hb.look 0, hb.look 1, d1, c1⟩)
  by_cases a0 : t = rk - 1
  · obtain rfl : P = 0 := by rw [← hP]; repeat' split <;> omega
    clear hP
    subst a0
    go_enter Tryd.func48, Tryd.ntmps48
    go_wp2_with fail
    go_region_held3 (fun w' => w'.cell? ⟨w.heap.size, 0, none⟩ = some (.slice (some ⟨rb, rq, none⟩) n cr) ∧ w'.cell? ⟨w.heap.size, 1, none⟩ = some (.slice (some ⟨tb, tq, none⟩) n c2) ∧ w'.cell? ⟨rb, rq + k, none⟩ = some (.int .i64 rk) ∧ w'.cell? ⟨tb, tq + k, none⟩ = some (.int .i64 fk)) (exact HCC.out) (fail)
    rename_i hHeld
    clear hHeld
    go_wp2_with fail
    go_ret
    exact ⟨rfl, grown_same hg (grown_drew1 _)⟩
  · have e0 : (t == rk - 1) = false := beq_eq_false_iff_ne.2 a0
    by_cases a1 : fk ≤ t
    · by_cases a2 : t < fk + 3
      · obtain rfl : P = 2 + t - fk := by rw [← hP]; repeat' split <;> omega
        clear hP
        go_enter Tryd.func48, Tryd.ntmps48
        go_wp2_with fail
        go_region_held3 (fun w' => w'.cell? ⟨w.heap.size, 0, none⟩ = some (.slice (some ⟨rb, rq, none⟩) n cr) ∧ w'.cell? ⟨w.heap.size, 1, none⟩ = some (.slice (some ⟨tb, tq, none⟩) n c2) ∧ w'.cell? ⟨rb, rq + k, none⟩ = some (.int .i64 rk) ∧ w'.cell? ⟨tb, tq + k, none⟩ = some (.int .i64 fk)) (exact HCC.out) (fail)
        rename_i hHeld
        clear hHeld
        go_wp2_with fail
        go_ret
        exact ⟨rfl, grown_same hg (grown_drew1 _)⟩
      · obtain rfl : P = -1 := by rw [← hP]; repeat' split <;> omega
        clear hP
        go_enter Tryd.func48, Tryd.ntmps48
        go_wp2_with fail
        go_region_held3 (fun w' => w'.cell? ⟨w.heap.size, 0, none⟩ = some (.slice (some ⟨rb, rq, none⟩) n cr) ∧ w'.cell? ⟨w.heap.size, 1, none⟩ = some (.slice (some ⟨tb, tq, none⟩) n c2) ∧ w'.cell? ⟨rb, rq + k, none⟩ = some (.int .i64 rk) ∧ w'.cell? ⟨tb, tq + k, none⟩ = some (.int .i64 fk)) (exact HCC.out) (fail)
        rename_i hHeld
        clear hHeld
        go_wp2_with fail
        go_ret
        exact ⟨rfl, grown_same hg (grown_drew1 _)⟩
    · by_cases a2 : rk ≤ t
      · obtain rfl : P = 1 := by rw [← hP]; repeat' split <;> omega
        clear hP
        go_enter Tryd.func48, Tryd.ntmps48
        go_wp2_with fail
        go_region_held3 (fun w' => w'.cell? ⟨w.heap.size, 0, none⟩ = some (.slice (some ⟨rb, rq, none⟩) n cr) ∧ w'.cell? ⟨w.heap.size, 1, none⟩ = some (.slice (some ⟨tb, tq, none⟩) n c2) ∧ w'.cell? ⟨rb, rq + k, none⟩ = some (.int .i64 rk) ∧ w'.cell? ⟨tb, tq + k, none⟩ = some (.int .i64 fk)) (exact HCC.out) (fail)
        rename_i hHeld
        clear hHeld
        go_wp2_with fail
        go_ret
        exact ⟨rfl, grown_same hg (grown_drew1 _)⟩
      · obtain rfl : P = -1 := by rw [← hP]; repeat' split <;> omega
        clear hP
        go_enter Tryd.func48, Tryd.ntmps48
        go_wp2_with fail
        go_region_held3 (fun w' => w'.cell? ⟨w.heap.size, 0, none⟩ = some (.slice (some ⟨rb, rq, none⟩) n cr) ∧ w'.cell? ⟨w.heap.size, 1, none⟩ = some (.slice (some ⟨tb, tq, none⟩) n c2) ∧ w'.cell? ⟨rb, rq + k, none⟩ = some (.int .i64 rk) ∧ w'.cell? ⟨tb, tq + k, none⟩ = some (.int .i64 fk)) (exact HCC.out) (fail)
        rename_i hHeld
        clear hHeld
        go_wp2_with fail
        go_ret
        exact ⟨rfl, grown_same hg (grown_drew1 _)⟩
end Go.Proofs.YtlmjbflnfpccdaaDoor

namespace Go.Proofs.YtlmjbflnfpccdaaDoor
open Go.RowKit
set_option linter.unusedSimpArgs false
set_option maxRecDepth 100000 in
set_option maxHeartbeats 4000000 in
theorem IPipeTable_none (A : Option Addr) (n c : Nat) (F : Nat → Ins) (AJ : Option Addr) (m cj : Nat) (J : Nat → Bool) (fw : Bool) (len : Nat → Nat) (R : Nat → Nat → Int) (w : World) (hw : WT w) (hn : n ≤ 9223372036854775807) (hc : n ≤ c) (h0 : nP n F m = 0) (h : Code w A n F) (hj : Bols w AJ m J) :
    Calls Tryd.prog 26 #[.slice A n c, .slice AJ m cj, .bool fw] w (RwsRes 0 len R w) := by
  have HP := shade (pipeOf_any A n c F AJ m cj J fw w hw hn hc h hj)
  rw [h0] at HP
  clear hw hc h hj h0
  go_enter Tryd.func26, Tryd.ntmps26
  go_wp2_with fail
  refine HP.out.mono ?_
  rintro e w1 ⟨rv, wv, rfl, hr, hwk, hg⟩
  have HG := shade (grown_same hg (World.grownBy_alloc w1 (.cells #[rv, wv] 56) none))
  obtain ⟨A1, c1, rfl, -⟩ := ownsRow_slice hr
  obtain ⟨A2, c2, rfl, -⟩ := ownsRow_slice hwk
  clear hr hwk hg HP
  go_wp2_with fail
  refine wp_loop_rounds 1 ?_
  rw [rounds_succ]
  go_wp2_with fail
  go_ret
  exact RwsRes.nil _ _ _ _ HG.out
set_option maxRecDepth 100000 in
set_option maxHeartbeats 8000000 in
theorem IPipeTable_yes (A : Option Addr) (q c : Nat) (F : Nat → Ins) (AJ : Option Addr) (cj : Nat) (J : Nat → Bool) (fw : Bool) (w : World) (hw : WT w) (hc : q + 1 ≤ c) (hv : vpB (q + 1) F (q + 1) = true) (h : Code w A (q + 1) F) (hj : Bols w AJ (q + 1) J) :
    Calls Tryd.prog 26 #[.slice A (q + 1) c, .slice AJ (q + 1) cj, .bool fw] w (RwsRes (q + 1) (lnP (q + 1) F J fw) (ptR F J fw) w) := by
  obtain ⟨h3, -, -⟩ := vpB_yes hv
  have HP := shade (pipeOf_any A (q + 1) c F AJ (q + 1) cj J fw w hw (by omega) hc h hj)
  rw [nP_yes hv, hv] at HP
  have HR := shade (pk_rng F J fw)
  have HU := shade (pk_up F J fw)
  obtain ⟨len, hlen⟩ : ∃ len, lnP (q + 1) F J fw = len := ⟨_, rfl⟩
  obtain ⟨R, hRR⟩ : ∃ R, ptR F J fw = R := ⟨_, rfl⟩
  have HLN := shade (show ∀ j, (len j : Int) = ptm (q + 1) (pk F J fw) ∧ len j ≤ 1000 from fun j => by
    have h1 := lnP_le h3 F J fw j
    rw [hlen] at h1
    refine ⟨?_, h1⟩
    rw [← hlen]
    unfold lnP
    have : 0 ≤ ptm (q + 1) (pk F J fw) := by
      unfold ptm
      rw [if_neg (by omega)]
      have := HR.out (q + 1 - 1)
      omega
    omega)
  have HRE := shade (show ∀ k i, R k i = prt J (pk F J fw) k (i : Int) from fun k i => by rw [← hRR]; rfl)
  rw [hlen, hRR]
  clear h hv hj hlen hRR hw hc
  obtain ⟨f, hf⟩ : ∃ f, pk F J fw = f := ⟨_, rfl⟩
  rw [hf] at HP HR HU HLN HRE
  clear hf
  have HRD := shade (show ∀ k, k ≤ q → 1 ≤ rdP J f k ∧ rdP J f k ≤ 1000 from fun k hk => by
    unfold rdP
    rcases k with _ | p
    · rw [st_0]; omega
    · rw [st_s]
      have := HR.out p
      split <;> omega)
  obtain ⟨i0, hi0, hz0, hz1, hz2⟩ := info_parts info41
  obtain ⟨i1, hi1, hy0, hy1, hy2⟩ := info_parts info3p
  have HI := shade (And.intro hi0 (And.intro hz0 (And.intro hz1 hz2)))
  have HJ := shade (And.intro hi1 (And.intro hy0 (And.intro hy1 hy2)))
  clear hi0 hz0 hz1 hz2 hi1 hy0 hy1 hy2
  go_enter Tryd.func26, Tryd.ntmps26
  go_wp2_with fail
  refine HP.out.mono ?_
  rintro e w1 ⟨rv, wv, rfl, hr, hwk, hg⟩
  have hg1 := World.grownBy_alloc w1 (.cells #[rv, wv] 56) none
  have HG := shade (grown_same hg hg1)
  obtain ⟨Ar, cr, rfl, -⟩ := ownsRow_slice hr
  obtain ⟨At, ct, rfl, -⟩ := ownsRow_slice hwk
  obtain ⟨At', ct', e2, hN⟩ := (show RowO w1 w.heap.size w1.heap.size 3 (.slice At (q + 1) ct) (q + 1) (numL (q + 1) f) from ⟨hwk, fun i hi => (World.ownsRow.lt hwk i hi).2⟩).nums
  injection e2 with e2 _ e3
  subst e2 e3
  obtain ⟨Ar', cr', e2, hM⟩ := (show RowO w1 w.heap.size w1.heap.size 3 (.slice Ar (q + 1) cr) (q + 1) (numL (q + 1) (rdP J f)) from ⟨hr, fun i hi => (World.ownsRow.lt hr i hi).2⟩).nums
  injection e2 with e2 _ e3
  subst e2 e3
  have HB := shade (Holds5.fresh w1 56 #[.slice Ar (q + 1) cr, .slice At (q + 1) ct])
  have HN := shade (hN.grown hg1 (by intro _ _ _ e; cases e))
  have HM := shade (hM.grown hg1 (by intro _ _ _ e; cases e))
  clear hr hwk hg hN hM hg1 HP
  go_wp2_with fail
  obtain ⟨W0, hW0⟩ : ∃ W0, w1.alloc (.cells #[.slice Ar (q + 1) cr, .slice At (q + 1) ct] 56) = W0 := ⟨_, rfl⟩
  have hz0 : w1.heap.size + 1 = W0.heap.size := by rw [← hW0]; simp
  rw [hW0] at HB HN HM HG ⊢
  clear hW0
  go_loopw [9, 23] (fun v k wr => ∃ (kk : Nat) (AS : Nat → Value), kk ≤ q + 1 ∧ k = .int .i64 kk ∧ Pts W0 wr v kk AS len R) (fun _ k _ => q + 1 - (intOf k).toNat)
  case atStart => exact ⟨0, fun _ => .slice none 0 0, Nat.zero_le _, rfl, ⟨⟨World.ownsRow_nil _ _ _ _, fun _ h => (by cases h)⟩, fun j hj => absurd hj (Nat.not_lt_zero j), fun i _ _ hi => absurd hi (Nat.not_lt_zero i)⟩, grown_refl _ _⟩
  case round =>
    obtain ⟨wo, hwo⟩ : ∃ wo : World, wo = wr := ⟨_, rfl⟩
    subst hwo
    obtain ⟨k, AS, hk, rfl, ho⟩ := hrel
    have HO := shade ho
    obtain ⟨A1, c1, rfl, -⟩ := ho.rws.shape
    clear ho
    by_cases hkn : k < q + 1
    · have hk2 : (k : Int) < (q : Int) + 1 := by omega
      have hb := HB.out.grown HO.out.low (by intro e; cases e)
      have b0 := hb.look 0; have b1 := hb.look 1
      simp at b0 b1
      have HBO := shade hb
      clear hb
      have HT := shade (time_any Ar cr At (q + 1) (q + 1) ct f wo HR.out h3 (HN.out.grown HO.out.low (by intro _ _ _ e; cases e)))
      have hln := HLN.out k
      obtain ⟨T, hT⟩ : ∃ T, ptm (q + 1) f = T := ⟨_, rfl⟩
      rw [hT] at HT hln
      clear hT
      obtain ⟨L, hL⟩ : ∃ L, len k = L := ⟨_, rfl⟩
      rw [hL] at hln
      have HL := shade hL
      clear hL
      obtain rfl : T = (L : Int) := by omega
      go_wp2_with fail
      refine HT.out.mono ?_
      rintro e w2 ⟨rfl, hg2⟩
      have HG2 := shade hg2
      clear hg2 HT b0 b1
      go_wp2_with fail
      go_loopw [11, 28] (fun u i wq => ∃ ii : Nat, ii ≤ L ∧ i = .int .i64 ii ∧ wq.ownsRow w2.heap.size 3 1 u ii (numL ii (R k)) ∧ w2.grownBy wq none) (fun _ i _ => L - (intOf i).toNat)
      case atStart => exact ⟨0, Nat.zero_le _, rfl, World.ownsRow_nil _ _ _ _, grown_refl _ _⟩
      case round =>
        obtain ⟨i, hik, rfl, hu, hgq⟩ := hrel
        have HU2 := shade hu; have HGQ := shade hgq
        obtain ⟨A2, c2, rfl, -⟩ := ownsRow_slice hu
        clear hu hgq
        by_cases hlt : i < L
        · have hb := HBO.out.grown (grown_same HG2.out HGQ.out) (by intro e; cases e)
          have b0 := hb.look 0; have b1 := hb.look 1
          simp at b0 b1
          clear hb
          have HPA := shade (fun W (hW : wo.grownBy W none) => partAt_any Ar cr At (q + 1) ct f J k (i : Int) W hkn h3 (by omega) (by omega) HR.out (HRD.out k (by omega)) (HU.out k) (HN.out.grown (grown_same HO.out.low hW) (by intro _ _ _ e; cases e)) (HM.out.grown (grown_same HO.out.low hW) (by intro _ _ _ e; cases e)))
          obtain ⟨x, hx⟩ : ∃ x, R k i = x := ⟨_, rfl⟩
          have hx2 := HRE.out k i
          rw [hx] at hx2
          rw [← hx2] at HPA
          have HX := shade hx
          clear hx hx2
          have hA2 : ∀ r, (Value.slice A2 i c2).ownBlock = some r → w2.heap.size ≤ r := fun r e => (World.ownsRow.lt HU2.out r e).1
          have HA2 := shade hA2
          clear hA2
          go_wp2_with fail
          refine (HPA.out _ (grown_same HG2.out HGQ.out)).mono ?_
          rintro e w3 ⟨rfl, hg3⟩
          have HU3 := shade (ownsRow_on HU2.out hg3)
          have HGQ3 := shade (grown_same HGQ.out hg3)
          clear hg3 b0 b1
          go_wp2_with (first
            | (at_builtin; refine wpList_append_own _ rfl _ _ 25 rfl w2.heap.size 3 i1 (.int .i64 0) 1 8 Tryd.underlying25 HJ.out.1 HJ.out.2.1 HJ.out.2.2.1 HJ.out.2.2.2 rfl (by decide) _ _ _ rfl (World.ownsRow.alloc HU3.out _) ⟨w3.heap.size, 0, none⟩ 1 1 [.int .i64 x] rfl rfl (int_new _ _ _) (int_one _) (by unfold maxLen; omega) (by omega) (by have := HGQ3.out.size; simp; omega) ?_)
            | go_in)
          intro v8 w8 hown8 hgr8 hnil8
          rw [numL_snoc' i _ x HX.out] at hown8
          have HU8 := shade hown8
          have HG8 := shade (grown_row' (grown_same HGQ3.out (World.grownBy_alloc _ _ none)) hgr8 HA2.out)
          clear hown8 hgr8 hnil8
          go_wp2_with fail
          go_roundw
          case rel => exact ⟨i + 1, by omega, by go_num, HU8.out, HG8.out⟩
          case measure =>
            simp [intOf]
            omega
        · obtain rfl : i = L := by omega
          have HG9 := shade (grown_same HO.out.low (grown_same HG2.out HGQ.out))
          go_wp2_with (first
            | (at_builtin; refine wpList_append_own _ rfl _ _ 38 rfl W0.heap.size 25 i0 (.slice none 0 0) 1 24 Tryd.underlying38 HI.out.1 HI.out.2.1 HI.out.2.2.1 HI.out.2.2.2 rfl (by decide) _ _ _ rfl (World.ownsRow.alloc (ownsRow_on HO.out.rws.out.own (grown_same HG2.out HGQ.out)) _) ⟨wr.heap.size, 0, none⟩ 1 1 [.slice A2 i c2] rfl rfl (slice_new _ _ _) (fun u hu => by rw [List.mem_singleton.1 hu]; rfl) (by unfold maxLen; omega) (by omega) (by have := HG9.out.size; simp; omega) ?_)
            | go_in)
          intro v8 w8 hown8 hgr8 hnil8
          have HN8 := shade (HO.out.rws.snoc (AS' := fun j => if j = k then .slice A2 i c2 else AS j) (R' := R) (Nat.le_refl _) HO.out.low.size (World.ownsRow.alloc (show wr.ownsRow wo.heap.size 3 1 (.slice A2 i c2) (len k) (numL (len k) (R k)) by rw [HL.out]; exact World.ownsRow.mono HU2.out HG2.out.size) (.cells #[.slice A2 i c2] 25)) (grown_same (grown_same HG2.out HGQ.out) (World.grownBy_alloc _ _ none)) hown8 hgr8 (fun _ _ => rfl) (fun j hj => if_neg (by omega)) (if_pos rfl))
          have HL8 := shade (grown_row' (grown_same HG9.out (World.grownBy_alloc _ _ none)) hgr8 (fun r e => (World.ownsRow.lt HO.out.rws.out.own r e).1))
          clear hown8 hgr8 hnil8
          go_wp2_with fail
          go_roundw
          case rel => exact ⟨k + 1, _, by omega, by go_num, HN8.out, HL8.out⟩
          case measure => simp [intOf]; omega
    · obtain rfl : k = q + 1 := by omega
      go_wp2_with fail
      go_ret
      exact ⟨_, AS, rfl, ⟨⟨World.ownsRow.mono HO.out.rws.out.own HG.out.size, HO.out.rws.out.hib⟩, fun j hj => ⟨World.ownsRow.mono (HO.out.rws.row j hj).own HG.out.size, (HO.out.rws.row j hj).hib⟩, HO.out.rws.sep⟩, grown_same HG.out HO.out.low⟩
theorem IPipeTable_any (A : Option Addr) (n c : Nat) (F : Nat → Ins) (AJ : Option Addr) (m cj : Nat) (J : Nat → Bool) (fw : Bool) (w : World) (hw : WT w) (hn : n ≤ 9223372036854775807) (hc : n ≤ c) (h : Code w A n F) (hj : Bols w AJ m J) :
    Calls Tryd.prog 26 #[.slice A n c, .slice AJ m cj, .bool fw] w (RwsRes (nP n F m) (lnP n F J fw) (ptR F J fw) w) := by
  by_cases h0 : nP n F m = 0
  · rw [h0]
    exact IPipeTable_none A n c F AJ m cj J fw _ _ w hw hn hc h0 h hj
  · rcases hv : vpB n F m with _ | _
    · exact absurd (nP_no hv) h0
    · rw [nP_yes hv] at h0 ⊢
      obtain ⟨-, rfl, -⟩ := vpB_yes hv
      obtain ⟨q, rfl⟩ : ∃ q, m = q + 1 := ⟨m - 1, by omega⟩
      exact IPipeTable_yes A q c F AJ cj J fw w hw hc hv h hj
theorem ps_const {len : Nat → Nat} {B : Nat} (h : ∀ j, len j ≤ B) : ∀ K, ps len K ≤ K * B
  | 0 => by show (0 : Nat) ≤ 0 * B; omega
  | K + 1 => by
    have h1 := ps_const h K
    have h2 := h K
    show ps len K + len K ≤ (K + 1) * B
    rw [Nat.add_mul]
    omega
theorem table_both (n : Nat) (F : Nat → Ins) (m : Nat) (J : Nat → Bool) (fw : Bool) (hn : n ≤ 9223372036854775807) :
    ∃ (K : Nat) (len : Nat → Nat) (R : Nat → Nat → Int), K ≤ 300 ∧ (∀ j, j < K → len j ≤ 2000) ∧ ps len K ≤ 1000000 ∧ (∀ (A : Option Addr) (c : Nat) (AJ : Option Addr) (cj : Nat) (W : World), Code W A n F → Bols W AJ m J → Calls Tryd.prog 25 #[.slice A n c, .slice AJ m cj, .bool fw] W (RwsRes K len R W)) ∧
      (∀ (A : Option Addr) (AJ : Option Addr) (cj : Nat) (W : World), WT W → Code W A n F → Bols W AJ m J → Calls Tryd.prog 26 #[.slice A n n, .slice AJ m cj, .bool fw] W (RwsRes K len R W)) := by
  have hK := nP_le n m F
  by_cases h0 : nP n F m = 0
  · exact ⟨0, fun _ => 0, ptR F J fw, by omega, fun _ _ => by omega, by show (0 : Nat) ≤ _; omega, fun A c AJ cj W h hj => by
      have := SPipeTable_any A n c F AJ m cj J fw W hn h hj
      rw [h0] at this
      exact this.mono fun e w' he => by
        obtain ⟨v, AS, rfl, hR, hg⟩ := he
        exact ⟨v, AS, rfl, ⟨hR.out, fun j hj => absurd hj (Nat.not_lt_zero j), fun i _ _ hi => absurd hi (Nat.not_lt_zero i)⟩, hg⟩, fun A AJ cj W hW h hj => IPipeTable_none A n n F AJ m cj J fw _ _ W hW hn (Nat.le_refl _) h0 h hj⟩
  · have hv : vpB n F m = true := by
      rcases e : vpB n F m with _ | _
      · exact absurd (nP_no e) h0
      · rfl
    have h3 := (vpB_yes hv).1
    have hl := fun j => lnP_le h3 F J fw j
    refine ⟨nP n F m, lnP n F J fw, ptR F J fw, hK, fun j _ => by have := hl j; omega, ?_, fun A c AJ cj W h hj => SPipeTable_any A n c F AJ m cj J fw W hn h hj, fun A AJ cj W hW h hj => IPipeTable_any A n n F AJ m cj J fw W hW hn (Nat.le_refl _) h hj⟩
    have h1 := ps_const hl (nP n F m)
    have h2 : nP n F m * 1000 ≤ 300 * 1000 := Nat.mul_le_mul_right _ hK
    omega
end Go.Proofs.YtlmjbflnfpccdaaDoor

namespace Go.Proofs.YtlmjbflnfpccdaaDoor
open Go.RowKit
set_option linter.unusedSimpArgs false
/-- Is a number among the first of a row? -/
def isInB (f : Nat → Int) : Nat → Int → Bool
  | 0, _ => false
  | k + 1, x => isInB f k x || (f k == x)
theorem isInB_iff (f : Nat → Int) (x : Int) : ∀ n, isInB f n x = true ↔ ∃ j, j < n ∧ f j = x := by
  intro n
  induction n with
  | zero =>
    constructor
    · intro h
      cases h
    · rintro ⟨j, hj, _⟩
      omega
  | succ n ih =>
    show (isInB f n x || (f n == x)) = true ↔ _
    rw [Bool.or_eq_true, ih, beq_iff_eq]
    constructor
    · rintro (⟨j, hj, h⟩ | h)
      · exact ⟨j, by omega, h⟩
      · exact ⟨n, by omega, h⟩
    · rintro ⟨j, hj, h⟩
      by_cases e : j = n
      · subst e
        exact .inr h
      · exact .inl ⟨j, by omega, h⟩
theorem isInB_hit (f : Nat → Int) (x : Int) (n j : Nat) (hj : j < n) (h : f j = x) : isInB f n x = true := (isInB_iff f x n).2 ⟨j, hj, h⟩
theorem isIn_zero (A : Option Addr) (c : Nat) (x : Int) (w : World) :
    Calls Tryd.prog 37 #[.slice A 0 c, .int .i64 x] w fun e w' => e = .returned (.bool false) ∧ w = w' := by
  go_enter Tryd.func37, Tryd.ntmps37
  go_wp2
  refine wp_loop_rounds 1 ?_
  rw [rounds_succ]
  go_wp2
  go_ret
  exact ⟨rfl, rfl⟩
set_option maxHeartbeats 1000000 in
theorem isIn_at (b off n c : Nat) (f : Nat → Int) (x : Int) (w : World) (hn : n ≤ 9223372036854775807) (h : Nums w (some ⟨b, off, none⟩) n f) :
    Calls Tryd.prog 37 #[.slice (some ⟨b, off, none⟩) n c, .int .i64 x] w fun e w' => e = .returned (.bool (isInB f n x)) ∧ w = w' := by
  have H := shade h
  clear h
  go_enter Tryd.func37, Tryd.ntmps37
  go_wp2
  go_loop [5] (fun i => ∃ k : Nat, k ≤ n ∧ i = .int .i64 k ∧ isInB f k x = false) (fun i => n - (intOf i).toNat)
  case atStart => exact ⟨0, Nat.zero_le _, rfl, rfl⟩
  case round =>
    obtain ⟨k, hk, rfl, hno⟩ := hrel
    have HNO := shade hno
    clear hno
    by_cases hkn : k < n
    · have q1 := H.out.cell hkn
      rcases he : (f k == x) with _ | _
      · have HE := shade he
        obtain ⟨y, hy⟩ : ∃ y, f k = y := ⟨_, rfl⟩
        rw [hy] at q1 he
        clear hy
        go_wp2
        go_round
        case rel =>
          refine ⟨k + 1, by omega, by go_num, ?_⟩
          show (isInB f k x || (f k == x)) = false
          rw [HNO.out, HE.out]
          rfl
        case measure => simp [intOf]; omega
      · have HE := shade (isInB_hit f x n k hkn (beq_iff_eq.1 he))
        rw [beq_iff_eq.1 he] at q1
        clear he
        go_wp2
        go_ret
        exact ⟨ret_b HE.out.symm, rfl⟩
    · have hkn2 : k = n := by omega
      subst hkn2
      go_wp2
      go_ret
      exact ⟨ret_b HNO.out.symm, rfl⟩
theorem isIn_any (A : Option Addr) (n c : Nat) (f : Nat → Int) (x : Int) (w : World) (hn : n ≤ 9223372036854775807) (h : Nums w A n f) :
    Calls Tryd.prog 37 #[.slice A n c, .int .i64 x] w fun e w' => e = .returned (.bool (isInB f n x)) ∧ w = w' := by
  by_cases h0 : n = 0
  · subst h0
    exact isIn_zero A c x w
  · obtain ⟨b, off, rfl, _⟩ := h.resolve_left h0
    exact isIn_at b off n c f x w hn h
end Go.Proofs.YtlmjbflnfpccdaaDoor

namespace Go.Proofs.YtlmjbflnfpccdaaDoor
open Go.RowKit
set_option linter.unusedSimpArgs false
theorem st_lo (J : Nat → Bool) (f : Nat → Int) (h : ∀ k, 2 ≤ f k) (k : Nat) : 2 ≤ st J f k := by
  unfold st
  have := h (k - 1)
  split
  · omega
  · split <;> omega
theorem st_asc {J : Nat → Bool} {f : Nat → Int} (h : ∀ k, st J f k ≤ f k) {k : Nat} : ∀ {j : Nat}, k < j → f k + 1 ≤ st J f j
  | 0, hk => absurd hk (Nat.not_lt_zero k)
  | p + 1, hk => by
    have e : st J f (p + 1) = f p + 1 + (if J p = true then 2 else 0) := if_neg (by omega)
    have e2 : (0 : Int) ≤ (if J p = true then 2 else 0) := by split <;> omega
    by_cases hp : k = p
    · subst hp
      omega
    · have h1 := st_asc h (show k < p by omega)
      have h2 := h p
      omega
/-- No two are in one part. -/
theorem prt_two {J : Nat → Bool} {f : Nat → Int} (h : ∀ k, st J f k ≤ f k) {k j : Nat} (hkj : k < j) {t : Int} (h0 : 0 ≤ prt J f j t) : prt J f k t ≠ prt J f j t := by
  have h1 := st_asc h hkj
  have h2 := h k
  have h3 := h j
  unfold prt at h0 ⊢
  repeat' split at h0
  all_goals (repeat' split)
  all_goals omega
theorem seen_no {J : Nat → Bool} {f : Nat → Int} (h : ∀ k, st J f k ≤ f k) (R : Nat → Nat → Int) (hR : ∀ k i, R k i = prt J f k (i : Int)) (k t : Nat) (h0 : 0 ≤ R k t) : isInB (fun j => R j t) k (R k t) = false := by
  rcases e : isInB (fun j => R j t) k (R k t) with _ | _
  · rfl
  · obtain ⟨j, hj, e2⟩ := (isInB_iff _ _ _).1 e
    rw [hR] at h0
    refine absurd ?_ (prt_two h hj h0)
    rw [← hR, ← hR]
    exact e2
/-- The part that an instruction was in last, ahead of a tick. -/
def lst (J : Nat → Bool) (f : Nat → Int) (k : Nat) (t : Int) : Int :=
  if t ≤ st J f k - 2 then -1 else if t = st J f k - 1 then 0 else if t ≤ f k then 1 else if t ≤ f k + 3 then 1 + (t - f k) else 4
theorem lst_go {J : Nat → Bool} {f : Nat → Int} (h : ∀ k, st J f k ≤ f k) (k : Nat) (t : Int) :
    (prt J f k t < 0 ∧ lst J f k (t + 1) = lst J f k t) ∨ (0 ≤ prt J f k t ∧ (prt J f k t = lst J f k t ∧ prt J f k t = 1 ∨ prt J f k t = lst J f k t + 1) ∧ lst J f k (t + 1) = prt J f k t) := by
  have h2 := h k
  unfold prt lst
  repeat' split
  all_goals omega
theorem lst_0 {J : Nat → Bool} {f : Nat → Int} (h : ∀ k, 2 ≤ f k) (k : Nat) : lst J f k 0 = -1 := if_pos (by have := st_lo J f h k; omega)
theorem lst_end {J : Nat → Bool} {f : Nat → Int} (h : ∀ k, st J f k ≤ f k) (k : Nat) (t : Int) (ht : f k + 3 ≤ t) : lst J f k t = 4 := by
  have h2 := h k
  unfold lst
  repeat' split
  all_goals omega
theorem lst_rng {J : Nat → Bool} {f : Nat → Int} (h : ∀ k, st J f k ≤ f k) (k : Nat) (t : Int) : -1 ≤ lst J f k t ∧ lst J f k t ≤ 4 := by
  have h2 := h k
  unfold lst
  repeat' split
  all_goals omega
theorem prt_rng (J : Nat → Bool) (f : Nat → Int) (k : Nat) (t : Int) : -1 ≤ prt J f k t ∧ prt J f k t ≤ 4 := by
  unfold prt
  repeat' split
  all_goals omega
theorem fin_le {J : Nat → Bool} {f : Nat → Int} (h : ∀ k, st J f k ≤ f k) {k q : Nat} (hk : k ≤ q) : f k ≤ f q := by
  by_cases e : k = q
  · rw [e]; exact Int.le_refl _
  · have h1 := st_asc h (show k < q by omega)
    have h2 := h q
    omega
theorem Rws.look {wr : World} {lo hi : Nat} {g c K : Nat} {AS : Nat → Value} {len : Nat → Nat} {R : Nat → Nat → Int} (h : Rws wr lo hi (.slice (some ⟨g, 0, none⟩) K c) K AS len R) {j : Nat} (hj : j < K) : wr.cell? ⟨g, j, none⟩ = some (AS j) := by
  obtain ⟨A, c', e, s⟩ := h.shape
  injection e with e1 e2 e3
  obtain ⟨g', e4, q⟩ := s.resolve_left (by omega)
  rw [← e1] at e4
  injection e4 with e5
  injection e5 with e6
  subst e6
  exact q j hj
set_option maxRecDepth 100000 in
set_option maxHeartbeats 4000000 in
theorem equalRows_rows (lo1 hi1 lo2 hi2 K : Nat) (v1 v2 : Value) (AS1 AS2 : Nat → Value) (len : Nat → Nat) (R : Nat → Nat → Int) (w : World) (hK : K ≤ 300) (hl : ∀ j, j < K → len j ≤ 2000) (h1 : Rws w lo1 hi1 v1 K AS1 len R) (h2 : Rws w lo2 hi2 v2 K AS2 len R) :
    Calls Tryd.prog 36 #[v1, v2] w fun e w' => e = .returned (.bool true) ∧ w.grownBy w' none := by
  obtain ⟨A1, c1, rfl, s1⟩ := h1.shape
  obtain ⟨A2, c2, rfl, s2⟩ := h2.shape
  have H1 := shade h1; have H2 := shade h2
  clear h1 h2 s1 s2
  go_enter Tryd.func36, Tryd.ntmps36
  go_wp2
  go_loopw [5] (fun i wr => ∃ k : Nat, k ≤ K ∧ i = .int .i64 k ∧ w.grownBy wr none) (fun i _ => K - (intOf i).toNat)
  case atStart => exact ⟨0, Nat.zero_le _, rfl, grown_refl _ _⟩
  case round =>
    obtain ⟨k, hk, rfl, hg⟩ := hrel
    have HG := shade hg
    by_cases hkn : k < K
    · have r1 := H1.out.grown hg
      have r2 := H2.out.grown hg
      obtain ⟨A1', c1', e1, s1⟩ := r1.shape
      obtain ⟨A2', c2', e2, s2⟩ := r2.shape
      injection e1 with e1a e1b e1c
      injection e2 with e2a e2b e2c
      obtain ⟨g1, e1g, q1⟩ := s1.resolve_left (by omega)
      obtain ⟨g2, e2g, q2⟩ := s2.resolve_left (by omega)
      have x1 := q1 k hkn
      have x2 := q2 k hkn
      obtain ⟨B1, d1, f1, n1⟩ := r1.nums hkn
      obtain ⟨B2, d2, f2, n2⟩ := r2.nums hkn
      rw [f1] at x1
      rw [f2] at x2
      rw [e1g] at e1a
      rw [e2g] at e2a
      subst e1a
      subst e2a
      have hlk := hl k hkn
      have HEQ := shade (fun (W : World) (n1 : Nums W B1 (len k) (R k)) (n2 : Nums W B2 (len k) (R k)) => equalInts_any B1 B2 d1 d2 (len k) (R k) (R k) W (by omega) n1 n2 (fun _ _ => rfl))
      have N1 := shade n1; have N2 := shade n2
      clear hg r1 r2 s1 s2 q1 q2 f1 f2 n1 n2 e1b e1c e2b e2c e1g e2g hl
      go_upto_region 6 with (fail)
      go_region_held3 (fun w' => w'.cell? ⟨g1, k, none⟩ = some (.slice B1 (len k) d1) ∧ w'.cell? ⟨g2, k, none⟩ = some (.slice B2 (len k) d2))
        (first | exact ⟨x1, x2⟩ | exact ⟨z1, z2⟩)
        (first | (go_at_call 33; refine (HEQ.out _ (by first | exact N1.out | exact N1.out.drewN 1) (by first | exact N2.out | exact N2.out.drewN 1)).mono ?_; rintro e w2 ⟨rfl, m, rfl⟩; have z1 := x1; have z2 := x2))
      all_goals (go_wp2_with fail)
      all_goals (exact ⟨⟨k + 1, by omega, by go_num, grown_drewN HG.out _⟩, by simp [intOf]; omega⟩)
    · obtain rfl : k = K := by omega
      clear hg
      go_wp2_with fail
      go_ret
      exact ⟨rfl, HG.out⟩
end Go.Proofs.YtlmjbflnfpccdaaDoor

namespace Go.Proofs.YtlmjbflnfpccdaaDoor
open Go.RowKit
set_option linter.unusedSimpArgs false
set_option maxRecDepth 100000 in
set_option maxHeartbeats 8000000 in
theorem fnPipeTable_walk (A : Option Addr) (n cap : Nat) (zs : List Int) (w : World) (hg : WT w) (hB : Bys w A n cap zs) :
    Calls Tryd.prog 9 #[.slice A n cap] w fun e w' => e = .returned (.bool true) ∧ Below w.heap.size w w' := by
  have HG := shade hg
  have HBy := shade hB
  have hcap := hB.fits
  have hbig := hB.big
  unfold maxLen at hbig
  clear hg hB
  by_cases hl : 1048576 < n
  · go_enter Tryd.func9, Tryd.ntmps9
    go_wp2
    go_ret
    exact ⟨rfl, by go_grown⟩
  · have HD := shade (DrawPipeTable_any A n cap zs w HBy.out)
    obtain ⟨iI, hi1, hy0, hy1, hy2⟩ := info_parts info3p
    have HJI := shade (And.intro hi1 (And.intro hy0 (And.intro hy1 hy2)))
    clear hi1 hy0 hy1 hy2
    go_enter Tryd.func9, Tryd.ntmps9
    go_wp2_with fail
    refine HD.out.mono ?_
    rintro e w1 ⟨A1, k, c, G, A2, m, d, J, fw, rfl, ⟨hk3, hm3, hkc, hmd⟩, hC, hJ, hgr⟩
    have HG1 := shade hgr
    have HC := shade hC
    have HJ := shade hJ
    clear hgr hC hJ HD HBy
    have HW := shade (fun W (hg : w.grownBy W none) => HG.out.below (below_of_grown hg) (wt_lt HG.out))
    have HIM := shade (fun W (hg : w1.grownBy W none) (hw : w.grownBy W none) => IPipeTable_any A1 k c G A2 m d J fw W (HW.out W hw) (by omega) hkc (HC.out.on hg) (bols_on HJ.out hg))
    have HSP := shade (fun W (hg : w1.grownBy W none) => SPipeTable_any A1 k c G A2 m d J fw W (by omega) (HC.out.on hg) (bols_on HJ.out hg))
    by_cases hK : nP k G m = 0
    · rw [hK] at HIM HSP
      clear hK
      generalize lnP k G J fw = len at *
      generalize ptR G J fw = R at *
      go_wp2_with fail
      refine (HIM.out _ (grown_refl _ _) HG1.out).mono ?_
      rintro e w2 ⟨v, AS2, rfl, hR, hg2⟩
      obtain ⟨B2, c2, rfl, -⟩ := hR.shape
      have HR2 := shade hR; have HG2 := shade hg2
      clear hR hg2
      go_wp2_with fail
      refine (HSP.out _ HG2.out).mono ?_
      rintro e w3 ⟨v, AS3, rfl, hR, hg3⟩
      obtain ⟨B3, c3, rfl, -⟩ := hR.shape
      have HR3 := shade hR; have HR2 := shade (HR2.out.grown hg3); have HG3 := shade (grown_same HG2.out hg3)
      clear hR hg3
      go_wp2_with fail
      refine (equalRows_rows _ _ _ _ 0 _ _ AS2 AS3 len R _ (by omega) (fun j hj => absurd hj (Nat.not_lt_zero j)) HR2.out HR3.out).mono ?_
      rintro e w4 ⟨rfl, hg4⟩
      have HG4 := shade (grown_same HG3.out hg4); have HR2 := shade (HR2.out.grown hg4)
      clear hg4
      go_wp2_with fail
      refine (HSP.out _ HG4.out).mono ?_
      rintro e w5 ⟨v, AS5, rfl, hR, hg5⟩
      obtain ⟨B5, c5, rfl, -⟩ := hR.shape
      have HR5 := shade hR; have HR2 := shade (HR2.out.grown hg5); have HG5 := shade (grown_same HG4.out hg5)
      clear hR hg5
      go_wp2_with fail
      refine (equalRows_rows _ _ _ _ 0 _ _ AS2 AS5 len R _ (by omega) (fun j hj => absurd hj (Nat.not_lt_zero j)) HR2.out HR5.out).mono ?_
      rintro e w6 ⟨rfl, hg6⟩
      have HG6 := shade (grown_same HG5.out hg6)
      clear hg6
      go_wp2_with fail
      go_ret
      exact ⟨rfl, below_of_grown (grown_same HG1.out HG6.out)⟩
    · have hv : vpB k G m = true := by
        rcases hv : vpB k G m with _ | _
        · rw [nP_no hv] at hK
          exact absurd rfl hK
        · rfl
      rw [nP_yes hv] at HIM HSP hK
      obtain ⟨-, rfl, -⟩ := vpB_yes hv
      have hkp : 0 < m := by omega
      have hU := pk_up G J fw
      have hr2 : ∀ k, 2 ≤ pk G J fw k := fun k => (pk_rng G J fw k).1
      obtain ⟨T, hT⟩ : ∃ T, (ptm m (pk G J fw)).toNat = T := ⟨_, rfl⟩
      have hT1 : ptm m (pk G J fw) = (T : Int) := by
        have : ptm m (pk G J fw) = pk G J fw (m - 1) + 3 := if_neg (by omega)
        have := hr2 (m - 1)
        omega
      have hT2 : pk G J fw (m - 1) + 3 = (T : Int) := by rw [← hT1]; exact (if_neg (by omega)).symm
      have hT3 := (pk_rng G J fw (m - 1)).2
      have hT4 : T ≤ 1000 := by omega
      have hT5 : 0 < T := by have := hr2 (m - 1); omega
      have HPT := shade (fun W (hg : w1.grownBy W none) (hw : w.grownBy W none) => (hT1 ▸ tmP_yes (J := J) (fw := fw) hv) ▸ IPipeTime_any A1 m c G A2 m d J fw W (HW.out W hw) (by omega) hkc (HC.out.on hg) (bols_on HJ.out hg))
      have hln : lnP m G J fw = fun _ => T := by funext j; exact hT
      rw [hln] at HIM HSP
      have HSN := shade (seen_no hU (ptR G J fw) (fun _ _ => rfl))
      obtain ⟨R, hR⟩ : ∃ R, ptR G J fw = R := ⟨_, rfl⟩
      obtain ⟨L, hL⟩ : ∃ L : Nat → Nat → Int, L = fun (k t : Nat) => lst J (pk G J fw) k (t : Int) := ⟨_, rfl⟩
      have HL0 := shade (show ∀ k, L k 0 = -1 from fun k => by rw [hL]; exact lst_0 hr2 k)
      have HLE := shade (show ∀ k, k < m → L k T = 4 from fun k hk => by rw [hL]; exact lst_end hU k _ (by have := fin_le hU (show k ≤ m - 1 by omega); omega))
      have HLR := shade (show ∀ k t, -1 ≤ L k t ∧ L k t ≤ 4 from fun k t => by rw [hL]; exact lst_rng hU k _)
      have HRR := shade (show ∀ k t, -1 ≤ R k t ∧ R k t ≤ 4 from fun k t => by rw [← hR]; exact prt_rng J _ k _)
      have HLS := shade (show ∀ k t, (R k t < 0 ∧ L k (t + 1) = L k t) ∨ (0 ≤ R k t ∧ (R k t = L k t ∧ R k t = 1 ∨ R k t = L k t + 1) ∧ L k (t + 1) = R k t) from fun k t => by rw [hL, ← hR]; have := lst_go hU k (t : Int); simp only [Int.natCast_add, Int.natCast_one] at this ⊢; exact this)
      rw [hR] at HIM HSP HSN
      clear hv hK hU hr2 hT hT1 hT2 hT3 hln hR hL
      go_wp2_with fail
      refine (HIM.out _ (grown_refl _ _) HG1.out).mono ?_
      rintro e w2 ⟨v, AS2, rfl, hR, hg2⟩
      obtain ⟨B2, c2, rfl, hs⟩ := hR.shape
      obtain ⟨g2, rfl, -⟩ := hs.resolve_left (by omega)
      have HR2 := shade hR; have HG2 := shade hg2
      clear hR hg2 hs
      go_wp2_with fail
      refine (HSP.out _ HG2.out).mono ?_
      rintro e w3 ⟨v, AS3, rfl, hR, hg3⟩
      obtain ⟨B3, c3, rfl, -⟩ := hR.shape
      have HR3 := shade hR; have HR2 := shade (HR2.out.grown hg3); have HG3 := shade (grown_same HG2.out hg3)
      clear hR hg3
      go_wp2_with fail
      refine (equalRows_rows _ _ _ _ m _ _ AS2 AS3 (fun _ => T) R _ (by omega) (fun j hj => by omega) HR2.out HR3.out).mono ?_
      rintro e w4 ⟨rfl, hg4⟩
      have HG4 := shade (grown_same HG3.out hg4); have HR2 := shade (HR2.out.grown hg4)
      clear hg4
      have e0 : ((m : Int) == 0) = false := beq_eq_false_iff_ne.2 (by omega)
      go_wp2_with fail
      go_loopw [7] (fun i wr => ∃ t : Nat, t ≤ T ∧ i = .int .i64 (t : Int) ∧ w4.grownBy wr none) (fun i _ => T - (intOf i).toNat)
      case atStart => exact ⟨0, Nat.zero_le _, rfl, grown_refl _ _⟩
      case round =>
        obtain ⟨wo, hwo⟩ : ∃ wo : World, wo = wr := ⟨_, rfl⟩
        subst hwo
        obtain ⟨t, ht, rfl, hgr⟩ := hrel
        have HGR := shade hgr
        clear hgr
        have x0 := (HR2.out.grown HGR.out).look hkp
        obtain ⟨P0, q0, f0, -⟩ := (HR2.out.grown HGR.out).nums hkp
        rw [f0] at x0
        have F0 := shade f0
        clear f0
        have i0 : (0 : Int) < (m : Int) := by omega
        by_cases htT : t < T
        · have hti : (t : Int) < (T : Int) := by omega
          go_wp2_with fail
          clear x0
          go_loopw [8, 9] (fun s i wq => ∃ k : Nat, k ≤ m ∧ i = .int .i64 (k : Int) ∧ wq.ownsRow wo.heap.size 3 1 s k (numL k (fun j => R j t)) ∧ wo.grownBy wq none) (fun _ i _ => m - (intOf i).toNat)
          case atStart => exact ⟨0, Nat.zero_le _, rfl, ⟨rfl, .inr ⟨wo.heap.size, 0, #[], rfl, Nat.le_refl _, World.alloc_heap_new _ _, Nat.le_refl _, by unfold maxLen; omega, rfl, rfl⟩⟩, World.grownBy_alloc _ _ none⟩
          case round =>
            obtain ⟨k, hk, rfl, hs, hq⟩ := hrel
            have HS := shade hs; have HQ := shade hq
            obtain ⟨S, cs, rfl, -⟩ := ownsRow_slice hs
            clear hq
            by_cases hkm : k < m
            · have hkI : (k : Int) < (m : Int) := by omega
              have xk := (HR2.out.grown (grown_same HGR.out HQ.out)).look hkm
              obtain ⟨Pk, qk, fk, Nk⟩ := (HR2.out.grown (grown_same HGR.out HQ.out)).nums hkm
              rw [fk] at xk
              obtain ⟨pb, po, rfl, -⟩ := Nk.resolve_left (by omega)
              have yk := Nk.cell htT
              have hno := HSN.out k t
              have hrg := HRR.out k t
              obtain ⟨S', cs', e2, hNS⟩ := (show RowO wr wo.heap.size wr.heap.size 3 (.slice S k cs) k (numL k (fun j => R j t)) from ⟨hs, fun i hi => (World.ownsRow.lt hs i hi).2⟩).nums
              injection e2 with e2 _ e3
              subst e2 e3
              obtain ⟨x, hx⟩ : ∃ x, R k t = x := ⟨_, rfl⟩
              rw [hx] at yk hno hrg
              have HX := shade hx
              have HIS := shade (fun (h : 0 ≤ x) => show Calls Tryd.prog 37 #[.slice S k cs, .int .i64 x] wr fun e w' => e = .returned (.bool false) ∧ wr = w' by
                have := isIn_any S k cs (fun j => R j t) x wr (by omega) hNS
                rw [hno h] at this
                exact this)
              have HA2 := shade (show ∀ r, (Value.slice S k cs).ownBlock = some r → wo.heap.size ≤ r from fun r e => (World.ownsRow.lt hs r e).1)
              clear hx hno hNS hs fk Nk
              by_cases hx0 : 0 ≤ x
              · go_wp2_with fail
                refine (HIS.out hx0).mono ?_
                rintro e w3 ⟨rfl, rfl⟩
                clear HIS
                go_wp2_with (first
                  | (at_builtin; refine wpList_append_own _ rfl _ _ 25 rfl wo.heap.size 3 iI (.int .i64 0) 1 8 Tryd.underlying25 HJI.out.1 HJI.out.2.1 HJI.out.2.2.1 HJI.out.2.2.2 rfl (by decide) _ _ _ rfl (World.ownsRow.alloc HS.out _) ⟨wr.heap.size, 0, none⟩ 1 1 [.int .i64 x] rfl rfl (int_new _ _ _) (int_one _) (by unfold maxLen; omega) (by omega) (by have := HQ.out.size; simp; omega) ?_)
                  | go_in)
                intro v8 w8 hown8 hgr8 hnil8
                rw [numL_snoc' k (fun j => R j t) x HX.out] at hown8
                have HU8 := shade hown8
                have HG8 := shade (grown_row' (grown_same HQ.out (World.grownBy_alloc _ _ none)) hgr8 HA2.out)
                clear hown8 hgr8 hnil8
                go_wp2_with fail
                go_roundw
                case rel => exact ⟨k + 1, by omega, by go_num, HU8.out, HG8.out⟩
                case measure => simp [intOf]; omega
              · go_wp2_with (first
                  | (at_builtin; refine wpList_append_own _ rfl _ _ 25 rfl wo.heap.size 3 iI (.int .i64 0) 1 8 Tryd.underlying25 HJI.out.1 HJI.out.2.1 HJI.out.2.2.1 HJI.out.2.2.2 rfl (by decide) _ _ _ rfl (World.ownsRow.alloc HS.out _) ⟨wr.heap.size, 0, none⟩ 1 1 [.int .i64 x] rfl rfl (int_new _ _ _) (int_one _) (by unfold maxLen; omega) (by omega) (by have := HQ.out.size; simp; omega) ?_)
                  | go_in)
                intro v8 w8 hown8 hgr8 hnil8
                rw [numL_snoc' k (fun j => R j t) x HX.out] at hown8
                have HU8 := shade hown8
                have HG8 := shade (grown_row' (grown_same HQ.out (World.grownBy_alloc _ _ none)) hgr8 HA2.out)
                clear hown8 hgr8 hnil8
                go_wp2_with fail
                go_roundw
                case rel => exact ⟨k + 1, by omega, by go_num, HU8.out, HG8.out⟩
                case measure => simp [intOf]; omega
            · obtain rfl : k = m := by omega
              go_wp2_with fail
              go_roundw
              case rel => exact ⟨t + 1, by omega, by go_num, grown_same HGR.out HQ.out⟩
              case measure => simp [intOf]; omega
        · obtain rfl : t = T := by omega
          go_wp2_with fail
          clear x0
          go_loopw [10] (fun i wq => ∃ k : Nat, k ≤ m ∧ i = .int .i64 (k : Int) ∧ w4.grownBy wq none) (fun i _ => m - (intOf i).toNat)
          case atStart => exact ⟨0, Nat.zero_le _, rfl, HGR.out⟩
          case round =>
            obtain ⟨wk, hwk⟩ : ∃ wk : World, wk = wr := ⟨_, rfl⟩
            subst hwk
            obtain ⟨k, hk, rfl, hq⟩ := hrel
            have HQ := shade hq
            clear hq
            by_cases hkm : k < m
            · have hkI : (k : Int) < (m : Int) := by omega
              go_wp2_with fail
              go_loopw [11, 12] (fun l i wp => ∃ u : Nat, u ≤ t ∧ i = .int .i64 (u : Int) ∧ l = .int .i64 (L k u) ∧ w4.grownBy wp none) (fun _ i _ => t - (intOf i).toNat)
              case atStart => exact ⟨0, Nat.zero_le _, rfl, by rw [HL0.out k], HQ.out⟩
              case round =>
                obtain ⟨u, hu, rfl, rfl, hp⟩ := hrel
                have HP := shade hp
                clear hp
                have xk := (HR2.out.grown HP.out).look hkm
                obtain ⟨Pk, qk, fk, Nk⟩ := (HR2.out.grown HP.out).nums hkm
                rw [fk] at xk
                by_cases hut : u < t
                · obtain ⟨pb, po, rfl, -⟩ := Nk.resolve_left (by omega)
                  have yk := Nk.cell hut
                  have huI : (u : Int) < (t : Int) := by omega
                  have hls := HLS.out k u
                  have hrg := HRR.out k u
                  have hlr := HLR.out k u
                  clear Nk fk
                  rcases hls with ⟨hx0, hl1⟩ | ⟨hx0, hc, hl1⟩
                  · generalize R k u = x at *
                    generalize L k u = y at *
                    have HL1 := shade hl1
                    clear hl1
                    go_wp2_with fail
                    go_roundw
                    case rel => exact ⟨u + 1, by omega, by go_num, by rw [HL1.out], HP.out⟩
                    case measure => simp [intOf]; omega
                  · generalize R k u = x at *
                    generalize L k u = y at *
                    have HL1 := shade hl1
                    clear hl1
                    have h7 : (y = 1 ∧ x = 1) ∨ (y = -1 ∧ x = 0) ∨ (y = 0 ∧ x = 1) ∨ (y = 1 ∧ x = 2) ∨ (y = 2 ∧ x = 3) ∨ (y = 3 ∧ x = 4) := by omega
                    clear hrg hlr hx0 hc
                    rcases h7 with ⟨rfl, rfl⟩ | ⟨rfl, rfl⟩ | ⟨rfl, rfl⟩ | ⟨rfl, rfl⟩ | ⟨rfl, rfl⟩ | ⟨rfl, rfl⟩
                    all_goals
                      go_wp2_with fail
                      go_roundw
                      case rel => exact ⟨u + 1, by omega, by go_num, by rw [HL1.out], HP.out⟩
                      case measure => simp [intOf]; omega
                · obtain rfl : u = t := by omega
                  have hle := HLE.out k hkm
                  rw [hle]
                  clear hle Nk fk
                  go_wp2_with fail
                  go_roundw
                  case rel => exact ⟨k + 1, by omega, by go_num, HP.out⟩
                  case measure => simp [intOf]; omega
            · obtain rfl : k = m := by omega
              have x0 := (HR2.out.grown HQ.out).look hkp
              rw [F0.out] at x0
              go_wp2_with fail
              go_region_held3 (fun w' => w'.cell? ⟨g2, 0, none⟩ = some (.slice P0 t q0)) (first | exact x0 | exact z0)
                (first
                  | (go_at_call 24; refine (HPT.out _ (grown_same HG4.out (grown_same HQ.out (grown_drew1 _))) (grown_same HG1.out (grown_same HG4.out (grown_same HQ.out (grown_drew1 _))))).mono ?_; rintro e w9 ⟨rfl, hg9⟩; have HQ9 := shade (grown_same (grown_same HQ.out (grown_drew1 wk)) hg9); clear hg9; have z0 := (HR2.out.grown HQ9.out).look hkp; rw [F0.out] at z0))
              all_goals (go_wp2_with fail)
              all_goals go_ret
              all_goals (exact ⟨by first | rfl | simp, below_of_grown (grown_same HG1.out (grown_same HG4.out HQ9.out))⟩)
end Go.Proofs.YtlmjbflnfpccdaaDoor
