/- The model's readInstr. -/
import Derived.Test.YtjbbmnmbcdohiaaDoorW315
import Derived.Deep.RegionHeld3
import Derived.Deep.CutBlock
import Derived.Deep.DeepCutAuto
namespace Go.Proofs.YtjbbmnmbcdohiaaDoor
open Go.RowKit
set_option linter.unusedSimpArgs false
set_option linter.unusedVariables false
theorem word_no (p : List UInt8) (h0 : p ≠ [115, 101, 116]) (h1 : p ≠ [97, 100, 100]) (h2 : p ≠ [115, 117, 98]) (h3 : p ≠ [109, 117, 108]) (h4 : p ≠ [108, 116]) (h5 : p ≠ [108, 100]) (h6 : p ≠ [115, 116]) (h7 : p ≠ [98, 122]) (h8 : p ≠ [106, 109, 112]) (h9 : p ≠ [104, 108, 116]) : wordN p < 0 := by
  unfold wordN
  simp only [beq_iff_eq]
  rw [if_neg (fun e => h0 e.symm)]
  rw [if_neg (fun e => h1 e.symm)]
  rw [if_neg (fun e => h2 e.symm)]
  rw [if_neg (fun e => h3 e.symm)]
  rw [if_neg (fun e => h4 e.symm)]
  rw [if_neg (fun e => h5 e.symm)]
  rw [if_neg (fun e => h6 e.symm)]
  rw [if_neg (fun e => h7 e.symm)]
  rw [if_neg (fun e => h8 e.symm)]
  rw [if_neg (fun e => h9 e.symm)]
  omega
/-- What stands behind the switch. -/
structure Read (s p0 : List UInt8) (w W : World) (R : Nat) (d a b k : Int) : Prop where
  rt : RT w W R (tx p0) d a b k
  told : ∃ n : Nat, wordN p0 = n ∧ Agree s (namesN n).data.toList (namesN n).data.toList.length (d, a, b, k)
theorem two_of {α : Type} {l : List α} (h : l.length = 2) : ∃ a b, l = [a, b] := by
  match l, h with
  | [a, b], _ => exact ⟨a, b, rfl⟩
theorem three_of {α : Type} {l : List α} (h : l.length = 3) : ∃ a b c, l = [a, b, c] := by
  match l, h with
  | [a, b, c], _ => exact ⟨a, b, c, rfl⟩
theorem one_of {α : Type} {l : List α} (h : l.length = 1) : ∃ a, l = [a] := by
  match l, h with
  | [a], _ => exact ⟨a, rfl⟩
set_option maxRecDepth 100000 in
set_option maxHeartbeats 16000000 in
theorem readInstr_is (s p0 : List UInt8) (ps : List (List UInt8)) (w : World) (hl : s.length ≤ 1048576) (h : splitC 32 s = p0 :: ps) : Calls Tryd.prog 44 #[.string (tx s)] w (RIw s w) := by
  have HS := shade (fun W => HSP s W hl)
  have HH := shade h
  have HPL := shade (fun (p : List UInt8) (hp : p ∈ p0 :: ps) => piece_le h hp hl)
  clear h
  obtain ⟨N, hN⟩ : ∃ N, ps.length = N := ⟨_, rfl⟩
  have hlen : (p0 :: ps).length = N + 1 := by rw [List.length_cons, hN]
  have HLEN := shade hN
  go_enter Tryd.func44, Tryd.ntmps44
  go_wp2_with fail
  refine (HS.out _).mono ?_
  rintro e w1 ⟨v, rfl, ho, hg⟩
  rw [HH.out] at ho
  obtain ⟨g, cap, rfl, hgl, hc⟩ := row_cells ho (by simp)
  have q0 := hc 0 (by simp)
  simp only [List.getElem_cons_zero] at q0
  have HC := shade (show ∀ (j : Nat) (hj : j < ps.length), w1.cell? ⟨g, j + 1, none⟩ = some (.string (tx ps[j])) from fun j hj => hc (j + 1) (by rw [List.length_cons]; omega))
  have HT := shade (fun op d a b k => RT.start op d a b k hg)
  have ht := tx_toList p0
  rw [hlen]
  clear ho hg hc HS hlen hN
  go_upto_block 0 with (fail)
  go_cut [] (fun wx => ∃ d a b k, Read s p0 w wx w1.heap.size d a b k)
  case first =>
    by_cases h0 : p0 = [115, 101, 116]
    · subst h0
      by_cases hq : N = 2
      · subst hq
        obtain ⟨p1, p2, rfl⟩ := two_of HLEN.out
        have q1 := HC.out 0 (by simp)
        have HR1 := shade (fun W => readReg_is p1 W (HPL.out p1 (by simp)))
        have q2 := HC.out 1 (by simp)
        have HR2 := shade (fun W => readNumber_is p2 W (HPL.out p2 (by simp)))
        simp only [List.getElem_cons_zero, List.getElem_cons_succ] at q1 q2
        go_wp2_with fail
        refine (HR1.out _).mono ?_
        rintro e w2 ⟨v1, rfl, hv1, rfl⟩
        have HV1 := shade hv1
        clear hv1 HR1
        go_wp2_with fail
        refine (HR2.out _).mono ?_
        rintro e w2 ⟨v2, rfl, hv2, rfl⟩
        have HV2 := shade hv2
        clear hv2 HR2
        go_wp2_with fail
        go_meet
        refine ⟨v1, 0, 0, v2, HT.out _ _ _ _ _, 0, by decide, ?_⟩
        have h1' : Agree s (namesN 0).data.toList 1 (v1, 0, 0, 0) := by
          have x := Agree.nextM (n := 0) (j := 0) (ch := 68) (v := v1) (Agree.zero s _) HH.out (by decide) (by simp) (by decide) rfl (fun m hm e => HV1.out m hm (by simpa using e))
          simpa [wD, wA, wB, wK] using x
        have h2' : Agree s (namesN 0).data.toList 2 (v1, 0, 0, v2) := by
          have x := Agree.nextM (n := 0) (j := 1) (ch := 75) (v := v2) h1' HH.out (by decide) (by simp) (by decide) rfl (fun m hm e => HV2.out m hm (by simpa using e))
          simpa [wD, wA, wB, wK] using x
        exact h2'
      · have HNO := shade (no_len (n := 0) HH.out (by decide) (fun e => hq (HLEN.out.symm.trans e)))
        have hn1 : ((N : Int) + 1 == 3) = false := by simp; omega
        have hn2 : ((N : Int) == 2) = false := by simp; omega
        obtain ⟨y0, y1, y2, y3, y4⟩ := (HT.out (tx [115, 101, 116]) 0 0 0 0).res5
        have f0 := (HT.out (tx [115, 101, 116]) 0 0 0 0).res.free 0; have f1 := (HT.out (tx [115, 101, 116]) 0 0 0 0).res.free 1; have f2 := (HT.out (tx [115, 101, 116]) 0 0 0 0).res.free 2; have f3 := (HT.out (tx [115, 101, 116]) 0 0 0 0).res.free 3; have f4 := (HT.out (tx [115, 101, 116]) 0 0 0 0).res.free 4
        go_wp2_with fail
        refine (twoSided_any [115, 101, 116] _).mono ?_
        rintro e w2 ⟨rfl, rfl⟩
        rw [show twoB [115, 101, 116] = false from rfl]
        go_wp2_with fail
        have hP := (HT.out (tx [115, 101, 116]) 0 0 0 0).finBox0 ⟨#[]⟩ 0 0 0 0
        have z0 := hP.look 0; have z1 := hP.look 1; have z2 := hP.look 2; have z3 := hP.look 3; have z4 := hP.look 4
        simp at z0 z1 z2 z3 z4
        refine bodyPost_ret (v := .tuple #[IV ⟨#[]⟩ 0 0 0 0, .bool false]) (by simp [results, Tryd.results44, go_sem, z0, z1, z2, z3, z4]) rfl ?_
        exact ⟨_, _, _, _, _, _, rfl, fun e => (by cases e), fun _ => HNO.out, (HT.out (tx [115, 101, 116]) 0 0 0 0).finLow0 ⟨#[]⟩ 0 0 0 0⟩
    by_cases h1 : p0 = [97, 100, 100]
    · subst h1
      by_cases hq : N = 3
      · subst hq
        obtain ⟨p1, p2, p3, rfl⟩ := three_of HLEN.out
        have q1 := HC.out 0 (by simp)
        have HR1 := shade (fun W => readReg_is p1 W (HPL.out p1 (by simp)))
        have q2 := HC.out 1 (by simp)
        have HR2 := shade (fun W => readReg_is p2 W (HPL.out p2 (by simp)))
        have q3 := HC.out 2 (by simp)
        have HR3 := shade (fun W => readReg_is p3 W (HPL.out p3 (by simp)))
        simp only [List.getElem_cons_zero, List.getElem_cons_succ] at q1 q2 q3
        go_wp2_with fail
        refine (twoSided_any [97, 100, 100] _).mono ?_
        rintro e w2 ⟨rfl, rfl⟩
        rw [show twoB [97, 100, 100] = true from rfl]
        go_wp2_with fail
        refine (HR1.out _).mono ?_
        rintro e w2 ⟨v1, rfl, hv1, rfl⟩
        have HV1 := shade hv1
        clear hv1 HR1
        go_wp2_with fail
        refine (HR2.out _).mono ?_
        rintro e w2 ⟨v2, rfl, hv2, rfl⟩
        have HV2 := shade hv2
        clear hv2 HR2
        go_wp2_with fail
        refine (HR3.out _).mono ?_
        rintro e w2 ⟨v3, rfl, hv3, rfl⟩
        have HV3 := shade hv3
        clear hv3 HR3
        go_wp2_with fail
        go_meet
        refine ⟨v1, v2, v3, 0, HT.out _ _ _ _ _, 1, by decide, ?_⟩
        have h1' : Agree s (namesN 1).data.toList 1 (v1, 0, 0, 0) := by
          have x := Agree.nextM (n := 1) (j := 0) (ch := 68) (v := v1) (Agree.zero s _) HH.out (by decide) (by simp) (by decide) rfl (fun m hm e => HV1.out m hm (by simpa using e))
          simpa [wD, wA, wB, wK] using x
        have h2' : Agree s (namesN 1).data.toList 2 (v1, v2, 0, 0) := by
          have x := Agree.nextM (n := 1) (j := 1) (ch := 65) (v := v2) h1' HH.out (by decide) (by simp) (by decide) rfl (fun m hm e => HV2.out m hm (by simpa using e))
          simpa [wD, wA, wB, wK] using x
        have h3' : Agree s (namesN 1).data.toList 3 (v1, v2, v3, 0) := by
          have x := Agree.nextM (n := 1) (j := 2) (ch := 66) (v := v3) h2' HH.out (by decide) (by simp) (by decide) rfl (fun m hm e => HV3.out m hm (by simpa using e))
          simpa [wD, wA, wB, wK] using x
        exact h3'
      · have HNO := shade (no_len (n := 1) HH.out (by decide) (fun e => hq (HLEN.out.symm.trans e)))
        have hn1 : ((N : Int) + 1 == 4) = false := by simp; omega
        have hn2 : ((N : Int) == 3) = false := by simp; omega
        obtain ⟨y0, y1, y2, y3, y4⟩ := (HT.out (tx [97, 100, 100]) 0 0 0 0).res5
        have f0 := (HT.out (tx [97, 100, 100]) 0 0 0 0).res.free 0; have f1 := (HT.out (tx [97, 100, 100]) 0 0 0 0).res.free 1; have f2 := (HT.out (tx [97, 100, 100]) 0 0 0 0).res.free 2; have f3 := (HT.out (tx [97, 100, 100]) 0 0 0 0).res.free 3; have f4 := (HT.out (tx [97, 100, 100]) 0 0 0 0).res.free 4
        go_wp2_with fail
        refine (twoSided_any [97, 100, 100] _).mono ?_
        rintro e w2 ⟨rfl, rfl⟩
        rw [show twoB [97, 100, 100] = true from rfl]
        go_wp2_with fail
        have hP := (HT.out (tx [97, 100, 100]) 0 0 0 0).finBox0 ⟨#[]⟩ 0 0 0 0
        have z0 := hP.look 0; have z1 := hP.look 1; have z2 := hP.look 2; have z3 := hP.look 3; have z4 := hP.look 4
        simp at z0 z1 z2 z3 z4
        refine bodyPost_ret (v := .tuple #[IV ⟨#[]⟩ 0 0 0 0, .bool false]) (by simp [results, Tryd.results44, go_sem, z0, z1, z2, z3, z4]) rfl ?_
        exact ⟨_, _, _, _, _, _, rfl, fun e => (by cases e), fun _ => HNO.out, (HT.out (tx [97, 100, 100]) 0 0 0 0).finLow0 ⟨#[]⟩ 0 0 0 0⟩
    by_cases h2 : p0 = [115, 117, 98]
    · subst h2
      by_cases hq : N = 3
      · subst hq
        obtain ⟨p1, p2, p3, rfl⟩ := three_of HLEN.out
        have q1 := HC.out 0 (by simp)
        have HR1 := shade (fun W => readReg_is p1 W (HPL.out p1 (by simp)))
        have q2 := HC.out 1 (by simp)
        have HR2 := shade (fun W => readReg_is p2 W (HPL.out p2 (by simp)))
        have q3 := HC.out 2 (by simp)
        have HR3 := shade (fun W => readReg_is p3 W (HPL.out p3 (by simp)))
        simp only [List.getElem_cons_zero, List.getElem_cons_succ] at q1 q2 q3
        go_wp2_with fail
        refine (twoSided_any [115, 117, 98] _).mono ?_
        rintro e w2 ⟨rfl, rfl⟩
        rw [show twoB [115, 117, 98] = true from rfl]
        go_wp2_with fail
        refine (HR1.out _).mono ?_
        rintro e w2 ⟨v1, rfl, hv1, rfl⟩
        have HV1 := shade hv1
        clear hv1 HR1
        go_wp2_with fail
        refine (HR2.out _).mono ?_
        rintro e w2 ⟨v2, rfl, hv2, rfl⟩
        have HV2 := shade hv2
        clear hv2 HR2
        go_wp2_with fail
        refine (HR3.out _).mono ?_
        rintro e w2 ⟨v3, rfl, hv3, rfl⟩
        have HV3 := shade hv3
        clear hv3 HR3
        go_wp2_with fail
        go_meet
        refine ⟨v1, v2, v3, 0, HT.out _ _ _ _ _, 2, by decide, ?_⟩
        have h1' : Agree s (namesN 2).data.toList 1 (v1, 0, 0, 0) := by
          have x := Agree.nextM (n := 2) (j := 0) (ch := 68) (v := v1) (Agree.zero s _) HH.out (by decide) (by simp) (by decide) rfl (fun m hm e => HV1.out m hm (by simpa using e))
          simpa [wD, wA, wB, wK] using x
        have h2' : Agree s (namesN 2).data.toList 2 (v1, v2, 0, 0) := by
          have x := Agree.nextM (n := 2) (j := 1) (ch := 65) (v := v2) h1' HH.out (by decide) (by simp) (by decide) rfl (fun m hm e => HV2.out m hm (by simpa using e))
          simpa [wD, wA, wB, wK] using x
        have h3' : Agree s (namesN 2).data.toList 3 (v1, v2, v3, 0) := by
          have x := Agree.nextM (n := 2) (j := 2) (ch := 66) (v := v3) h2' HH.out (by decide) (by simp) (by decide) rfl (fun m hm e => HV3.out m hm (by simpa using e))
          simpa [wD, wA, wB, wK] using x
        exact h3'
      · have HNO := shade (no_len (n := 2) HH.out (by decide) (fun e => hq (HLEN.out.symm.trans e)))
        have hn1 : ((N : Int) + 1 == 4) = false := by simp; omega
        have hn2 : ((N : Int) == 3) = false := by simp; omega
        obtain ⟨y0, y1, y2, y3, y4⟩ := (HT.out (tx [115, 117, 98]) 0 0 0 0).res5
        have f0 := (HT.out (tx [115, 117, 98]) 0 0 0 0).res.free 0; have f1 := (HT.out (tx [115, 117, 98]) 0 0 0 0).res.free 1; have f2 := (HT.out (tx [115, 117, 98]) 0 0 0 0).res.free 2; have f3 := (HT.out (tx [115, 117, 98]) 0 0 0 0).res.free 3; have f4 := (HT.out (tx [115, 117, 98]) 0 0 0 0).res.free 4
        go_wp2_with fail
        refine (twoSided_any [115, 117, 98] _).mono ?_
        rintro e w2 ⟨rfl, rfl⟩
        rw [show twoB [115, 117, 98] = true from rfl]
        go_wp2_with fail
        have hP := (HT.out (tx [115, 117, 98]) 0 0 0 0).finBox0 ⟨#[]⟩ 0 0 0 0
        have z0 := hP.look 0; have z1 := hP.look 1; have z2 := hP.look 2; have z3 := hP.look 3; have z4 := hP.look 4
        simp at z0 z1 z2 z3 z4
        refine bodyPost_ret (v := .tuple #[IV ⟨#[]⟩ 0 0 0 0, .bool false]) (by simp [results, Tryd.results44, go_sem, z0, z1, z2, z3, z4]) rfl ?_
        exact ⟨_, _, _, _, _, _, rfl, fun e => (by cases e), fun _ => HNO.out, (HT.out (tx [115, 117, 98]) 0 0 0 0).finLow0 ⟨#[]⟩ 0 0 0 0⟩
    by_cases h3 : p0 = [109, 117, 108]
    · subst h3
      by_cases hq : N = 3
      · subst hq
        obtain ⟨p1, p2, p3, rfl⟩ := three_of HLEN.out
        have q1 := HC.out 0 (by simp)
        have HR1 := shade (fun W => readReg_is p1 W (HPL.out p1 (by simp)))
        have q2 := HC.out 1 (by simp)
        have HR2 := shade (fun W => readReg_is p2 W (HPL.out p2 (by simp)))
        have q3 := HC.out 2 (by simp)
        have HR3 := shade (fun W => readReg_is p3 W (HPL.out p3 (by simp)))
        simp only [List.getElem_cons_zero, List.getElem_cons_succ] at q1 q2 q3
        go_wp2_with fail
        refine (twoSided_any [109, 117, 108] _).mono ?_
        rintro e w2 ⟨rfl, rfl⟩
        rw [show twoB [109, 117, 108] = true from rfl]
        go_wp2_with fail
        refine (HR1.out _).mono ?_
        rintro e w2 ⟨v1, rfl, hv1, rfl⟩
        have HV1 := shade hv1
        clear hv1 HR1
        go_wp2_with fail
        refine (HR2.out _).mono ?_
        rintro e w2 ⟨v2, rfl, hv2, rfl⟩
        have HV2 := shade hv2
        clear hv2 HR2
        go_wp2_with fail
        refine (HR3.out _).mono ?_
        rintro e w2 ⟨v3, rfl, hv3, rfl⟩
        have HV3 := shade hv3
        clear hv3 HR3
        go_wp2_with fail
        go_meet
        refine ⟨v1, v2, v3, 0, HT.out _ _ _ _ _, 3, by decide, ?_⟩
        have h1' : Agree s (namesN 3).data.toList 1 (v1, 0, 0, 0) := by
          have x := Agree.nextM (n := 3) (j := 0) (ch := 68) (v := v1) (Agree.zero s _) HH.out (by decide) (by simp) (by decide) rfl (fun m hm e => HV1.out m hm (by simpa using e))
          simpa [wD, wA, wB, wK] using x
        have h2' : Agree s (namesN 3).data.toList 2 (v1, v2, 0, 0) := by
          have x := Agree.nextM (n := 3) (j := 1) (ch := 65) (v := v2) h1' HH.out (by decide) (by simp) (by decide) rfl (fun m hm e => HV2.out m hm (by simpa using e))
          simpa [wD, wA, wB, wK] using x
        have h3' : Agree s (namesN 3).data.toList 3 (v1, v2, v3, 0) := by
          have x := Agree.nextM (n := 3) (j := 2) (ch := 66) (v := v3) h2' HH.out (by decide) (by simp) (by decide) rfl (fun m hm e => HV3.out m hm (by simpa using e))
          simpa [wD, wA, wB, wK] using x
        exact h3'
      · have HNO := shade (no_len (n := 3) HH.out (by decide) (fun e => hq (HLEN.out.symm.trans e)))
        have hn1 : ((N : Int) + 1 == 4) = false := by simp; omega
        have hn2 : ((N : Int) == 3) = false := by simp; omega
        obtain ⟨y0, y1, y2, y3, y4⟩ := (HT.out (tx [109, 117, 108]) 0 0 0 0).res5
        have f0 := (HT.out (tx [109, 117, 108]) 0 0 0 0).res.free 0; have f1 := (HT.out (tx [109, 117, 108]) 0 0 0 0).res.free 1; have f2 := (HT.out (tx [109, 117, 108]) 0 0 0 0).res.free 2; have f3 := (HT.out (tx [109, 117, 108]) 0 0 0 0).res.free 3; have f4 := (HT.out (tx [109, 117, 108]) 0 0 0 0).res.free 4
        go_wp2_with fail
        refine (twoSided_any [109, 117, 108] _).mono ?_
        rintro e w2 ⟨rfl, rfl⟩
        rw [show twoB [109, 117, 108] = true from rfl]
        go_wp2_with fail
        have hP := (HT.out (tx [109, 117, 108]) 0 0 0 0).finBox0 ⟨#[]⟩ 0 0 0 0
        have z0 := hP.look 0; have z1 := hP.look 1; have z2 := hP.look 2; have z3 := hP.look 3; have z4 := hP.look 4
        simp at z0 z1 z2 z3 z4
        refine bodyPost_ret (v := .tuple #[IV ⟨#[]⟩ 0 0 0 0, .bool false]) (by simp [results, Tryd.results44, go_sem, z0, z1, z2, z3, z4]) rfl ?_
        exact ⟨_, _, _, _, _, _, rfl, fun e => (by cases e), fun _ => HNO.out, (HT.out (tx [109, 117, 108]) 0 0 0 0).finLow0 ⟨#[]⟩ 0 0 0 0⟩
    by_cases h4 : p0 = [108, 116]
    · subst h4
      by_cases hq : N = 3
      · subst hq
        obtain ⟨p1, p2, p3, rfl⟩ := three_of HLEN.out
        have q1 := HC.out 0 (by simp)
        have HR1 := shade (fun W => readReg_is p1 W (HPL.out p1 (by simp)))
        have q2 := HC.out 1 (by simp)
        have HR2 := shade (fun W => readReg_is p2 W (HPL.out p2 (by simp)))
        have q3 := HC.out 2 (by simp)
        have HR3 := shade (fun W => readReg_is p3 W (HPL.out p3 (by simp)))
        simp only [List.getElem_cons_zero, List.getElem_cons_succ] at q1 q2 q3
        go_wp2_with fail
        refine (twoSided_any [108, 116] _).mono ?_
        rintro e w2 ⟨rfl, rfl⟩
        rw [show twoB [108, 116] = true from rfl]
        go_wp2_with fail
        refine (HR1.out _).mono ?_
        rintro e w2 ⟨v1, rfl, hv1, rfl⟩
        have HV1 := shade hv1
        clear hv1 HR1
        go_wp2_with fail
        refine (HR2.out _).mono ?_
        rintro e w2 ⟨v2, rfl, hv2, rfl⟩
        have HV2 := shade hv2
        clear hv2 HR2
        go_wp2_with fail
        refine (HR3.out _).mono ?_
        rintro e w2 ⟨v3, rfl, hv3, rfl⟩
        have HV3 := shade hv3
        clear hv3 HR3
        go_wp2_with fail
        go_meet
        refine ⟨v1, v2, v3, 0, HT.out _ _ _ _ _, 4, by decide, ?_⟩
        have h1' : Agree s (namesN 4).data.toList 1 (v1, 0, 0, 0) := by
          have x := Agree.nextM (n := 4) (j := 0) (ch := 68) (v := v1) (Agree.zero s _) HH.out (by decide) (by simp) (by decide) rfl (fun m hm e => HV1.out m hm (by simpa using e))
          simpa [wD, wA, wB, wK] using x
        have h2' : Agree s (namesN 4).data.toList 2 (v1, v2, 0, 0) := by
          have x := Agree.nextM (n := 4) (j := 1) (ch := 65) (v := v2) h1' HH.out (by decide) (by simp) (by decide) rfl (fun m hm e => HV2.out m hm (by simpa using e))
          simpa [wD, wA, wB, wK] using x
        have h3' : Agree s (namesN 4).data.toList 3 (v1, v2, v3, 0) := by
          have x := Agree.nextM (n := 4) (j := 2) (ch := 66) (v := v3) h2' HH.out (by decide) (by simp) (by decide) rfl (fun m hm e => HV3.out m hm (by simpa using e))
          simpa [wD, wA, wB, wK] using x
        exact h3'
      · have HNO := shade (no_len (n := 4) HH.out (by decide) (fun e => hq (HLEN.out.symm.trans e)))
        have hn1 : ((N : Int) + 1 == 4) = false := by simp; omega
        have hn2 : ((N : Int) == 3) = false := by simp; omega
        obtain ⟨y0, y1, y2, y3, y4⟩ := (HT.out (tx [108, 116]) 0 0 0 0).res5
        have f0 := (HT.out (tx [108, 116]) 0 0 0 0).res.free 0; have f1 := (HT.out (tx [108, 116]) 0 0 0 0).res.free 1; have f2 := (HT.out (tx [108, 116]) 0 0 0 0).res.free 2; have f3 := (HT.out (tx [108, 116]) 0 0 0 0).res.free 3; have f4 := (HT.out (tx [108, 116]) 0 0 0 0).res.free 4
        go_wp2_with fail
        refine (twoSided_any [108, 116] _).mono ?_
        rintro e w2 ⟨rfl, rfl⟩
        rw [show twoB [108, 116] = true from rfl]
        go_wp2_with fail
        have hP := (HT.out (tx [108, 116]) 0 0 0 0).finBox0 ⟨#[]⟩ 0 0 0 0
        have z0 := hP.look 0; have z1 := hP.look 1; have z2 := hP.look 2; have z3 := hP.look 3; have z4 := hP.look 4
        simp at z0 z1 z2 z3 z4
        refine bodyPost_ret (v := .tuple #[IV ⟨#[]⟩ 0 0 0 0, .bool false]) (by simp [results, Tryd.results44, go_sem, z0, z1, z2, z3, z4]) rfl ?_
        exact ⟨_, _, _, _, _, _, rfl, fun e => (by cases e), fun _ => HNO.out, (HT.out (tx [108, 116]) 0 0 0 0).finLow0 ⟨#[]⟩ 0 0 0 0⟩
    by_cases h5 : p0 = [108, 100]
    · subst h5
      by_cases hq : N = 3
      · subst hq
        obtain ⟨p1, p2, p3, rfl⟩ := three_of HLEN.out
        have q1 := HC.out 0 (by simp)
        have HR1 := shade (fun W => readReg_is p1 W (HPL.out p1 (by simp)))
        have q2 := HC.out 1 (by simp)
        have HR2 := shade (fun W => readReg_is p2 W (HPL.out p2 (by simp)))
        have q3 := HC.out 2 (by simp)
        have HR3 := shade (fun W => readNumber_is p3 W (HPL.out p3 (by simp)))
        simp only [List.getElem_cons_zero, List.getElem_cons_succ] at q1 q2 q3
        go_wp2_with fail
        refine (twoSided_any [108, 100] _).mono ?_
        rintro e w2 ⟨rfl, rfl⟩
        rw [show twoB [108, 100] = false from rfl]
        go_wp2_with fail
        refine (HR1.out _).mono ?_
        rintro e w2 ⟨v1, rfl, hv1, rfl⟩
        have HV1 := shade hv1
        clear hv1 HR1
        go_wp2_with fail
        refine (HR2.out _).mono ?_
        rintro e w2 ⟨v2, rfl, hv2, rfl⟩
        have HV2 := shade hv2
        clear hv2 HR2
        go_wp2_with fail
        refine (HR3.out _).mono ?_
        rintro e w2 ⟨v3, rfl, hv3, rfl⟩
        have HV3 := shade hv3
        clear hv3 HR3
        go_wp2_with fail
        go_meet
        refine ⟨v1, v2, 0, v3, HT.out _ _ _ _ _, 5, by decide, ?_⟩
        have h1' : Agree s (namesN 5).data.toList 1 (v1, 0, 0, 0) := by
          have x := Agree.nextM (n := 5) (j := 0) (ch := 68) (v := v1) (Agree.zero s _) HH.out (by decide) (by simp) (by decide) rfl (fun m hm e => HV1.out m hm (by simpa using e))
          simpa [wD, wA, wB, wK] using x
        have h2' : Agree s (namesN 5).data.toList 2 (v1, v2, 0, 0) := by
          have x := Agree.nextM (n := 5) (j := 1) (ch := 65) (v := v2) h1' HH.out (by decide) (by simp) (by decide) rfl (fun m hm e => HV2.out m hm (by simpa using e))
          simpa [wD, wA, wB, wK] using x
        have h3' : Agree s (namesN 5).data.toList 3 (v1, v2, 0, v3) := by
          have x := Agree.nextM (n := 5) (j := 2) (ch := 75) (v := v3) h2' HH.out (by decide) (by simp) (by decide) rfl (fun m hm e => HV3.out m hm (by simpa using e))
          simpa [wD, wA, wB, wK] using x
        exact h3'
      · have HNO := shade (no_len (n := 5) HH.out (by decide) (fun e => hq (HLEN.out.symm.trans e)))
        have hn1 : ((N : Int) + 1 == 4) = false := by simp; omega
        have hn2 : ((N : Int) == 3) = false := by simp; omega
        obtain ⟨y0, y1, y2, y3, y4⟩ := (HT.out (tx [108, 100]) 0 0 0 0).res5
        have f0 := (HT.out (tx [108, 100]) 0 0 0 0).res.free 0; have f1 := (HT.out (tx [108, 100]) 0 0 0 0).res.free 1; have f2 := (HT.out (tx [108, 100]) 0 0 0 0).res.free 2; have f3 := (HT.out (tx [108, 100]) 0 0 0 0).res.free 3; have f4 := (HT.out (tx [108, 100]) 0 0 0 0).res.free 4
        go_wp2_with fail
        refine (twoSided_any [108, 100] _).mono ?_
        rintro e w2 ⟨rfl, rfl⟩
        rw [show twoB [108, 100] = false from rfl]
        go_wp2_with fail
        have hP := (HT.out (tx [108, 100]) 0 0 0 0).finBox0 ⟨#[]⟩ 0 0 0 0
        have z0 := hP.look 0; have z1 := hP.look 1; have z2 := hP.look 2; have z3 := hP.look 3; have z4 := hP.look 4
        simp at z0 z1 z2 z3 z4
        refine bodyPost_ret (v := .tuple #[IV ⟨#[]⟩ 0 0 0 0, .bool false]) (by simp [results, Tryd.results44, go_sem, z0, z1, z2, z3, z4]) rfl ?_
        exact ⟨_, _, _, _, _, _, rfl, fun e => (by cases e), fun _ => HNO.out, (HT.out (tx [108, 100]) 0 0 0 0).finLow0 ⟨#[]⟩ 0 0 0 0⟩
    by_cases h6 : p0 = [115, 116]
    · subst h6
      by_cases hq : N = 3
      · subst hq
        obtain ⟨p1, p2, p3, rfl⟩ := three_of HLEN.out
        have q1 := HC.out 0 (by simp)
        have HR1 := shade (fun W => readReg_is p1 W (HPL.out p1 (by simp)))
        have q2 := HC.out 1 (by simp)
        have HR2 := shade (fun W => readReg_is p2 W (HPL.out p2 (by simp)))
        have q3 := HC.out 2 (by simp)
        have HR3 := shade (fun W => readNumber_is p3 W (HPL.out p3 (by simp)))
        simp only [List.getElem_cons_zero, List.getElem_cons_succ] at q1 q2 q3
        go_wp2_with fail
        refine (twoSided_any [115, 116] _).mono ?_
        rintro e w2 ⟨rfl, rfl⟩
        rw [show twoB [115, 116] = false from rfl]
        go_wp2_with fail
        refine (HR1.out _).mono ?_
        rintro e w2 ⟨v1, rfl, hv1, rfl⟩
        have HV1 := shade hv1
        clear hv1 HR1
        go_wp2_with fail
        refine (HR2.out _).mono ?_
        rintro e w2 ⟨v2, rfl, hv2, rfl⟩
        have HV2 := shade hv2
        clear hv2 HR2
        go_wp2_with fail
        refine (HR3.out _).mono ?_
        rintro e w2 ⟨v3, rfl, hv3, rfl⟩
        have HV3 := shade hv3
        clear hv3 HR3
        go_wp2_with fail
        go_meet
        refine ⟨v1, v2, 0, v3, HT.out _ _ _ _ _, 6, by decide, ?_⟩
        have h1' : Agree s (namesN 6).data.toList 1 (v1, 0, 0, 0) := by
          have x := Agree.nextM (n := 6) (j := 0) (ch := 68) (v := v1) (Agree.zero s _) HH.out (by decide) (by simp) (by decide) rfl (fun m hm e => HV1.out m hm (by simpa using e))
          simpa [wD, wA, wB, wK] using x
        have h2' : Agree s (namesN 6).data.toList 2 (v1, v2, 0, 0) := by
          have x := Agree.nextM (n := 6) (j := 1) (ch := 65) (v := v2) h1' HH.out (by decide) (by simp) (by decide) rfl (fun m hm e => HV2.out m hm (by simpa using e))
          simpa [wD, wA, wB, wK] using x
        have h3' : Agree s (namesN 6).data.toList 3 (v1, v2, 0, v3) := by
          have x := Agree.nextM (n := 6) (j := 2) (ch := 75) (v := v3) h2' HH.out (by decide) (by simp) (by decide) rfl (fun m hm e => HV3.out m hm (by simpa using e))
          simpa [wD, wA, wB, wK] using x
        exact h3'
      · have HNO := shade (no_len (n := 6) HH.out (by decide) (fun e => hq (HLEN.out.symm.trans e)))
        have hn1 : ((N : Int) + 1 == 4) = false := by simp; omega
        have hn2 : ((N : Int) == 3) = false := by simp; omega
        obtain ⟨y0, y1, y2, y3, y4⟩ := (HT.out (tx [115, 116]) 0 0 0 0).res5
        have f0 := (HT.out (tx [115, 116]) 0 0 0 0).res.free 0; have f1 := (HT.out (tx [115, 116]) 0 0 0 0).res.free 1; have f2 := (HT.out (tx [115, 116]) 0 0 0 0).res.free 2; have f3 := (HT.out (tx [115, 116]) 0 0 0 0).res.free 3; have f4 := (HT.out (tx [115, 116]) 0 0 0 0).res.free 4
        go_wp2_with fail
        refine (twoSided_any [115, 116] _).mono ?_
        rintro e w2 ⟨rfl, rfl⟩
        rw [show twoB [115, 116] = false from rfl]
        go_wp2_with fail
        have hP := (HT.out (tx [115, 116]) 0 0 0 0).finBox0 ⟨#[]⟩ 0 0 0 0
        have z0 := hP.look 0; have z1 := hP.look 1; have z2 := hP.look 2; have z3 := hP.look 3; have z4 := hP.look 4
        simp at z0 z1 z2 z3 z4
        refine bodyPost_ret (v := .tuple #[IV ⟨#[]⟩ 0 0 0 0, .bool false]) (by simp [results, Tryd.results44, go_sem, z0, z1, z2, z3, z4]) rfl ?_
        exact ⟨_, _, _, _, _, _, rfl, fun e => (by cases e), fun _ => HNO.out, (HT.out (tx [115, 116]) 0 0 0 0).finLow0 ⟨#[]⟩ 0 0 0 0⟩
    by_cases h7 : p0 = [98, 122]
    · subst h7
      by_cases hq : N = 2
      · subst hq
        obtain ⟨p1, p2, rfl⟩ := two_of HLEN.out
        have q1 := HC.out 0 (by simp)
        have HR1 := shade (fun W => readReg_is p1 W (HPL.out p1 (by simp)))
        have q2 := HC.out 1 (by simp)
        have HR2 := shade (fun W => readNumber_is p2 W (HPL.out p2 (by simp)))
        simp only [List.getElem_cons_zero, List.getElem_cons_succ] at q1 q2
        go_wp2_with fail
        refine (twoSided_any [98, 122] _).mono ?_
        rintro e w2 ⟨rfl, rfl⟩
        rw [show twoB [98, 122] = false from rfl]
        go_wp2_with fail
        refine (HR1.out _).mono ?_
        rintro e w2 ⟨v1, rfl, hv1, rfl⟩
        have HV1 := shade hv1
        clear hv1 HR1
        go_wp2_with fail
        refine (HR2.out _).mono ?_
        rintro e w2 ⟨v2, rfl, hv2, rfl⟩
        have HV2 := shade hv2
        clear hv2 HR2
        go_wp2_with fail
        go_meet
        refine ⟨0, v1, 0, v2, HT.out _ _ _ _ _, 7, by decide, ?_⟩
        have h1' : Agree s (namesN 7).data.toList 1 (0, v1, 0, 0) := by
          have x := Agree.nextM (n := 7) (j := 0) (ch := 65) (v := v1) (Agree.zero s _) HH.out (by decide) (by simp) (by decide) rfl (fun m hm e => HV1.out m hm (by simpa using e))
          simpa [wD, wA, wB, wK] using x
        have h2' : Agree s (namesN 7).data.toList 2 (0, v1, 0, v2) := by
          have x := Agree.nextM (n := 7) (j := 1) (ch := 75) (v := v2) h1' HH.out (by decide) (by simp) (by decide) rfl (fun m hm e => HV2.out m hm (by simpa using e))
          simpa [wD, wA, wB, wK] using x
        exact h2'
      · have HNO := shade (no_len (n := 7) HH.out (by decide) (fun e => hq (HLEN.out.symm.trans e)))
        have hn1 : ((N : Int) + 1 == 3) = false := by simp; omega
        have hn2 : ((N : Int) == 2) = false := by simp; omega
        obtain ⟨y0, y1, y2, y3, y4⟩ := (HT.out (tx [98, 122]) 0 0 0 0).res5
        have f0 := (HT.out (tx [98, 122]) 0 0 0 0).res.free 0; have f1 := (HT.out (tx [98, 122]) 0 0 0 0).res.free 1; have f2 := (HT.out (tx [98, 122]) 0 0 0 0).res.free 2; have f3 := (HT.out (tx [98, 122]) 0 0 0 0).res.free 3; have f4 := (HT.out (tx [98, 122]) 0 0 0 0).res.free 4
        go_wp2_with fail
        refine (twoSided_any [98, 122] _).mono ?_
        rintro e w2 ⟨rfl, rfl⟩
        rw [show twoB [98, 122] = false from rfl]
        go_wp2_with fail
        have hP := (HT.out (tx [98, 122]) 0 0 0 0).finBox0 ⟨#[]⟩ 0 0 0 0
        have z0 := hP.look 0; have z1 := hP.look 1; have z2 := hP.look 2; have z3 := hP.look 3; have z4 := hP.look 4
        simp at z0 z1 z2 z3 z4
        refine bodyPost_ret (v := .tuple #[IV ⟨#[]⟩ 0 0 0 0, .bool false]) (by simp [results, Tryd.results44, go_sem, z0, z1, z2, z3, z4]) rfl ?_
        exact ⟨_, _, _, _, _, _, rfl, fun e => (by cases e), fun _ => HNO.out, (HT.out (tx [98, 122]) 0 0 0 0).finLow0 ⟨#[]⟩ 0 0 0 0⟩
    by_cases h8 : p0 = [106, 109, 112]
    · subst h8
      by_cases hq : N = 1
      · subst hq
        obtain ⟨p1, rfl⟩ := one_of HLEN.out
        have q1 := HC.out 0 (by simp)
        have HR1 := shade (fun W => readNumber_is p1 W (HPL.out p1 (by simp)))
        simp only [List.getElem_cons_zero, List.getElem_cons_succ] at q1
        go_wp2_with fail
        refine (twoSided_any [106, 109, 112] _).mono ?_
        rintro e w2 ⟨rfl, rfl⟩
        rw [show twoB [106, 109, 112] = false from rfl]
        go_wp2_with fail
        refine (HR1.out _).mono ?_
        rintro e w2 ⟨v1, rfl, hv1, rfl⟩
        have HV1 := shade hv1
        clear hv1 HR1
        go_wp2_with fail
        go_meet
        refine ⟨0, 0, 0, v1, HT.out _ _ _ _ _, 8, by decide, ?_⟩
        have h1' : Agree s (namesN 8).data.toList 1 (0, 0, 0, v1) := by
          have x := Agree.nextM (n := 8) (j := 0) (ch := 75) (v := v1) (Agree.zero s _) HH.out (by decide) (by simp) (by decide) rfl (fun m hm e => HV1.out m hm (by simpa using e))
          simpa [wD, wA, wB, wK] using x
        exact h1'
      · have HNO := shade (no_len (n := 8) HH.out (by decide) (fun e => hq (HLEN.out.symm.trans e)))
        have hn1 : ((N : Int) + 1 == 2) = false := by simp; omega
        have hn2 : ((N : Int) == 1) = false := by simp; omega
        obtain ⟨y0, y1, y2, y3, y4⟩ := (HT.out (tx [106, 109, 112]) 0 0 0 0).res5
        have f0 := (HT.out (tx [106, 109, 112]) 0 0 0 0).res.free 0; have f1 := (HT.out (tx [106, 109, 112]) 0 0 0 0).res.free 1; have f2 := (HT.out (tx [106, 109, 112]) 0 0 0 0).res.free 2; have f3 := (HT.out (tx [106, 109, 112]) 0 0 0 0).res.free 3; have f4 := (HT.out (tx [106, 109, 112]) 0 0 0 0).res.free 4
        go_wp2_with fail
        refine (twoSided_any [106, 109, 112] _).mono ?_
        rintro e w2 ⟨rfl, rfl⟩
        rw [show twoB [106, 109, 112] = false from rfl]
        go_wp2_with fail
        have hP := (HT.out (tx [106, 109, 112]) 0 0 0 0).finBox0 ⟨#[]⟩ 0 0 0 0
        have z0 := hP.look 0; have z1 := hP.look 1; have z2 := hP.look 2; have z3 := hP.look 3; have z4 := hP.look 4
        simp at z0 z1 z2 z3 z4
        refine bodyPost_ret (v := .tuple #[IV ⟨#[]⟩ 0 0 0 0, .bool false]) (by simp [results, Tryd.results44, go_sem, z0, z1, z2, z3, z4]) rfl ?_
        exact ⟨_, _, _, _, _, _, rfl, fun e => (by cases e), fun _ => HNO.out, (HT.out (tx [106, 109, 112]) 0 0 0 0).finLow0 ⟨#[]⟩ 0 0 0 0⟩
    by_cases h9 : p0 = [104, 108, 116]
    · subst h9
      by_cases hq : N = 0
      · subst hq
        obtain rfl := List.length_eq_zero_iff.1 HLEN.out
        obtain ⟨y0, y1, y2, y3, y4⟩ := (HT.out (tx [104, 108, 116]) 0 0 0 0).res5
        have f0 := (HT.out (tx [104, 108, 116]) 0 0 0 0).res.free 0; have f1 := (HT.out (tx [104, 108, 116]) 0 0 0 0).res.free 1; have f2 := (HT.out (tx [104, 108, 116]) 0 0 0 0).res.free 2; have f3 := (HT.out (tx [104, 108, 116]) 0 0 0 0).res.free 3; have f4 := (HT.out (tx [104, 108, 116]) 0 0 0 0).res.free 4
        go_wp2_with fail
        refine (twoSided_any [104, 108, 116] _).mono ?_
        rintro e w2 ⟨rfl, rfl⟩
        rw [show twoB [104, 108, 116] = false from rfl]
        go_wp2_with fail
        have hP := (HT.out (tx [104, 108, 116]) 0 0 0 0).finBox
        have z0 := hP.look 0; have z1 := hP.look 1; have z2 := hP.look 2; have z3 := hP.look 3; have z4 := hP.look 4
        simp at z0 z1 z2 z3 z4
        refine bodyPost_ret (v := .tuple #[IV (tx [104, 108, 116]) 0 0 0 0, .bool true]) (by simp [results, Tryd.results44, go_sem, z0, z1, z2, z3, z4]) rfl ?_
        exact ⟨_, _, _, _, _, _, rfl, fun _ => hlt_shown HH.out, fun e => (by cases e), (HT.out (tx [104, 108, 116]) 0 0 0 0).finLow⟩
      · have HNO := shade (no_len (n := 9) HH.out (by decide) (fun e => hq (HLEN.out.symm.trans e)))
        have hn1 : ((N : Int) + 1 == 1) = false := by simp; omega
        have hn2 : ((N : Int) == 0) = false := by simp; omega
        obtain ⟨y0, y1, y2, y3, y4⟩ := (HT.out (tx [104, 108, 116]) 0 0 0 0).res5
        have f0 := (HT.out (tx [104, 108, 116]) 0 0 0 0).res.free 0; have f1 := (HT.out (tx [104, 108, 116]) 0 0 0 0).res.free 1; have f2 := (HT.out (tx [104, 108, 116]) 0 0 0 0).res.free 2; have f3 := (HT.out (tx [104, 108, 116]) 0 0 0 0).res.free 3; have f4 := (HT.out (tx [104, 108, 116]) 0 0 0 0).res.free 4
        go_wp2_with fail
        refine (twoSided_any [104, 108, 116] _).mono ?_
        rintro e w2 ⟨rfl, rfl⟩
        rw [show twoB [104, 108, 116] = false from rfl]
        go_wp2_with fail
        have hP := (HT.out (tx [104, 108, 116]) 0 0 0 0).finBox0 ⟨#[]⟩ 0 0 0 0
        have z0 := hP.look 0; have z1 := hP.look 1; have z2 := hP.look 2; have z3 := hP.look 3; have z4 := hP.look 4
        simp at z0 z1 z2 z3 z4
        refine bodyPost_ret (v := .tuple #[IV ⟨#[]⟩ 0 0 0 0, .bool false]) (by simp [results, Tryd.results44, go_sem, z0, z1, z2, z3, z4]) rfl ?_
        exact ⟨_, _, _, _, _, _, rfl, fun e => (by cases e), fun _ => HNO.out, (HT.out (tx [104, 108, 116]) 0 0 0 0).finLow0 ⟨#[]⟩ 0 0 0 0⟩
    have HNO := shade (no_word HH.out (word_no p0 h0 h1 h2 h3 h4 h5 h6 h7 h8 h9))
    have htw : twoB p0 = false := by simp [twoB, h1, h2, h3, h4]
    have e0 : (p0 == [115, 101, 116]) = false := by simpa using h0
    have e1 : (p0 == [97, 100, 100]) = false := by simpa using h1
    have e2 : (p0 == [115, 117, 98]) = false := by simpa using h2
    have e3 : (p0 == [109, 117, 108]) = false := by simpa using h3
    have e4 : (p0 == [108, 116]) = false := by simpa using h4
    have e5 : (p0 == [108, 100]) = false := by simpa using h5
    have e6 : (p0 == [115, 116]) = false := by simpa using h6
    have e7 : (p0 == [98, 122]) = false := by simpa using h7
    have e8 : (p0 == [106, 109, 112]) = false := by simpa using h8
    have e9 : (p0 == [104, 108, 116]) = false := by simpa using h9
    clear h0 h1 h2 h3 h4 h5 h6 h7 h8 h9
    obtain ⟨y0, y1, y2, y3, y4⟩ := (HT.out (tx p0) 0 0 0 0).res5
    have f0 := (HT.out (tx p0) 0 0 0 0).res.free 0; have f1 := (HT.out (tx p0) 0 0 0 0).res.free 1; have f2 := (HT.out (tx p0) 0 0 0 0).res.free 2; have f3 := (HT.out (tx p0) 0 0 0 0).res.free 3; have f4 := (HT.out (tx p0) 0 0 0 0).res.free 4
    go_wp2_with fail
    refine (twoSided_any p0 _).mono ?_
    rintro e w2 ⟨rfl, rfl⟩
    rw [htw]
    go_wp2_with fail
    have hP := (HT.out (tx p0) 0 0 0 0).finBox0 ⟨#[]⟩ 0 0 0 0
    have z0 := hP.look 0; have z1 := hP.look 1; have z2 := hP.look 2; have z3 := hP.look 3; have z4 := hP.look 4
    simp at z0 z1 z2 z3 z4
    refine bodyPost_ret (v := .tuple #[IV ⟨#[]⟩ 0 0 0 0, .bool false]) (by simp [results, Tryd.results44, go_sem, z0, z1, z2, z3, z4]) rfl ?_
    exact ⟨_, _, _, _, _, _, rfl, fun e => (by cases e), fun _ => HNO.out, (HT.out (tx p0) 0 0 0 0).finLow0 ⟨#[]⟩ 0 0 0 0⟩
  case rest =>
    obtain ⟨d, a, b, k, hcut⟩ := hcut
    obtain ⟨n, hn, hA⟩ := hcut.told
    have HNO := shade (fun hne => Agree.no (op0 := p0) hA HH.out hn rfl hne)
    have HB := shade (hcut.rt.on (grown_drew1 _))
    have HVA := shade (fun W => validInstr_any (tx p0) d a b k W)
    go_wp2_with fail
    obtain ⟨R, hR⟩ : ∃ R, w1.heap.size = R := ⟨_, rfl⟩
    rw [hR] at HB ⊢
    have hz : w.heap.size < R := HB.out.ne
    clear hA hR q0 hgl HT hcut HPL HC HLEN ht hn
    rcases hv : vB (tx p0).toList d a b k with _ | _
    · rw [hv] at HVA
      have hX := hv
      rw [tx_toList] at hX
      have HX := shade hX
      clear hv hX
      refine wp_region_held_drew (S := (fun w' => w'.cell? ⟨R, 0, none⟩ = some (.string (tx p0)) ∧ w'.cell? ⟨R, 1, none⟩ = some (.int .i64 d) ∧ w'.cell? ⟨R, 2, none⟩ = some (.int .i64 a) ∧ w'.cell? ⟨R, 3, none⟩ = some (.int .i64 b) ∧ w'.cell? ⟨R, 4, none⟩ = some (.int .i64 k))) (by kernel_rfl) HB.out.box5 (fun hHeld => ?_)
      refine wpAnyH_take (i := 0) (v := ?v0) rfl (by kernel_rfl) (by kernel_rfl) (by kernel_rfl) (fun _ _ _ h => h) (Or.inl ⟨rfl, ?hy0⟩) hHeld ?rest0
      case hy0 =>
        intro w5 hSw
        try dsimp only at hSw
        go_simp
        try with_reducible rfl
      try simp only [Act.put, List.setIfInBounds_toArray, List.set_cons_zero, List.set_cons_succ]
      refine wpAnyH_take (i := 1) (v := ?v1) rfl (by kernel_rfl) (by kernel_rfl) (by kernel_rfl) (fun _ _ _ h => h) (Or.inl ⟨rfl, ?hy1⟩) hHeld ?rest1
      case hy1 =>
        intro w5 hSw
        try dsimp only at hSw
        go_simp
        try with_reducible rfl
      try simp only [Act.put, List.setIfInBounds_toArray, List.set_cons_zero, List.set_cons_succ]
      refine wpAnyH_ready (rs := [2]) (by kernel_rfl) (by simp) ?_
      refine AllReadyH.cons rfl (fun K5 hK5 => ?_) AllReadyH.nil
      go_simp
      go_at_call 35; refine (HVA.out _).mono ?_; rintro e w3 ⟨rfl, o, hw3⟩; have HF := shade (HB.out.on (show wc.drew.grownBy w3 none from by rw [← hw3]; exact World.grownBy_alloc _ _ _)); clear hw3; obtain ⟨y0, y1, y2, y3, y4⟩ := HF.out.res5; have f0 := HF.out.res.free 0; have f1 := HF.out.res.free 1; have f2 := HF.out.res.free 2; have f3 := HF.out.res.free 3; have f4 := HF.out.res.free 4
      clear hHeld
      refine hK5.out _ _ HF.out.box5 (fun hHeld => ?_)
      clear hK5 K5
      try simp only [Act.put, List.setIfInBounds_toArray, List.set_cons_zero, List.set_cons_succ]
      refine wpAnyH_take (i := 3) (v := ?v3) rfl (by kernel_rfl) (by kernel_rfl) (by kernel_rfl) (fun _ _ _ h => h) (Or.inl ⟨rfl, ?hy3⟩) hHeld ?rest3
      case hy3 =>
        intro w5 hSw
        try dsimp only at hSw
        go_simp
        try with_reducible rfl
      try simp only [Act.put, List.setIfInBounds_toArray, List.set_cons_zero, List.set_cons_succ]
      refine wpAnyH_take (i := 4) (v := undef) rfl (by kernel_rfl) (by kernel_rfl) (by kernel_rfl) (fun _ _ _ h => h) (Or.inr ⟨rfl, rfl⟩) hHeld ?_
      try simp only [Act.put, List.setIfInBounds_toArray, List.set_cons_zero, List.set_cons_succ]
      refine wpAnyH_take (i := 5) (v := undef) rfl (by kernel_rfl) (by kernel_rfl) (by kernel_rfl) (fun _ _ _ h => h) (Or.inr ⟨rfl, rfl⟩) hHeld ?_
      try simp only [Act.put, List.setIfInBounds_toArray, List.set_cons_zero, List.set_cons_succ]
      refine wpAnyH_take (i := 6) (v := undef) rfl (by kernel_rfl) (by kernel_rfl) (by kernel_rfl) (fun _ _ _ h => h) (Or.inr ⟨rfl, rfl⟩) hHeld ?_
      try simp only [Act.put, List.setIfInBounds_toArray, List.set_cons_zero, List.set_cons_succ]
      refine wpAnyH_take (i := 7) (v := undef) rfl (by kernel_rfl) (by kernel_rfl) (by kernel_rfl) (fun _ _ _ h => h) (Or.inr ⟨rfl, rfl⟩) hHeld ?_
      try simp only [Act.put, List.setIfInBounds_toArray, List.set_cons_zero, List.set_cons_succ]
      refine wpAnyH_take (i := 8) (v := ?v8) rfl (by kernel_rfl) (by kernel_rfl) (by kernel_rfl) (fun _ _ _ h => h) (Or.inl ⟨rfl, ?hy8⟩) hHeld ?rest8
      case hy8 =>
        intro w5 hSw
        try dsimp only at hSw
        go_simp
        try with_reducible rfl
      try simp only [Act.put, List.setIfInBounds_toArray, List.set_cons_zero, List.set_cons_succ]
      refine wpAnyH_ready (rs := [9]) (by kernel_rfl) (by simp) ?_
      refine AllReadyH.cons rfl (fun K5 hK5 => ?_) AllReadyH.nil
      go_simp
      clear hHeld
      refine hK5.out _ _ HF.out.five5 (fun hHeld => ?_)
      clear hK5 K5
      try simp only [Act.put, List.setIfInBounds_toArray, List.set_cons_zero, List.set_cons_succ]
      refine wpAnyH_ready (rs := [10]) (by kernel_rfl) (by simp) ?_
      refine AllReadyH.cons rfl (fun K5 hK5 => ?_) AllReadyH.nil
      go_simp
      clear hHeld
      refine hK5.out _ _ HF.out.five5 (fun hHeld => ?_)
      clear hK5 K5
      try simp only [Act.put, List.setIfInBounds_toArray, List.set_cons_zero, List.set_cons_succ]
      refine wpAnyH_done (by kernel_rfl) ?_ _
      all_goals
        go_wp2_with fail
        have hP := HF.out.finBox
        have z0 := hP.look 0; have z1 := hP.look 1; have z2 := hP.look 2; have z3 := hP.look 3; have z4 := hP.look 4
        simp at z0 z1 z2 z3 z4
        refine bodyPost_ret (v := .tuple #[IV (tx p0) d a b k, .bool false]) (by simp [results, Tryd.results44, go_sem, z0, z1, z2, z3, z4]) rfl ?_
        exact ⟨_, _, _, _, _, _, rfl, fun e => (by cases e), fun _ => HNO.out (fun e => by rw [HX.out] at e; cases e.1), HF.out.finLow⟩
    · rw [hv] at HVA
      have HSS := shade (fun W => specshow_is (tx p0) d a b k W hv)
      rw [tx_toList] at hv HSS
      have HX := shade hv
      clear hv
      obtain ⟨X, hXX⟩ : ∃ X, showL p0 d a b k = X := ⟨_, rfl⟩
      rw [hXX] at HSS HNO
      by_cases he : X = s
      · have hcmp : ((tx X).toList == (tx s).toList) = true := by rw [he]; simp
        have HSH := shade (hXX.trans he)
        clear he hXX
        go_region_held3 (fun w' => w'.cell? ⟨R, 0, none⟩ = some (.string (tx p0)) ∧ w'.cell? ⟨R, 1, none⟩ = some (.int .i64 d) ∧ w'.cell? ⟨R, 2, none⟩ = some (.int .i64 a) ∧ w'.cell? ⟨R, 3, none⟩ = some (.int .i64 b) ∧ w'.cell? ⟨R, 4, none⟩ = some (.int .i64 k))
          (first | with_reducible exact HB.out.box5 | with_reducible exact HC.out.box5 | with_reducible exact HF.out.box5 | with_reducible exact HF.out.five5)
          (first
            | (go_at_call 35; refine (HVA.out _).mono ?_; rintro e w3 ⟨rfl, o, hw3⟩; have HC := shade (HB.out.on (show wc.drew.grownBy w3 none from by rw [← hw3]; exact World.grownBy_alloc _ _ _)); clear hw3)
            | (go_at_call 36; refine (HSS.out _).mono ?_; rintro e w4 ⟨rfl, hgr⟩; have HF := shade (HC.out.on hgr); clear hgr; obtain ⟨y0, y1, y2, y3, y4⟩ := HF.out.res5; have f0 := HF.out.res.free 0; have f1 := HF.out.res.free 1; have f2 := HF.out.res.free 2; have f3 := HF.out.res.free 3; have f4 := HF.out.res.free 4))
        all_goals
          go_wp2_with fail
          have hP := HF.out.finBox
          have z0 := hP.look 0; have z1 := hP.look 1; have z2 := hP.look 2; have z3 := hP.look 3; have z4 := hP.look 4
          simp at z0 z1 z2 z3 z4
          refine bodyPost_ret (v := .tuple #[IV (tx p0) d a b k, .bool true]) (by simp [results, Tryd.results44, go_sem, z0, z1, z2, z3, z4]) rfl ?_
          exact ⟨_, _, _, _, _, _, rfl, fun _ => ⟨by rw [tx_toList]; exact HX.out, by rw [tx_toList]; exact HSH.out⟩, fun e => (by cases e), HF.out.finLow⟩
      · have hcmp : ((tx X).toList == (tx s).toList) = false := by rw [tx_toList, tx_toList]; simpa using he
        have HSH := shade he
        clear he hXX
        go_region_held3 (fun w' => w'.cell? ⟨R, 0, none⟩ = some (.string (tx p0)) ∧ w'.cell? ⟨R, 1, none⟩ = some (.int .i64 d) ∧ w'.cell? ⟨R, 2, none⟩ = some (.int .i64 a) ∧ w'.cell? ⟨R, 3, none⟩ = some (.int .i64 b) ∧ w'.cell? ⟨R, 4, none⟩ = some (.int .i64 k))
          (first | with_reducible exact HB.out.box5 | with_reducible exact HC.out.box5 | with_reducible exact HF.out.box5 | with_reducible exact HF.out.five5)
          (first
            | (go_at_call 35; refine (HVA.out _).mono ?_; rintro e w3 ⟨rfl, o, hw3⟩; have HC := shade (HB.out.on (show wc.drew.grownBy w3 none from by rw [← hw3]; exact World.grownBy_alloc _ _ _)); clear hw3)
            | (go_at_call 36; refine (HSS.out _).mono ?_; rintro e w4 ⟨rfl, hgr⟩; have HF := shade (HC.out.on hgr); clear hgr; obtain ⟨y0, y1, y2, y3, y4⟩ := HF.out.res5; have f0 := HF.out.res.free 0; have f1 := HF.out.res.free 1; have f2 := HF.out.res.free 2; have f3 := HF.out.res.free 3; have f4 := HF.out.res.free 4))
        all_goals
          go_wp2_with fail
          have hP := HF.out.finBox
          have z0 := hP.look 0; have z1 := hP.look 1; have z2 := hP.look 2; have z3 := hP.look 3; have z4 := hP.look 4
          simp at z0 z1 z2 z3 z4
          refine bodyPost_ret (v := .tuple #[IV (tx p0) d a b k, .bool false]) (by simp [results, Tryd.results44, go_sem, z0, z1, z2, z3, z4]) rfl ?_
          exact ⟨_, _, _, _, _, _, rfl, fun e => (by cases e), fun _ => HNO.out (fun e => HSH.out e.2), HF.out.finLow⟩

end Go.Proofs.YtjbbmnmbcdohiaaDoor
