/- Jumps and what goes with them, drawn. -/
import Derived.Test.YtfmcmndhghfoeaaZ51
namespace Go.Proofs.Ytfmcmndhghfoeaa
open Go.RowKit
set_option linter.unusedSimpArgs false
theorem Bols.only {w w' : World} {A : Option Addr} {n g B : Nat} {f : Nat → Bool} (h : Bols w A n f) (hg : w.grownBy w' (some g)) (hl : ∀ b off, A = some ⟨b, off, none⟩ → B ≤ b) (hB : g < B) : Bols w' A n f :=
  h.grown hg (fun b off e e' => by injection e' with e'; have := hl b off e; omega)
set_option maxRecDepth 100000 in
set_option maxHeartbeats 4000000 in
theorem DrawStillMisses_any (A : Option Addr) (n cap : Nat) (zs : List Int) (w : World) (h : Bys w A n cap zs) :
    Calls Try.prog 13 #[.slice A n cap] w fun e w' => ∃ (AJ : Option Addr) (m cj : Nat) (J : Nat → Bool) (x1 : Bool), e = .returned (.tuple #[.slice AJ m cj, .bool x1]) ∧ m ≤ 40 ∧ Bols w' AJ m J ∧ w.grownBy w' none := by
  have HN := shade (newReader_any A n cap zs w h)
  clear h
  go_enter Try.func13, Try.ntmps13
  go_wp2_with fail
  refine HN.out.mono ?_
  rintro e w1 ⟨m0, rfl, hR, hb⟩
  have HR1 := shade hR; have HG1 := shade (grown_of_below hb)
  have HI := shade hR.blk.inside
  clear hR hb HN
  go_wp2_with fail
  refine (someJumps_any HR1.out (by omega)).mono ?_
  rintro e w2 ⟨AJ, m, cj, J, p, rfl, hm, hJ, hl, hR, hp, hG⟩
  have HR2 := shade hR; have HJ2 := shade hJ; have HL := shade hl
  have HG2 := shade (grown_then HG1.out hG (Nat.le_refl _))
  clear hR hJ hl hG HR1 HG1
  go_wp2_with fail
  refine (pick_rel 2 HR2.out (by omega)).mono ?_
  rintro e w3 ⟨x1, -, rfl, hR, hG⟩
  have HR3 := shade hR; have HJ3 := shade (HJ2.out.only hG HL.out HI.out)
  have HG3 := shade (grown_then HG2.out hG (Nat.le_refl _))
  clear hR hG HR2 HJ2 HG2
  go_wp2_with fail
  go_ret2
  exact ⟨AJ, m, cj, J, (x1 == 0), rfl, hm, HJ3.out, HG3.out⟩
set_option maxRecDepth 100000 in
set_option maxHeartbeats 4000000 in
theorem DrawCountMisses_any (A : Option Addr) (n cap : Nat) (zs : List Int) (w : World) (h : Bys w A n cap zs) :
    Calls Try.prog 16 #[.slice A n cap] w fun e w' => ∃ (AJ : Option Addr) (m cj : Nat) (J : Nat → Bool) (x1 : Int) (x2 : Int), e = .returned (.tuple #[.slice AJ m cj, .int .i64 x1, .int .i64 x2]) ∧ m ≤ 40 ∧ Bols w' AJ m J ∧ w.grownBy w' none := by
  have HN := shade (newReader_any A n cap zs w h)
  clear h
  go_enter Try.func16, Try.ntmps16
  go_wp2_with fail
  refine HN.out.mono ?_
  rintro e w1 ⟨m0, rfl, hR, hb⟩
  have HR1 := shade hR; have HG1 := shade (grown_of_below hb)
  have HI := shade hR.blk.inside
  clear hR hb HN
  go_wp2_with fail
  refine (someJumps_any HR1.out (by omega)).mono ?_
  rintro e w2 ⟨AJ, m, cj, J, p, rfl, hm, hJ, hl, hR, hp, hG⟩
  have HR2 := shade hR; have HJ2 := shade hJ; have HL := shade hl
  have HG2 := shade (grown_then HG1.out hG (Nat.le_refl _))
  clear hR hJ hl hG HR1 HG1
  go_wp2_with fail
  refine (one_rel (fun x => -10 ≤ x ∧ x ≤ 10) (HR2.out.alloc _) (by omega) _ _ _ (by omega) (by omega) (by omega) (by have := HR2.out.blk.inside; omega) (by
    intro j hj
    rw [(Holds5.fresh w2 3 #[.int .i64 2, .int .i64 1, .int .i64 3, .int .i64 2, .int .i64 0, .int .i64 4]).look j]
    rcases (show j = 0 ∨ j = 1 ∨ j = 2 ∨ j = 3 ∨ j = 4 ∨ j = 5 by omega) with rfl | rfl | rfl | rfl | rfl | rfl <;> exact ⟨_, by constructor <;> omega, rfl⟩)).mono ?_
  rintro e w3 ⟨x1, -, rfl, hR, hG⟩
  have HR3 := shade hR; have HJ3 := shade ((HJ2.out.alloc _).only hG HL.out HI.out)
  have HG3 := shade (grown_then (grown_same HG2.out (World.grownBy_alloc _ _ none)) hG (Nat.le_refl _))
  clear hR hG HR2 HJ2 HG2
  go_wp2_with fail
  refine (one_rel (fun x => -10 ≤ x ∧ x ≤ 10) (HR3.out.alloc _) (by omega) _ _ _ (by omega) (by omega) (by omega) (by have := HR3.out.blk.inside; omega) (by
    intro j hj
    rw [(Holds5.fresh w3 3 #[.int .i64 1, .int .i64 0, .int .i64 2, .int .i64 3, .int .i64 7, .int .i64 8, .int .i64 (-1)]).look j]
    rcases (show j = 0 ∨ j = 1 ∨ j = 2 ∨ j = 3 ∨ j = 4 ∨ j = 5 ∨ j = 6 by omega) with rfl | rfl | rfl | rfl | rfl | rfl | rfl <;> exact ⟨_, by constructor <;> omega, rfl⟩)).mono ?_
  rintro e w4 ⟨x2, -, rfl, hR, hG⟩
  have HR4 := shade hR; have HJ4 := shade ((HJ3.out.alloc _).only hG HL.out HI.out)
  have HG4 := shade (grown_then (grown_same HG3.out (World.grownBy_alloc _ _ none)) hG (Nat.le_refl _))
  clear hR hG HR3 HJ3 HG3
  go_wp2_with fail
  go_ret3
  exact ⟨AJ, m, cj, J, x1, x2, rfl, hm, HJ4.out, HG4.out⟩
set_option maxRecDepth 100000 in
set_option maxHeartbeats 4000000 in
theorem DrawPastMisses_any (A : Option Addr) (n cap : Nat) (zs : List Int) (w : World) (h : Bys w A n cap zs) :
    Calls Try.prog 20 #[.slice A n cap] w fun e w' => ∃ (AJ : Option Addr) (m cj : Nat) (J : Nat → Bool) (x1 : Int), e = .returned (.tuple #[.slice AJ m cj, .int .i64 x1]) ∧ m ≤ 40 ∧ Bols w' AJ m J ∧ w.grownBy w' none := by
  have HN := shade (newReader_any A n cap zs w h)
  clear h
  go_enter Try.func20, Try.ntmps20
  go_wp2_with fail
  refine HN.out.mono ?_
  rintro e w1 ⟨m0, rfl, hR, hb⟩
  have HR1 := shade hR; have HG1 := shade (grown_of_below hb)
  have HI := shade hR.blk.inside
  clear hR hb HN
  go_wp2_with fail
  refine (someJumps_any HR1.out (by omega)).mono ?_
  rintro e w2 ⟨AJ, m, cj, J, p, rfl, hm, hJ, hl, hR, hp, hG⟩
  have HR2 := shade hR; have HJ2 := shade hJ; have HL := shade hl
  have HG2 := shade (grown_then HG1.out hG (Nat.le_refl _))
  clear hR hJ hl hG HR1 HG1
  go_wp2_with fail
  refine (one_rel (fun x => -10 ≤ x ∧ x ≤ 10) (HR2.out.alloc _) (by omega) _ _ _ (by omega) (by omega) (by omega) (by have := HR2.out.blk.inside; omega) (by
    intro j hj
    rw [(Holds5.fresh w2 3 #[.int .i64 2, .int .i64 1, .int .i64 3, .int .i64 0, .int .i64 4, .int .i64 5, .int .i64 (-1)]).look j]
    rcases (show j = 0 ∨ j = 1 ∨ j = 2 ∨ j = 3 ∨ j = 4 ∨ j = 5 ∨ j = 6 by omega) with rfl | rfl | rfl | rfl | rfl | rfl | rfl <;> exact ⟨_, by constructor <;> omega, rfl⟩)).mono ?_
  rintro e w3 ⟨x1, -, rfl, hR, hG⟩
  have HR3 := shade hR; have HJ3 := shade ((HJ2.out.alloc _).only hG HL.out HI.out)
  have HG3 := shade (grown_then (grown_same HG2.out (World.grownBy_alloc _ _ none)) hG (Nat.le_refl _))
  clear hR hG HR2 HJ2 HG2
  go_wp2_with fail
  go_ret2
  exact ⟨AJ, m, cj, J, x1, rfl, hm, HJ3.out, HG3.out⟩
set_option maxRecDepth 100000 in
set_option maxHeartbeats 4000000 in
theorem DrawChooseMisses_any (A : Option Addr) (n cap : Nat) (zs : List Int) (w : World) (h : Bys w A n cap zs) :
    Calls Try.prog 24 #[.slice A n cap] w fun e w' => ∃ (AJ : Option Addr) (m cj : Nat) (J : Nat → Bool) (x1 : Int), e = .returned (.tuple #[.slice AJ m cj, .int .i64 x1]) ∧ m ≤ 40 ∧ Bols w' AJ m J ∧ w.grownBy w' none := by
  have HN := shade (newReader_any A n cap zs w h)
  clear h
  go_enter Try.func24, Try.ntmps24
  go_wp2_with fail
  refine HN.out.mono ?_
  rintro e w1 ⟨m0, rfl, hR, hb⟩
  have HR1 := shade hR; have HG1 := shade (grown_of_below hb)
  have HI := shade hR.blk.inside
  clear hR hb HN
  go_wp2_with fail
  refine (someJumps_any HR1.out (by omega)).mono ?_
  rintro e w2 ⟨AJ, m, cj, J, p, rfl, hm, hJ, hl, hR, hp, hG⟩
  have HR2 := shade hR; have HJ2 := shade hJ; have HL := shade hl
  have HG2 := shade (grown_then HG1.out hG (Nat.le_refl _))
  clear hR hJ hl hG HR1 HG1
  go_wp2_with fail
  refine (one_rel (fun x => -10 ≤ x ∧ x ≤ 10) (HR2.out.alloc _) (by omega) _ _ _ (by omega) (by omega) (by omega) (by have := HR2.out.blk.inside; omega) (by
    intro j hj
    rw [(Holds5.fresh w2 3 #[.int .i64 2, .int .i64 1, .int .i64 3, .int .i64 0, .int .i64 4, .int .i64 5, .int .i64 (-1)]).look j]
    rcases (show j = 0 ∨ j = 1 ∨ j = 2 ∨ j = 3 ∨ j = 4 ∨ j = 5 ∨ j = 6 by omega) with rfl | rfl | rfl | rfl | rfl | rfl | rfl <;> exact ⟨_, by constructor <;> omega, rfl⟩)).mono ?_
  rintro e w3 ⟨x1, -, rfl, hR, hG⟩
  have HR3 := shade hR; have HJ3 := shade ((HJ2.out.alloc _).only hG HL.out HI.out)
  have HG3 := shade (grown_then (grown_same HG2.out (World.grownBy_alloc _ _ none)) hG (Nat.le_refl _))
  clear hR hG HR2 HJ2 HG2
  go_wp2_with fail
  go_ret2
  exact ⟨AJ, m, cj, J, x1, rfl, hm, HJ3.out, HG3.out⟩
set_option maxRecDepth 100000 in
set_option maxHeartbeats 4000000 in
theorem DrawBestTable_any (A : Option Addr) (n cap : Nat) (zs : List Int) (w : World) (h : Bys w A n cap zs) :
    Calls Try.prog 27 #[.slice A n cap] w fun e w' => ∃ (AJ : Option Addr) (m cj : Nat) (J : Nat → Bool) (x1 : Int), e = .returned (.tuple #[.slice AJ m cj, .int .i64 x1]) ∧ m ≤ 40 ∧ Bols w' AJ m J ∧ w.grownBy w' none := by
  have HN := shade (newReader_any A n cap zs w h)
  clear h
  go_enter Try.func27, Try.ntmps27
  go_wp2_with fail
  refine HN.out.mono ?_
  rintro e w1 ⟨m0, rfl, hR, hb⟩
  have HR1 := shade hR; have HG1 := shade (grown_of_below hb)
  have HI := shade hR.blk.inside
  clear hR hb HN
  go_wp2_with fail
  refine (someJumps_any HR1.out (by omega)).mono ?_
  rintro e w2 ⟨AJ, m, cj, J, p, rfl, hm, hJ, hl, hR, hp, hG⟩
  have HR2 := shade hR; have HJ2 := shade hJ; have HL := shade hl
  have HG2 := shade (grown_then HG1.out hG (Nat.le_refl _))
  clear hR hJ hl hG HR1 HG1
  go_wp2_with fail
  refine (one_rel (fun x => -10 ≤ x ∧ x ≤ 10) (HR2.out.alloc _) (by omega) _ _ _ (by omega) (by omega) (by omega) (by have := HR2.out.blk.inside; omega) (by
    intro j hj
    rw [(Holds5.fresh w2 3 #[.int .i64 2, .int .i64 1, .int .i64 3, .int .i64 0, .int .i64 4, .int .i64 5, .int .i64 (-1)]).look j]
    rcases (show j = 0 ∨ j = 1 ∨ j = 2 ∨ j = 3 ∨ j = 4 ∨ j = 5 ∨ j = 6 by omega) with rfl | rfl | rfl | rfl | rfl | rfl | rfl <;> exact ⟨_, by constructor <;> omega, rfl⟩)).mono ?_
  rintro e w3 ⟨x1, -, rfl, hR, hG⟩
  have HR3 := shade hR; have HJ3 := shade ((HJ2.out.alloc _).only hG HL.out HI.out)
  have HG3 := shade (grown_then (grown_same HG2.out (World.grownBy_alloc _ _ none)) hG (Nat.le_refl _))
  clear hR hG HR2 HJ2 HG2
  go_wp2_with fail
  go_ret2
  exact ⟨AJ, m, cj, J, x1, rfl, hm, HJ3.out, HG3.out⟩
end Go.Proofs.Ytfmcmndhghfoeaa
