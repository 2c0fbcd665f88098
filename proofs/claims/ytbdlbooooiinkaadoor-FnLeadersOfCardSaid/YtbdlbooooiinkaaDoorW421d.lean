/- Drawn programs. -/
import Derived.Test.YtbdlbooooiinkaaDoorW431d
import Derived.Test.YtbdlbooooiinkaaDoorW402d
namespace Go.Proofs.YtbdlbooooiinkaaDoor
open Go.RowKit
set_option linter.unusedSimpArgs false
/-- What is drawn: a program; nothing that was there has changed. -/
def DrwC (w : World) (e : Ending) (w' : World) : Prop :=
  ∃ (A : Option Addr) (k c : Nat) (f : Nat → Ins), e = .returned (.slice A k c) ∧ k ≤ 14 ∧ Code w' A k f ∧ w.grownBy w' none
set_option maxRecDepth 100000 in
set_option maxHeartbeats 4000000 in
theorem DrawLeadersOf_any (A : Option Addr) (n cap : Nat) (zs : List Int) (w : World) (h : Bys w A n cap zs) :
    Calls Tryd.prog 23 #[.slice A n cap] w (DrwC w) := by
  have HN := shade (newReader_any A n cap zs w h)
  clear h
  go_enter Tryd.func23, Tryd.ntmps23
  go_wp2_with fail
  refine HN.out.mono ?_
  rintro e w1 ⟨m, rfl, hR, hb1⟩
  have HG1 := shade (grown_of_below hb1)
  have HR1 := shade hR
  clear hb1 hR HN
  go_wp2_with fail
  refine (someCode_rd HR1.out (by omega)).mono ?_
  rintro e w2 ⟨g', k, c, f, rfl, hk, hC, hG, hg', q, hq, hR⟩
  have HG2 := shade (grown_row HG1.out hG (fun j e => by injection e; omega))
  have HC2 := shade hC
  clear hC hG hR HR1 HG1
  go_wp2_with fail
  go_ret
  exact ⟨_, k, c, f, rfl, hk, HC2.out, HG2.out⟩
/-- What is drawn: a program and a number; nothing that was there has changed. -/
def DrwCI (w : World) (e : Ending) (w' : World) : Prop :=
  ∃ (A : Option Addr) (k c : Nat) (f : Nat → Ins) (i : Int), e = .returned (.tuple #[.slice A k c, .int .i64 i]) ∧ k ≤ 14 ∧ Code w' A k f ∧ (-1 ≤ i ∧ i ≤ 14) ∧ w.grownBy w' none
set_option maxRecDepth 100000 in
set_option maxHeartbeats 4000000 in
theorem DrawNextOf_any (A : Option Addr) (n cap : Nat) (zs : List Int) (w : World) (h : Bys w A n cap zs) :
    Calls Tryd.prog 21 #[.slice A n cap] w (DrwCI w) := by
  have HN := shade (newReader_any A n cap zs w h)
  clear h
  go_enter Tryd.func21, Tryd.ntmps21
  go_wp2_with fail
  refine HN.out.mono ?_
  rintro e w1 ⟨m, rfl, hR, hb1⟩
  have HG1 := shade (grown_of_below hb1)
  have HR1 := shade hR
  clear hb1 hR HN
  go_wp2_with fail
  refine (someCode_rd HR1.out (by omega)).mono ?_
  rintro e w2 ⟨g', k, c, f, rfl, hk, hC, hG, hg', q, hq, hR⟩
  have l1 := HR1.out.blk.inside
  have HG2 := shade (grown_row HG1.out hG (fun j e => by injection e; omega))
  have HC2 := shade hC
  have HR2 := shade hR
  have l2 := hG.size
  clear hC hG hR HR1 HG1
  go_wp2_with fail
  refine (pick_rel (k : Int) HR2.out (by omega)).mono ?_
  rintro e w3 ⟨y1, ⟨y1a, y1b, y1c⟩, rfl, hR, hG⟩
  have HR3 := shade hR
  have HG3 := shade (grown_row HG2.out hG (fun j e => by injection e; omega))
  have HC3 := shade (HC2.out.grown hG (by intro b off e e'; injection e with e; injection e with e; injection e' with e'; omega))
  have l3 := hG.size
  have y1d : y1 ≤ 14 := by
    by_cases h : (1 : Int) ≤ k
    · have := y1b h
      omega
    · have := y1c (by omega)
      omega
  clear hR hG HR2 HG2 HC2 y1b y1c
  go_wp2_with fail
  refine (pick_rel (k : Int) HR3.out (by omega)).mono ?_
  rintro e w4 ⟨y2, ⟨y2a, y2b, y2c⟩, rfl, hR, hG⟩
  have HR4 := shade hR
  have HG4 := shade (grown_row HG3.out hG (fun j e => by injection e; omega))
  have HC4 := shade (HC3.out.grown hG (by intro b off e e'; injection e with e; injection e with e; injection e' with e'; omega))
  have l4 := hG.size
  have y2d : y2 ≤ 14 := by
    by_cases h : (1 : Int) ≤ k
    · have := y2b h
      omega
    · have := y2c (by omega)
      omega
  clear hR hG HR3 HG3 HC3 y2b y2c
  go_wp2_with fail
  refine (one_rel (fun x => -1 ≤ x ∧ x ≤ 14) (HR4.out.alloc _) (by omega) _ _ _ (by omega) (by omega) (by omega) (by omega) (by
    intro j hj
    rw [World.cell?_alloc_new]
    rcases (show j = 0 ∨ j = 1 ∨ j = 2 ∨ j = 3 ∨ j = 4 by omega) with rfl | rfl | rfl | rfl | rfl <;> exact ⟨_, by constructor <;> omega, rfl⟩)).mono ?_
  rintro e w5 ⟨x, hx, rfl, hR, hG⟩
  have HG5 := shade (grown_row (grown_same HG4.out (World.grownBy_alloc w4 _ none)) hG (fun j e => by injection e; omega))
  have HC5 := shade ((HC4.out.alloc _).grown hG (by intro b off e e'; injection e with e; injection e with e; injection e' with e'; omega))
  have HX := shade hx
  clear hR hG HR4 HG4 HC4 hx
  go_wp2_with fail
  go_ret2
  exact ⟨_, k, c, f, x, rfl, hk, HC5.out, HX.out, HG5.out⟩
end Go.Proofs.YtbdlbooooiinkaaDoor
