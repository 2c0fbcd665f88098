/- The draws of PlacesFor. -/
import Derived.Test.YtfckmechiochlaaDoorW898
namespace Go.Proofs.YtfckmechiochlaaDoor
open Go.RowKit Go.Shelf
set_option maxHeartbeats 4000000 in
theorem DrawPlacesFor_any (A : Option Addr) (n cap : Nat) (zs : List Int) (w : World) (hB : Bys w A n cap zs) :
    Calls Tryd.prog 14 #[.slice A n cap] w (DrawX w) := by
  have HN := shade (newReader_any A n cap zs w hB)
  clear hB
  go_enter Tryd.func14, Tryd.ntmps14
  go_wp2_with fail
  refine HN.out.mono ?_
  rintro e w1 ⟨m, rfl, hR, hb⟩
  have HG := shade (grown_of_below hb)
  have HR := shade hR
  clear HN hR hb
  go_wp2_with fail
  refine (someWide_any HR.out (by omega)).mono ?_
  rintro e w2 ⟨g', k, c, f, rfl, hk, hcp, hC, hg, q, hq, hR⟩
  have HG2 := shade (grown_row HG.out hg (fun k e => by injection e with e; omega))
  have HC := shade hC
  have HR2 := shade hR
  have hl1 := HR.out.blk.inside
  have hl2 := hcp.2.2
  have HPW := shade (fun W => power_nat k (by omega) W)
  have hp0 : 0 < 2 ^ k := Nat.two_pow_pos k
  have hp1 : 2 ^ k ≤ 256 := pow8 hk
  clear hg HG HR hC hR
  obtain ⟨y, hy⟩ : ∃ y : Nat, 2 ^ k = y := ⟨_, rfl⟩
  rw [hy] at HPW hp0 hp1
  clear hy
  have ey : ((y : Int) == 0) = false := beq_eq_false_iff_ne.2 (by omega)
  go_wp2_with fail
  refine (pick_rel 256 HR2.out (by omega)).mono ?_
  rintro e w3 ⟨x, ⟨x0, x1, _⟩, rfl, hR, hG⟩
  have x2 := x1 (by omega)
  have HR3 := shade hR
  have HG3 := shade (grown_row HG2.out hG (fun k e => by injection e with e; omega))
  have HC3 := shade (HC.out.grown hG (by intro b off e; injection e with e; injection e with e1 e2; intro e3; injection e3 with e3; omega))
  clear hR hG x1 HR2 HG2 HC
  go_wp2_with fail
  refine (HPW.out _).mono ?_
  rintro e w4 ⟨rfl, rfl⟩
  go_wp2_with fail
  refine (HPW.out _).mono ?_
  rintro e w4 ⟨rfl, rfl⟩
  go_wp2_with fail
  refine (HPW.out _).mono ?_
  rintro e w4 ⟨rfl, rfl⟩
  go_wp2_with fail
  refine (one_rel (fun _ => True) (HR3.out.alloc _) (by omega) _ _ _ (by omega) (by omega) (by omega) (by have := HR3.out.blk.inside; omega) (by
    intro j hj
    rw [World.cell?_alloc_new]
    rcases (show j = 0 ∨ j = 1 ∨ j = 2 ∨ j = 3 ∨ j = 4 ∨ j = 5 by omega) with rfl | rfl | rfl | rfl | rfl | rfl <;> exact ⟨_, trivial, rfl⟩)).mono ?_
  rintro e w5 ⟨z, -, rfl, -, hG⟩
  have HG5 := shade (grown_row (grown_same HG3.out (World.grownBy_alloc _ _ none)) hG (fun k e => by injection e with e; omega))
  have HC5 := shade ((HC3.out.alloc _).grown hG (by intro b off e; injection e with e; injection e with e1 e2; intro e3; injection e3 with e3; omega))
  clear hG HR3 HG3 HC3
  go_wp2_with fail
  go_ret2
  exact ⟨g', k, c, f, z, rfl, hk, ⟨hcp.1, hcp.2.1⟩, HC5.out, HG5.out⟩
end Go.Proofs.YtfckmechiochlaaDoor
