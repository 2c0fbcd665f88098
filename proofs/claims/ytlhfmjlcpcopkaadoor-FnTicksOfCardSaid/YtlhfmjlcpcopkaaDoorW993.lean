/- The draw of TicksOf. -/
import Derived.Test.YtlhfmjlcpcopkaaDoorG20
namespace Go.Proofs.YtlhfmjlcpcopkaaDoor
open Go.RowKit

set_option maxHeartbeats 1000000 in
theorem DrawTicksOf_any (A : Option Addr) (n cap : Nat) (zs : List Int) (w : World) (h : Bys (w.alloc (.cells #[.string ⟨#[]⟩, .int .i64 0, .int .i64 0, .int .i64 0, .int .i64 0] 33)) A n cap zs) :
    Calls Tryd.prog 49 #[.slice A n cap] w (DrawOk w) := by
  have HN := shade (newReader_any A n cap zs _ h)
  clear h
  go_enter Tryd.func49, Tryd.ntmps49
  go_wp2_with fail
  refine HN.out.mono ?_
  rintro e w1 ⟨m, rfl, hR, hb1⟩
  rw [World.size_alloc] at hR
  have hZ := (Holds5.fresh w 33 #[.string ⟨#[]⟩, .int .i64 0, .int .i64 0, .int .i64 0, .int .i64 0]).below hb1 (by simp)
  have hlt := hR.blk.inside
  have HB1 := shade (show Below w.heap.size w w1 from ((Below.refl _ _).alloc (Nat.le_refl _) _).trans (hb1.mono (by simp)))
  have HS := shade (someInstr_any hR (by omega))
  clear hb1 hR
  go_wp2_with fail
  refine HS.out.mono ?_
  rintro e w2 ⟨op, d, a, b, k, q, hq, rfl, hR, hG⟩
  have hZ2 := hZ.grown hG (by intro e; injection e with e; simp at e)
  have hB2 : Below w.heap.size w w2 := HB1.out.grown hG HB1.out.size (by intro g hg; injection hg with hg; subst hg; simp)
  have r0 := hZ2.look 0; have r1 := hZ2.look 1; have r2 := hZ2.look 2; have r3 := hZ2.look 3; have r4 := hZ2.look 4
  have f0 := hZ2.free 0; have f1 := hZ2.free 1; have f2 := hZ2.free 2; have f3 := hZ2.free 3; have f4 := hZ2.free 4
  simp at r0 r1 r2 r3 r4
  clear hR hG hZ
  have HB2 := shade hB2
  clear hB2
  go_wp2_with fail
  refine bodyPost_ret (results_cell_row rfl _ _ _ _ _ (0, 0) _ rfl (Holds5.five hZ2 _ _ _ _ _) Tryd.underlying33 rfl (by kernel_rfl)) rfl ?_
  have hB := HB2.out
  exact ⟨op, d, a, b, k, rfl, by go_grown⟩end Go.Proofs.YtlhfmjlcpcopkaaDoor
