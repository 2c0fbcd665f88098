/- The model's ReadInstr. -/
import Derived.Test.YtjbbmnmbcdohiaaDoorW316
namespace Go.Proofs.YtjbbmnmbcdohiaaDoor
open Go.RowKit
set_option linter.unusedSimpArgs false
/-- What ReadInstr gives. -/
def RI (s : List UInt8) (w : World) (e : Ending) (w' : World) : Prop := ∃ op d a b k ok, e = .returned (.tuple #[IV op d a b k, .bool ok]) ∧ RIv s op d a b k ok ∧ w.grownBy w' none
set_option maxRecDepth 100000 in
set_option maxHeartbeats 4000000 in
theorem SpecReadInstr_is (s : List UInt8) (w : World) (hl : s.length ≤ 1048576) : Calls Tryd.prog 14 #[.string (tx s)] w (RI s w) := by
  obtain ⟨p0, ps, hp⟩ : ∃ p0 ps, splitC 32 s = p0 :: ps := List.exists_cons_of_ne_nil (splitC_ne 32 s)
  have HR := shade (fun W => readInstr_is s p0 ps W hl hp)
  clear hp
  go_enter Tryd.func14, Tryd.ntmps14
  go_wp2_with fail
  refine (HR.out _).mono ?_
  rintro e w1 ⟨op, d, a, b, k, ok, rfl, hy, hn, hg⟩
  have HY := shade hy
  have HN := shade hn
  have HT := shade (RT.start op d a b k hg)
  obtain ⟨y0, y1, y2, y3, y4⟩ := (RT.start op d a b k hg).res5
  have f0 := HT.out.res.free 0; have f1 := HT.out.res.free 1; have f2 := HT.out.res.free 2; have f3 := HT.out.res.free 3; have f4 := HT.out.res.free 4
  clear hy hn hg HR
  cases ok with
  | false =>
    go_wp2_with fail
    have hP := HT.out.finBox0 ⟨#[]⟩ 0 0 0 0
    have z0 := hP.look 0; have z1 := hP.look 1; have z2 := hP.look 2; have z3 := hP.look 3; have z4 := hP.look 4
    simp at z0 z1 z2 z3 z4
    refine bodyPost_ret (v := .tuple #[IV ⟨#[]⟩ 0 0 0 0, .bool false]) (by simp [results, Tryd.results14, go_sem, z0, z1, z2, z3, z4]) rfl ?_
    exact ⟨_, _, _, _, _, _, rfl, RIv.none (HN.out trivial), HT.out.finLow0 ⟨#[]⟩ 0 0 0 0⟩
  | true =>
    go_wp2_with fail
    have hP := HT.out.finBox
    have z0 := hP.look 0; have z1 := hP.look 1; have z2 := hP.look 2; have z3 := hP.look 3; have z4 := hP.look 4
    simp at z0 z1 z2 z3 z4
    refine bodyPost_ret (v := .tuple #[IV op d a b k, .bool true]) (by simp [results, Tryd.results14, go_sem, z0, z1, z2, z3, z4]) rfl ?_
    exact ⟨_, _, _, _, _, _, rfl, RIv.some (HY.out trivial).1 (HY.out trivial).2, HT.out.finLow⟩
end Go.Proofs.YtjbbmnmbcdohiaaDoor
