/- ShowInstr's exact law, walked. -/
import Derived.Test.YthdpicdgogpecaaDoorW303
namespace Go.Proofs.YthdpicdgogpecaaDoor
open Go.RowKit
set_option linter.unusedSimpArgs false
/-- What stands in the law: the argument in its box, and what is laid. -/
structure SL (w wr : World) (op : ByteArray) (d a b k : Int) : Prop where
  box : Holds5 wr w.heap.size 23 #[.string op, .int .i64 d, .int .i64 a, .int .i64 b, .int .i64 k]
  wt : WT wr
  pow : Pow wr
  low : w.grownBy wr none
theorem SL.on {w wr w2 : World} {op : ByteArray} {d a b k : Int} (h : SL w wr op d a b k) (hg : wr.grownBy w2 none) : SL w w2 op d a b k :=
  ⟨h.box.grown hg (by intro e; cases e), h.wt.grown hg (by simp), pow_below h.pow (below_of_grown hg), grown_same h.low hg⟩
set_option maxRecDepth 100000 in
set_option maxHeartbeats 4000000 in
theorem exactShowInstr_walk (op : ByteArray) (d a b k : Int) (w : World) (hg : WT w) (hp : Pow w) (hs : op.size ≤ 9223372036854775807) :
    Calls Tryd.prog 3 #[IV op d a b k] w fun e w' => e = .returned (.bool true) ∧ Below w.heap.size w w' := by
  have hga := World.grownBy_alloc w (.cells #[.string op, .int .i64 d, .int .i64 a, .int .i64 b, .int .i64 k] 23) none
  have H0 := shade (show SL w (w.alloc (.cells #[.string op, .int .i64 d, .int .i64 a, .int .i64 b, .int .i64 k] 23)) op d a b k from ⟨Holds5.fresh w 23 #[.string op, .int .i64 d, .int .i64 a, .int .i64 b, .int .i64 k], hg.alloc _, pow_below hp (below_of_grown hga), hga⟩)
  have HSZ := shade (fun W => szInstr_any op d a b k 1048576 (by omega) (by omega) hs W)
  by_cases hbig : (1048576 : Int) - op.size < 0
  · rw [if_pos hbig] at HSZ
    clear hga hbig
    go_enter Tryd.func3, Tryd.ntmps3
    go_wp2_with fail
    refine (HSZ.out _).mono ?_
    rintro e w1 ⟨rfl, o, hw⟩
    have hgr := World.grownBy_alloc (w.alloc (.cells #[.string op, .int .i64 d, .int .i64 a, .int .i64 b, .int .i64 k] 23)) o none
    rw [hw] at hgr
    have H1 := shade (H0.out.on hgr)
    clear hgr hw
    go_wp2_with fail
    go_ret
    exact ⟨rfl, below_of_grown H1.out.low⟩
  · rw [if_neg hbig] at HSZ
    obtain ⟨x, hx, hx0⟩ : ∃ x : Int, (1048576 : Int) - op.size = x ∧ 0 ≤ x := ⟨_, rfl, by omega⟩
    rw [hx] at HSZ
    clear hga hbig hx
    go_enter Tryd.func3, Tryd.ntmps3
    go_wp2_with fail
    refine (HSZ.out _).mono ?_
    rintro e w1 ⟨rfl, o, hw⟩
    have hgr := World.grownBy_alloc (w.alloc (.cells #[.string op, .int .i64 d, .int .i64 a, .int .i64 b, .int .i64 k] 23)) o none
    rw [hw] at hgr
    have H1 := shade (H0.out.on hgr)
    clear hgr hw H0 HSZ
    have x0 := H1.out.box.look 0; have x1 := H1.out.box.look 1; have x2 := H1.out.box.look 2; have x3 := H1.out.box.look 3; have x4 := H1.out.box.look 4
    simp at x0 x1 x2 x3 x4
    go_wp2_with fail
    refine (toInstr_any op d a b k _).mono ?_
    rintro e w2 ⟨rfl, hb⟩
    have H2 := shade (H1.out.on (grown_of_below hb))
    clear hb x0 x1 x2 x3 x4 H1
    go_wp2_with fail
    refine (SpecShowInstr_any op d a b k _).mono ?_
    rintro e w3 ⟨rfl, hgr⟩
    have H3 := shade (H2.out.on hgr)
    clear hgr H2
    have x0 := H3.out.box.look 0; have x1 := H3.out.box.look 1; have x2 := H3.out.box.look 2; have x3 := H3.out.box.look 3; have x4 := H3.out.box.look 4
    simp at x0 x1 x2 x3 x4
    go_wp2_with fail
    refine (toInstr_any op d a b k _).mono ?_
    rintro e w4 ⟨rfl, hb⟩
    have H4 := shade (H3.out.on (grown_of_below hb))
    clear hb x0 x1 x2 x3 x4 H3
    go_wp2_with fail
    refine (ShowInstr_any op d a b k _ H4.out.wt H4.out.pow).mono ?_
    rintro e w5 ⟨rfl, hgr⟩
    have H5 := shade (H4.out.on hgr)
    clear hgr H4
    go_wp2_with fail
    go_ret
    exact ⟨rfl, below_of_grown H5.out.low⟩
end Go.Proofs.YthdpicdgogpecaaDoor
