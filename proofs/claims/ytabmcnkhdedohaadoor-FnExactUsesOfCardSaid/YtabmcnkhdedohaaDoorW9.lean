/- The law FnExactValidInstr returns true at every instruction, provided that wordTexts holds its words. -/
import Derived.Test.YtabmcnkhdedohaaDoorW8
import Derived.Test.YtabmcnkhdedohaaDoorW5
namespace Go.Proofs.YtabmcnkhdedohaaDoor
open Go.RowKit
theorem below_then {W w w1 : World} (h : Below W.heap.size W w) (hb : Below w.heap.size w w1) : Below W.heap.size W w1 := h.trans (hb.mono h.size)


set_option maxHeartbeats 1000000 in
theorem exactValidInstr_walk (op : ByteArray) (d a b k : Int) (w : World) (hg : WT w) (hs : op.size ≤ 9223372036854775807) :
    Calls Tryd.prog 7 #[IV op d a b k] w fun e w' => e = .returned (.bool true) ∧ Below w.heap.size w w' := by
  have HG := shade hg
  clear hg
  by_cases hl : (1048576 : Int) - op.size < 0
  · have hsz := fun W => szInstr_any op d a b k 1048576 (by omega) (by omega) hs W
    rw [if_pos hl] at hsz
    have HS := shade hsz
    clear hsz
    go_enter Tryd.func7, Tryd.ntmps7
    go_wp2_with fail
    refine (HS.out _).mono ?_
    rintro e w1 ⟨rfl, o, rfl⟩
    go_wp2_with fail
    go_ret
    exact ⟨rfl, by go_grown⟩
  · have hsz := fun W => szInstr_any op d a b k 1048576 (by omega) (by omega) hs W
    rw [if_neg hl] at hsz
    have HS := shade hsz
    have hl2 : (op.size : Int) ≤ 1048576 := by omega
    clear hsz
    go_enter Tryd.func7, Tryd.ntmps7
    go_wp2_with fail
    refine (HS.out _).mono ?_
    rintro e w1 ⟨rfl, o, rfl⟩
    go_wp2_with fail
    refine (toInstr_any _ _ _ _ _ _).mono ?_
    rintro e w2 ⟨rfl, hb2⟩
    have H1 := (Holds5.fresh w 38 #[.string op, .int .i64 d, .int .i64 a, .int .i64 b, .int .i64 k]).alloc o
    have H2 := H1.below hb2 H1.inside
    clear H1
    have hB2 := below_then (W := w) (by go_grown) hb2
    have H2 := shade H2
    clear hb2
    go_wp2_with fail
    refine (SpecValidInstr_any _ _ _ _ _ _).mono ?_
    rintro e w3 ⟨rfl, hb3⟩
    have hB3 := below_then hB2 hb3
    have H3 := H2.out.below hb3 H2.out.inside
    have q0 := H3.look 0; have q1 := H3.look 1; have q2 := H3.look 2; have q3 := H3.look 3; have q4 := H3.look 4
    simp at q0 q1 q2 q3 q4
    clear hb3 H3
    generalize hv : vB op.toList d a b k = v
    have HV := shade hv
    clear hv
    go_wp2_with fail
    refine (toInstr_any _ _ _ _ _ _).mono ?_
    rintro e w4 ⟨rfl, hb4⟩
    have hB4 := below_then hB3 hb4
    clear hb4
    go_wp2_with fail
    refine (ValidInstr_any _ _ _ _ _ _ (HG.out.below hB4 (by have := HG.out; obtain ⟨_, _, h⟩ := this; exact (Array.getElem?_eq_some_iff.1 h).1))).mono ?_
    rw [HV.out]
    rintro e w5 ⟨rfl, hb5⟩
    have hB5 := below_then hB4 hb5
    clear hb5
    go_wp2_with fail
    go_ret
    exact ⟨rfl, hB5⟩
end Go.Proofs.YtabmcnkhdedohaaDoor