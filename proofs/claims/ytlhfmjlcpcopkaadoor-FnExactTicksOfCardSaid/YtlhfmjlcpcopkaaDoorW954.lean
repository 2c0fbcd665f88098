/- The exact law of TicksOf, walked. -/
import Derived.Test.YtlhfmjlcpcopkaaDoorW951
import Derived.Test.YtlhfmjlcpcopkaaDoorW10
import Derived.Test.YtlhfmjlcpcopkaaDoorW9
import Derived.Test.YtlhfmjlcpcopkaaDoorW51
namespace Go.Proofs.YtlhfmjlcpcopkaaDoor
open Go.RowKit

set_option maxHeartbeats 1000000 in
theorem exactTicksOf_core (op : ByteArray) (d a b k x : Int) (w : World) (hg : WT w) (hs : op.size ≤ 9223372036854775807)
    (hS : ∀ W, Calls Tryd.prog 21 #[IV op d a b k] W fun e w' => e = .returned (.int .i64 x) ∧ Below W.heap.size W w')
    (hI : ∀ W, WT W → Calls Tryd.prog 23 #[IV op d a b k] W fun e w' => e = .returned (.int .i64 x) ∧ Below W.heap.size W w') :
    Calls Tryd.prog 4 #[IV op d a b k] w fun e w' => e = .returned (.bool true) ∧ Below w.heap.size w w' := by
  have HG := shade hg
  have HSp := shade hS
  have HIm := shade hI
  clear hg hS hI
  by_cases hl : (1048576 : Int) - op.size < 0
  · have hsz := fun W => szInstr_any op d a b k 1048576 (by omega) (by omega) hs W
    rw [if_pos hl] at hsz
    have HS := shade hsz
    clear hsz
    go_enter Tryd.func4, Tryd.ntmps4
    go_wp2_with fail
    refine (HS.out _).mono ?_
    rintro e w1 ⟨rfl, o, rfl⟩
    go_wp2_with fail
    go_ret
    exact ⟨rfl, by go_grown⟩
  · have hsz := fun W => szInstr_any op d a b k 1048576 (by omega) (by omega) hs W
    rw [if_neg hl] at hsz
    have HS := shade hsz
    have hl2 : (op.size : Int) ≤ 1048576 := by omega
    clear hsz
    go_enter Tryd.func4, Tryd.ntmps4
    go_wp2_with fail
    refine (HS.out _).mono ?_
    rintro e w1 ⟨rfl, o, rfl⟩
    go_wp2_with fail
    refine (toInstr_any _ _ _ _ _ _).mono ?_
    rintro e w2 ⟨rfl, hb2⟩
    have H1 := (Holds5.fresh w 30 #[.string op, .int .i64 d, .int .i64 a, .int .i64 b, .int .i64 k]).alloc o
    have H2 := H1.below hb2 H1.inside
    clear H1
    have hB2 := below_then (W := w) (by go_grown) hb2
    have H2 := shade H2
    clear hb2
    go_wp2_with fail
    refine (HSp.out _).mono ?_
    rintro e w3 ⟨rfl, hb3⟩
    have hB3 := below_then hB2 hb3
    have H3 := H2.out.below hb3 H2.out.inside
    have q0 := H3.look 0; have q1 := H3.look 1; have q2 := H3.look 2; have q3 := H3.look 3; have q4 := H3.look 4
    simp at q0 q1 q2 q3 q4
    clear hb3 H3
    go_wp2_with fail
    refine (toInstr_any _ _ _ _ _ _).mono ?_
    rintro e w4 ⟨rfl, hb4⟩
    have hB4 := below_then hB3 hb4
    clear hb4
    go_wp2_with fail
    refine (HIm.out _ (HG.out.below hB4 (wt_lt HG.out))).mono ?_
    rintro e w5 ⟨rfl, hb5⟩
    have hB5 := below_then hB4 hb5
    clear hb5
    go_wp2_with fail
    go_ret
    exact ⟨rfl, hB5⟩
theorem exactTicksOf_walk (op : ByteArray) (d a b k : Int) (w : World) (hg : WT w) (hs : op.size ≤ 9223372036854775807) :
    Calls Tryd.prog 4 #[IV op d a b k] w fun e w' => e = .returned (.bool true) ∧ Below w.heap.size w w' :=
  exactTicksOf_core op d a b k _ w hg hs (fun W => (STicksOf_any op d a b k W).mono fun _ _ h => ⟨h.1, below_of_grown h.2⟩) (fun W hW => (ITicksOf_any op d a b k W hW).mono fun _ _ h => ⟨h.1, below_of_grown h.2⟩)
end Go.Proofs.YtlhfmjlcpcopkaaDoor
