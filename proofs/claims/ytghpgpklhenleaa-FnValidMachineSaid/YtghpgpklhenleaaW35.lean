/- NewMachine answers as its model: the law's walk. -/
import Derived.Test.YtghpgpklhenleaaW34
namespace Go.Proofs.Ytghpgpklhenleaa
open Go.RowKit


/-- Two machines in blocks B1 and B2, with memory of their own; nothing that was there in w has changed. -/
structure TwoM (w w' : World) (B1 B2 : Nat) (at' : Int) (n1 n2 a1 p1 a2 p2 g1 q1 g2 q2 : Nat) (fa1 fa2 fg1 fg2 : Nat → Int) : Prop where
  P1 : Holds5 w' B1 25 #[.int .i64 at', .slice (some ⟨a1, 0, none⟩) n1 p1, .slice (some ⟨a2, 0, none⟩) n2 p2]
  P2 : Holds5 w' B2 25 #[.int .i64 at', .slice (some ⟨g1, 0, none⟩) n1 q1, .slice (some ⟨g2, 0, none⟩) n2 q2]
  oa1 : Own w' w.heap.size (some ⟨a1, 0, none⟩) n1 p1 fa1
  oa2 : Own w' w.heap.size (some ⟨a2, 0, none⟩) n2 p2 fa2
  og1 : Own w' w.heap.size (some ⟨g1, 0, none⟩) n1 q1 fg1
  og2 : Own w' w.heap.size (some ⟨g2, 0, none⟩) n2 q2 fg2
  low : w.grownBy w' none
  ne : (g1 ≠ g2 ∧ a1 ≠ g1 ∧ a1 ≠ g2) ∧ (a2 ≠ g1 ∧ a2 ≠ g2) ∧ (B1 ≠ g1 ∧ B1 ≠ g2) ∧ (B2 ≠ g1 ∧ B2 ≠ g2)
theorem TwoM.grown {w w' w2 : World} {B1 B2 : Nat} {at' : Int} {n1 n2 a1 p1 a2 p2 g1 q1 g2 q2 : Nat} {fa1 fa2 fg1 fg2 : Nat → Int} (h : TwoM w w' B1 B2 at' n1 n2 a1 p1 a2 p2 g1 q1 g2 q2 fa1 fa2 fg1 fg2) (hg : w'.grownBy w2 none) :
    TwoM w w2 B1 B2 at' n1 n2 a1 p1 a2 p2 g1 q1 g2 q2 fa1 fa2 fg1 fg2 :=
  ⟨h.P1.grown hg (by intro e; cases e), h.P2.grown hg (by intro e; cases e), h.oa1.on hg, h.oa2.on hg, h.og1.on hg, h.og2.on hg, grown_same h.low hg, h.ne⟩
theorem Own.but {w w' : World} {B g n c g1 g2 : Nat} {f : Nat → Int} (h : Own w B (some ⟨g, 0, none⟩) n c f) (hb : But w w' g1 g2) (h1 : g ≠ g1) (h2 : g ≠ g2) : Own w' B (some ⟨g, 0, none⟩) n c f := by
  refine ⟨h.1, ?_⟩
  rcases h.2 with h' | ⟨g', cap', cur, e, hB, hg, rest⟩
  · exact .inl h'
  · have e' := e
    simp only [Value.slice.injEq, Option.some.injEq, Addr.mk.injEq, and_true, true_and] at e'
    refine .inr ⟨g', cap', cur, e, hB, ?_, rest⟩
    rw [hb.block g' (by
      by_cases hl : g' < w.heap.size
      · exact hl
      · rw [Array.getElem?_eq_none (by omega)] at hg
        cases hg) (by omega) (by omega)]
    exact hg
theorem TwoM.but {w w' w2 : World} {B1 B2 : Nat} {at' : Int} {n1 n2 a1 p1 a2 p2 g1 q1 g2 q2 : Nat} {fa1 fa2 fg1 fg2 fh1 fh2 : Nat → Int} (h : TwoM w w' B1 B2 at' n1 n2 a1 p1 a2 p2 g1 q1 g2 q2 fa1 fa2 fg1 fg2) (hb : But w' w2 g1 g2)
    (m1 : Own w2 w.heap.size (some ⟨g1, 0, none⟩) n1 q1 fh1) (m2 : Own w2 w.heap.size (some ⟨g2, 0, none⟩) n2 q2 fh2) :
    TwoM w w2 B1 B2 at' n1 n2 a1 p1 a2 p2 g1 q1 g2 q2 fa1 fa2 fh1 fh2 := by
  obtain ⟨⟨e1, e2, e3⟩, ⟨e4, e5⟩, ⟨e6, e7⟩, ⟨e8, e9⟩⟩ := h.ne
  have l1 := h.og1.lt
  have l2 := h.og2.lt
  refine ⟨hb.holds h.P1 e6 e7, hb.holds h.P2 e8 e9, h.oa1.but hb e2 e3, h.oa2.but hb e4 e5, m1, m2, ?_, h.ne⟩
  have := hb.below (B := w.heap.size) l1.1 l2.1 h.low.size
  exact ⟨this.os.trans h.low.os, this.tape.trans h.low.tape, this.output.trans h.low.output, Nat.le_trans h.low.size this.size, fun i hi hn => (this.block i hi).trans (h.low.block i hi hn)⟩


set_option maxHeartbeats 4000000 in
theorem exactNewMachine_walk (w : World) : Calls Try.prog 6 #[] w fun e w' => e = .returned (.bool true) ∧ Below w.heap.size w w' := by
  go_enter Try.func6, Try.ntmps6
  go_wp2_with fail
  refine (specNewMachine_any _).mono ?_
  rintro e w1 ⟨a1, p1, a2, p2, rfl, hna, hoa1, hoa2, hgr⟩
  have HOa1 := shade hoa1
  have HOa2 := shade hoa2
  have HG := shade hgr
  clear hoa1 hoa2 hgr
  go_wp2_with fail
  refine (newMachine_any _).mono ?_
  rintro e w2 ⟨g1, q1, g2, q2, rfl, hng, hog1, hog2, hgr⟩
  rw [World.size_alloc] at hog1 hog2
  have e1 := HG.out.size
  have la1 := HOa1.out.lt
  have la2 := HOa2.out.lt
  have lg1 := hog1.lt
  have lg2 := hog2.lt
  have P1 := (Holds5.fresh w1 25 #[.int .i64 0, .slice (some ⟨a1, 0, none⟩) 4 p1, .slice (some ⟨a2, 0, none⟩) 8 p2]).grown hgr (by intro e; cases e)
  have z := P1.inside
  have hX := grown_same (World.grownBy_alloc w1 (.cells #[.int .i64 0, .slice (some ⟨a1, 0, none⟩) 4 p1, .slice (some ⟨a2, 0, none⟩) 8 p2] 25) none) hgr
  have hY := grown_same hX (World.grownBy_alloc w2 (.cells #[.int .i64 0, .slice (some ⟨g1, 0, none⟩) 4 q1, .slice (some ⟨g2, 0, none⟩) 8 q2] 25) none)
  have N2 : Hid (TwoM w (w2.alloc (.cells #[.int .i64 0, .slice (some ⟨g1, 0, none⟩) 4 q1, .slice (some ⟨g2, 0, none⟩) 8 q2] 25)) w1.heap.size w2.heap.size 0 4 8 a1 p1 a2 p2 g1 q1 g2 q2 (fun _ => 0) (fun _ => 0) (fun _ => 0) (fun _ => 0)) :=
    shade ⟨P1.alloc _, Holds5.fresh _ _ _, HOa1.out.on hY, HOa2.out.on hY, (hog1.on (World.grownBy_alloc _ _ _)).lower (by omega), (hog2.on (World.grownBy_alloc _ _ _)).lower (by omega), grown_same HG.out hY, ⟨hng, by omega, by omega⟩, ⟨by omega, by omega⟩, ⟨by omega, by omega⟩, ⟨by omega, by omega⟩⟩
  have u0 := P1.look 0; have u1 := P1.look 1; have u2 := P1.look 2
  simp at u0 u1 u2
  clear P1 hX hY hgr hog1 hog2 HOa1 HOa2 HG e1 la1 la2 lg1 lg2
  go_wp2_with fail
  refine (eqMachine_any 0 _ _ _ _ 4 8 _ _ _ _ (fun _ => 0) (fun _ => 0) _ (by omega) (by omega) N2.out.og1.nums N2.out.og2.nums N2.out.oa1.nums N2.out.oa2.nums).mono ?_
  rintro e w3 ⟨rfl, hgr3⟩
  have N3 := shade (N2.out.grown hgr3)
  clear u0 u1 u2 hgr3 N2 z
  have u0 := N3.out.P2.look 0; have u1 := N3.out.P2.look 1; have u2 := N3.out.P2.look 2
  simp at u0 u1 u2
  go_wp2_with fail
  refine (markMachine_at 0 w.heap.size g1 g2 4 8 q1 q2 _ _ 1 _ (by omega) (by omega) hng N3.out.og1 N3.out.og2).mono ?_
  rintro e w4 ⟨rfl, m1, m2, hbut⟩
  have N4 := shade (N3.out.but hbut m1 m2)
  clear u0 u1 u2 m1 m2 hbut N3
  have u0 := N4.out.P2.look 0; have u1 := N4.out.P2.look 1; have u2 := N4.out.P2.look 2
  simp at u0 u1 u2
  go_wp2_with fail
  refine (heldMachine_any 0 _ _ 4 8 _ _ 1 _ (by omega) (by omega) N4.out.og1.nums N4.out.og2.nums).mono ?_
  rintro e w5 ⟨rfl, hgr5⟩
  have N5 := shade (N4.out.grown hgr5)
  clear u0 u1 u2 hgr5 N4
  go_wp2_with fail
  refine (newMachine_any _).mono ?_
  rintro e w6 ⟨h1, r1, h2, r2, rfl, hnh, hoh1, hoh2, hgr⟩
  have N6 := shade (N5.out.grown hgr)
  have HH1 := shade hoh1
  have HH2 := shade hoh2
  have z := N6.out.P1.inside
  have u0 := N6.out.P1.look 0; have u1 := N6.out.P1.look 1; have u2 := N6.out.P1.look 2
  simp at u0 u1 u2
  clear hgr hoh1 hoh2 N5
  go_wp2_with fail
  refine (eqMachine_any 0 _ _ _ _ 4 8 _ _ _ _ (fun _ => 0) (fun _ => 0) _ (by omega) (by omega) (HH1.out.nums.alloc _) (HH2.out.nums.alloc _) (N6.out.oa1.nums.alloc _) (N6.out.oa2.nums.alloc _)).mono ?_
  rintro e w7 ⟨rfl, hgr7⟩
  have N7 := shade (N6.out.grown (grown_same (World.grownBy_alloc _ _ _) hgr7))
  clear u0 u1 u2 hgr7 N6 z HH1 HH2
  have u0 := N7.out.P2.look 0; have u1 := N7.out.P2.look 1; have u2 := N7.out.P2.look 2
  simp at u0 u1 u2
  go_wp2_with fail
  refine (heldMachine_any 0 _ _ 4 8 _ _ 1 _ (by omega) (by omega) N7.out.og1.nums N7.out.og2.nums).mono ?_
  rintro e w8 ⟨rfl, hgr8⟩
  have N8 := shade (N7.out.grown hgr8)
  clear u0 u1 u2 hgr8 N7
  go_wp2_with fail
  go_ret
  exact ⟨rfl, below_of_grown N8.out.low⟩

end Go.Proofs.Ytghpgpklhenleaa