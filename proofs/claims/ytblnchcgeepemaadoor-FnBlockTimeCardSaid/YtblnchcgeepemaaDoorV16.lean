/- The longest ways to the end, by the program: of no instructions, and of a block. -/
import Derived.Test.YtblnchcgeepemaaDoorV15
namespace Go.Proofs.YtblnchcgeepemaaDoor
open Go.RowKit Go.Shelf
set_option linter.unusedSimpArgs false
attribute [local go_sem] Oper.semAt_some
set_option maxRecDepth 100000 in
set_option maxHeartbeats 8000000 in
theorem IHeightsOf_zero (A : Option Addr) (n c : Nat) (f : Nat → Int) (w : World)
    (h : Calls Tryd.prog 17 #[.slice A n c] w fun e w1 => ∃ (A1 : Option Addr) (c1 : Nat) (A2 : Option Addr) (c2 : Nat) (bo : Bool), e = .returned (.tuple #[.agg #[.slice A1 0 c1, .slice A2 0 c2], .bool bo]) ∧ w1.ownsRow w.heap.size 3 1 (.slice A1 0 c1) 0 (numL 0 f) ∧ w.grownBy w1 none) :
    Calls Tryd.prog 6 #[.slice A n c] w (NumRes 0 f w) := by
  have HB := shade h
  clear h
  refine (callsIn_wide (n := 8)).1 ?_
  refine callsIn_of_wp_marks Tryd.func6 rfl trivial ?_ rfl
  simp only [Tryd.ntmps6, List.size_toArray, List.length_cons, List.length_nil, Nat.reduceAdd, Nat.reduceSub, Array.replicate_succ, Array.replicate_zero, List.push_toArray, List.append_toArray, List.nil_append, List.cons_append]
  gi_wp2_with (fail)
  refine ⟨trivial, (callsIn_wide.2 HB.out).mono ?_⟩
  rintro e w1 ⟨A1, c1, A2, c2, bo, rfl, ht, hg⟩
  have HCN := shade (fun W (hg : w1.grownBy W none) => cloneNums_any w.heap.size w1.heap.size (.slice A1 0 c1) 0 f W (by omega) ((show RowO w1 w.heap.size w1.heap.size 3 (.slice A1 0 c1) 0 (numL 0 f) from ⟨ht, fun b hb => (World.ownsRow.lt ht b hb).2⟩).grown hg))
  have HG := shade (grown_same hg (World.grownBy_alloc w1 (.cells #[.slice A1 0 c1, .slice A2 0 c2] 41) none))
  have HX := shade (Holds5.fresh w1 41 #[.slice A1 0 c1, .slice A2 0 c2])
  have s1 := hg.size
  have s2 : (w1.alloc (.cells #[.slice A1 0 c1, .slice A2 0 c2] 41)).heap.size = w1.heap.size + 1 := by simp
  clear hg ht HB
  gi_wp2_with (fail)
  refine ⟨trivial, (callsIn_wide.2 (HCN.out _ (World.grownBy_alloc w1 _ none))).mono ?_⟩
  rintro e w2 ⟨v, rfl, ho, hg⟩
  obtain ⟨A3, c3, rfl, -⟩ := ownsRow_slice ho
  have hx2 := HX.out.grown hg (by intro e; cases e)
  have y1 := hx2.look 1
  simp at y1
  have HO2 := shade (show w2.ownsRow w.heap.size 3 1 (.slice A3 0 c3) 0 (numL 0 f) from World.ownsRow.mono ho (by omega))
  have HLT := shade (fun b hb => (World.ownsRow.lt ho b hb).2)
  have HG2 := shade (grown_same HG.out hg)
  clear ho hg hx2 HX HCN HG
  have y2 : (w2.alloc (.cells #[.slice A3 0 c3] 25)).cell? ⟨w1.heap.size, 1, none⟩ = some (.slice A2 0 c2) := (World.cell?_alloc_some w2 _ _ (by rw [y1]; rfl)).trans y1
  gi_wp2_with (fail)
  refine ⟨trivial, (callsIn_wide.2 ((callsIn_wide (n := 7)).1 (backward_in Fence.wide 7 trivial rfl A2 0 c2 _))).mono ?_⟩
  rintro e W3 ⟨rfl, rfl⟩
  gi_wp2_with (fail)
  have e1 := (Holds5.fresh w2 25 #[.slice A3 0 c3]).alloc (.cells #[.slice A2 0 c2] 28)
  have e3 := Holds5.fresh (w2.alloc (.cells #[.slice A3 0 c3] 25)) 28 #[.slice A2 0 c2]
  rw [World.size_alloc] at e3
  have hg3 : w2.grownBy ((w2.alloc (.cells #[.slice A3 0 c3] 25)).alloc (.cells #[.slice A2 0 c2] 28)) none := grown_same (World.grownBy_alloc _ _ none) (World.grownBy_alloc _ _ none)
  have hz3 : ((w2.alloc (.cells #[.slice A3 0 c3] 25)).alloc (.cells #[.slice A2 0 c2] 28)).heap.size = w2.heap.size + 2 := by simp
  obtain ⟨W3, hW3⟩ : ∃ W3, (w2.alloc (.cells #[.slice A3 0 c3] 25)).alloc (.cells #[.slice A2 0 c2] 28) = W3 := ⟨_, rfl⟩
  rw [hW3] at e1 e3 hg3 hz3 ⊢
  clear hW3
  have hst := backward_stops Fence.wide 7 trivial rfl (by omega) (w2.heap.size + 1) (fun _ => False) A2 0 c2 (fun _ => .slice none 0 0) (by omega) (fun j hj => absurd hj (Nat.not_lt_zero j)) W3 (by intro h; exact h) (by omega) (e3.look 0) (.inl rfl) (fun b off e h0 => by omega)
  have HST := shade hst
  have HE1 := shade e1
  have HG3 := shade (grown_same HG2.out hg3)
  have HO3 := shade (ownsRow_on HO2.out hg3)
  have HZ3 := shade hz3
  clear e1 e3 hg3 hz3 hst HO2 HG2 y1 y2
  refine wpIn_rangeFunc_ownH (F := Fence.wide) (n := 8) rfl (by omega) (gf := 37) (lb := #[.pointer (some ⟨w2.heap.size + 1, 0, none⟩)]) rfl trivial (enters_of Tryd.func37 (by kernel_rfl) rfl)
    HST.out (fun h k => h.trans k) (fun W l o o' _ ho hc _ => KeepP.put ho hc) (Below.refl _ _) (fun _ => rfl)
    (fun pre W => Holds5 W w2.heap.size 25 #[.slice A3 0 c3] ∧ W.ownsRow w.heap.size 3 1 (.slice A3 0 c3) 0 (numL 0 f) ∧ w.grownBy W none ∧ w2.heap.size + 2 ≤ W.heap.size)
    (fun _ _ _ => False)
    (fun s X X' row hs hg hr => ⟨hs.1.grown hg (fun e => by have := (hr _ e.symm).1; have := HZ3.out; omega), World.ownsRow.kept hs.2.1 hg (by
      rcases hA : (Value.slice A3 0 c3).ownBlock with _ | b
      · exact .inl rfl
      · refine .inr (fun e => ?_)
        have h1 := (hr b e.symm).1
        have h2 := HLT.out b hA
        have := HZ3.out
        omega), grown_row' hs.2.2.1 hg (fun r e => by have := (hr r e).1; have := HZ3.out; have := HG3.out.size; omega), Nat.le_trans hs.2.2.2 hg.size⟩)
    (fun _ _ _ _ _ hs _ _ => hs)
    ⟨HE1.out, HO3.out, HG3.out, by have := HZ3.out; omega⟩
    (fun q a' _ => True)
    (fun q a' => ?own) ?assign ?body ?done ?stop
  case own =>
    rintro _ X X' row h hg hr
    exact h
  case assign =>
    intro l pre q W K hi hK
    exact absurd q.2 (Nat.not_lt_zero _)
  case body =>
    rintro l pre q a' W hl hlp
    exact absurd q.2 (Nat.not_lt_zero _)
  case done =>
    rintro D ys W hD hys ⟨hN, ho, hg, hz⟩ hK
    have c0 := hN.look 0
    simp at c0
    have HO := shade ho
    have HG := shade hg
    clear hN hys ho hg
    gi_wp2_with (fail)
    refine ⟨by simp, .inl ⟨_, _, rfl, run_takeDeferred hK, ?_⟩⟩
    have hgp := grownBy_putObj' W D (.deferred none)
    exact ⟨_, results_tmp rfl _ _ _, .slice A3 0 c3, rfl, World.ownsRow.kept HO.out hgp (.inr (fun e => by
      have h2 := HLT.out D e
      have := HZ3.out
      omega)), grown_row' HG.out hgp (fun r e => by
      injection e with e
      have := HZ3.out; have := HG3.out.size
      omega)⟩
  case stop =>
    rintro D cc pre W hD _ h _
    exact h.elim
theorem IHeightsOf_any (A : Option Addr) (n c : Nat) (F : Nat → Ins) (w : World) (hw : WT w) (hn : n ≤ 9223372036854775807) (hcap : n ≤ c) (h : Code w A n F) :
    Calls Tryd.prog 6 #[.slice A n c] w (NumRes (nB n F) (hgt F n) w) := by
  rcases hv : blB n F with _ | _
  · rw [nB_no hv]
    refine IHeightsOf_zero A n c _ w ((IBlockOf_no A n c F w hw hv hn h).mono ?_)
    rintro e w1 ⟨rfl, hg⟩
    exact ⟨none, 0, none, 0, false, rfl, World.ownsRow_nil _ _ _ _, hg⟩
  · rw [nB_yes hv]
    by_cases h0 : n = 0
    · subst h0
      refine IHeightsOf_zero A 0 c _ w ((IBlockOf_any A 0 c F w hw hcap hv h).mono ?_)
      rintro e w1 ⟨tv, wv, AS, rfl, ht, hr, -, hg⟩
      obtain ⟨A1, c1, rfl, -⟩ := ownsRow_slice ht
      obtain ⟨A2, c2, rfl, -⟩ := hr.shape
      exact ⟨A1, c1, A2, c2, true, rfl, ht, hg⟩
    · exact IHeightsOf_pos A n c F w hw hcap (by omega) hv h
theorem heights_both (n : Nat) (F : Nat → Ins) (hn : n ≤ 9223372036854775807) :
    ∃ (K : Nat) (f : Nat → Int), K ≤ 300 ∧ (∀ (A : Option Addr) (c : Nat) (W : World), Code W A n F → Calls Tryd.prog 8 #[.slice A n c] W (NumRes K f W)) ∧
      (∀ (A : Option Addr) (W : World), WT W → Code W A n F → Calls Tryd.prog 6 #[.slice A n n] W (NumRes K f W)) ∧ True := by
  have h6 := nB_6 n F
  exact ⟨nB n F, _, by omega, fun A c W h => SHeightsOf_any A n c F W hn h, fun A W hW h => IHeightsOf_any A n n F W hW hn (Nat.le_refl _) h, trivial⟩
end Go.Proofs.YtblnchcgeepemaaDoor
