/- What orders of a block depend on, by the program: ticks and waits. -/
import Derived.Test.YtblnchcgeepemaaDoorW962
import Derived.Deep.CutRange
import Derived.Deep.RegionLaw
import Derived.StillTailTactics
namespace Go.Proofs.YtblnchcgeepemaaDoor
open Go.RowKit
set_option linter.unusedSimpArgs false
theorem IBlockOf_no (A : Option Addr) (n c : Nat) (F : Nat → Ins) (w : World) (hw : WT w) (hv : blB n F = false) (hn : n ≤ 9223372036854775807) (h : Code w A n F) :
    Calls Tryd.prog 17 #[.slice A n c] w fun e w' => e = .returned (.tuple #[.agg #[.slice none 0 0, .slice none 0 0], .bool false]) ∧ w.grownBy w' none := by
  have HV := shade (fun W (hW : WT W) (hC : Code W A n F) => IValidBlock_any A n c F W hW hn hC)
  rw [hv] at HV
  have HC := shade (h.alloc (.cells #[.slice none 0 0, .slice none 0 0] 41))
  have HW := shade (hw.alloc (.cells #[.slice none 0 0, .slice none 0 0] 41))
  have HX := shade (Holds5.fresh w 41 #[.slice none 0 0, .slice none 0 0])
  clear h hv hw
  go_enter Tryd.func17, Tryd.ntmps17
  go_wp2_with fail
  refine (HV.out _ HW.out HC.out).mono ?_
  rintro e w1 ⟨rfl, hg⟩
  have hx := HX.out.grown hg (by intro e; cases e)
  have x0 := hx.look 0; have x1 := hx.look 1
  have f0 := hx.free 0; have f1 := hx.free 1
  simp at x0 x1
  have hx2 := (hx.put 0 (.slice none 0 0)).put 1 (.slice none 0 0)
  simp at hx2
  have HX2 := shade hx2
  have HG := shade (grown_then (grown_then (grown_same (World.grownBy_alloc w _ none) hg) (grown_set w.heap.size 0 (.slice none 0 0)) (Nat.le_refl _)) (grown_set w.heap.size 1 (.slice none 0 0)) (Nat.le_refl _))
  clear hg HV hx hx2
  go_wp2_with fail
  obtain ⟨W2, hW2⟩ : ∃ W2, (w1.setCell ⟨w.heap.size, 0, none⟩ (.slice none 0 0)).setCell ⟨w.heap.size, 1, none⟩ (.slice none 0 0) = W2 := ⟨_, rfl⟩
  rw [hW2] at HX2 HG ⊢
  clear hW2 x0 x1
  have x0 := HX2.out.look 0; have x1 := HX2.out.look 1
  simp at x0 x1
  refine bodyPost_ret (by simp [results, Tryd.results17, go_sem, x0, x1]; try rfl) rfl ?_
  exact ⟨rfl, HG.out⟩
/-- What blockOf leaves of a block. -/
def BlkRes (n : Nat) (F : Nat → Ins) (w : World) (e : Ending) (w' : World) : Prop :=
  ∃ (tv wv : Value) (AS : Nat → Value), e = .returned (.tuple #[.agg #[tv, wv], .bool true]) ∧ w'.ownsRow w.heap.size 3 1 tv n (numL n (latF F)) ∧ Rws w' w.heap.size w'.heap.size wv n AS lnW (wtR F) ∧ (∀ j b, j < n → tv.ownBlock = some b → (AS j).ownBlock ≠ some b) ∧ w.grownBy w' none
theorem made_nil (n : Nat) : (madeCells #[Value.slice none 0 0] n).toList = (List.range n).map (fun _ => Value.slice none 0 0) := by
  unfold madeCells
  simp
  intro a _
  rw [Nat.mod_one]
  rfl
/-- How long the rows are: the first ones are whole; one is being made. -/
def lnO (i x : Nat) : Nat := if x < i then x else 0
def lnI (i j x : Nat) : Nat := if x < i then x else if x = i then j else 0
theorem lnO_zero (x : Nat) : 0 = lnO 0 x := by simp [lnO]
theorem lnI_zero (i x : Nat) : lnO i x = lnI i 0 x := by
  unfold lnO lnI
  split <;> simp
theorem lnI_last (i x : Nat) : lnI i i x = lnO (i + 1) x := by
  unfold lnO lnI
  repeat' split
  all_goals omega
theorem lnI_at (i j : Nat) : lnI i j i = j := by simp [lnI]
theorem lnI_other (i j k x : Nat) (h : x ≠ i) : lnI i j x = lnI i k x := by simp [lnI, h]
theorem s7 {W : World} {Bb cB : Nat} {t t2 : TypeId} {x y v0 v1 v2 v3 v4 : Value} (h1 : Holds5 W Bb t #[x, y]) (h2 : Holds5 W cB t2 #[v0, v1, v2, v3, v4]) :
    W.cell? ⟨Bb, 0, none⟩ = some (cellV W ⟨Bb, 0, none⟩) ∧ W.frozen? ⟨Bb, 0, none⟩ = false ∧ W.cell? ⟨cB, 0, none⟩ = some v0 ∧ W.cell? ⟨cB, 1, none⟩ = some v1 ∧ W.cell? ⟨cB, 2, none⟩ = some v2 ∧ W.cell? ⟨cB, 3, none⟩ = some v3 ∧ W.cell? ⟨cB, 4, none⟩ = some v4 :=
  ⟨cellV_is (h1.look 0), h1.free 0, h2.look 0, h2.look 1, h2.look 2, h2.look 3, h2.look 4⟩
set_option maxRecDepth 100000 in
set_option maxHeartbeats 8000000 in
theorem IBlockOf_yes (b off n c : Nat) (F : Nat → Ins) (w : World) (hw : WT w) (hcap : n ≤ c) (hv : blB n F = true) (h : Code w (some ⟨b, off, none⟩) n F) :
    Calls Tryd.prog 17 #[.slice (some ⟨b, off, none⟩) n c] w (BlkRes n F w) := by
  have hn := blB_6 hv
  have HB := shade (fun j (hj : j < n) => blI_v (blB_at hv hj))
  have HV := shade (fun W (hW : WT W) (hC : Code W (some ⟨b, off, none⟩) n F) => IValidBlock_any (some ⟨b, off, none⟩) n c F W hW (by omega) hC)
  rw [hv] at HV
  have H := shade h
  have HWT := shade hw
  have HC := shade (h.alloc (.cells #[.slice none 0 0, .slice none 0 0] 41))
  have HW := shade (hw.alloc (.cells #[.slice none 0 0, .slice none 0 0] 41))
  have HX := shade (Holds5.fresh w 41 #[.slice none 0 0, .slice none 0 0])
  clear h hv hw
  obtain ⟨i0, hi0, hz0, hz1, hz2⟩ := info_parts info41
  obtain ⟨i1, hi1, hy0, hy1, hy2⟩ := info_parts info3p
  have HI := shade (And.intro hi0 (And.intro hz0 (And.intro hz1 hz2)))
  have HJ := shade (And.intro hi1 (And.intro hy0 (And.intro hy1 hy2)))
  clear hi0 hz0 hz1 hz2 hi1 hy0 hy1 hy2
  go_enter Tryd.func17, Tryd.ntmps17
  go_wp2_with fail
  refine (HV.out _ HW.out HC.out).mono ?_
  rintro e w1 ⟨rfl, hg⟩
  have HX1 := shade (HX.out.grown hg (by intro e; cases e))
  have HG := shade (grown_same (World.grownBy_alloc w _ none) hg)
  have s1 := hg.size
  rw [World.size_alloc] at s1
  clear hg HV HX
  go_wp2_with (first
    | (at_make; refine wpList_make_full _ rfl _ _ 28 rfl w1.heap.size 25 i0 (.slice none 0 0) 1 Tryd.underlying28 HI.out.1 HI.out.2.1 HI.out.2.2.1 .i64 .i64 n n n rfl rfl rfl rfl (by rw [HI.out.2.2.2]; omega) (by unfold maxLen; omega) (Nat.le_refl _) ?_)
    | go_in)
  intro w3 hown3 hgr3
  rw [made_nil] at hown3
  have s3 := hgr3.size
  have hBx := Holds5.fresh w3 41 #[.slice none 0 0, .slice (some ⟨w1.heap.size, 0, none⟩) n n]
  have K0 := shade (show Bfs w (w3.alloc (.cells #[.slice none 0 0, .slice (some ⟨w1.heap.size, 0, none⟩) n n] 41)) w3.heap.size w1.heap.size n 0 (.slice none 0 0) (fun _ => .slice none 0 0) (fun _ => 0) F from ⟨hBx, World.ownsRow_nil _ _ _ _, ⟨⟨World.ownsRow.alloc (World.ownsRow.mono hown3 (by omega)) _, fun i hi => by
      have := (World.ownsRow.lt hown3 i hi).2
      simp
      omega⟩, fun j hj => ⟨World.ownsRow_nil _ _ _ _, fun _ h => (by cases h)⟩, fun i j b _ _ e => (by cases e)⟩, fun j b _ e => (by cases e), grown_same (grown_same HG.out hgr3) (World.grownBy_alloc _ _ none)⟩)
  have HX3 := shade ((HX1.out.grown hgr3 (by intro e; cases e)).alloc (.cells #[.slice none 0 0, .slice (some ⟨w1.heap.size, 0, none⟩) n n] 41))
  have hlB : w.heap.size < w3.heap.size := by omega
  have HBS := shade hlB
  clear hown3 hgr3 hBx HX1 HG HC HW hlB
  obtain ⟨Bb, hBb⟩ : ∃ Bb, w3.heap.size = Bb := ⟨_, rfl⟩
  obtain ⟨g, hgg⟩ : ∃ g, w1.heap.size = g := ⟨_, rfl⟩
  rw [hBb, hgg] at K0
  rw [hgg] at HX3
  rw [hBb] at HBS
  go_wp2_with fail
  try rw [hBb]
  try rw [hgg]
  clear hBb hgg
  go_loopw [19] (fun q wr => ∃ (i : Nat) (tv : Value) (AS : Nat → Value), i ≤ n ∧ q = .int .i64 (i : Int) ∧ Bfs w wr Bb g n i tv AS (lnO i) F ∧ Holds5 wr w.heap.size 41 #[.slice none 0 0, .slice none 0 0]) (fun q _ => n - (intOf q).toNat)
  case atStart => exact ⟨0, _, _, Nat.zero_le _, rfl, K0.out.congr (fun j _ => lnO_zero j), HX3.out⟩
  case round =>
    clear K0 HX3
    obtain ⟨i, tv, AS, hi, rfl, hb, hx⟩ := hrel
    have HB1 := shade hb; have HX := shade hx
    clear hb hx
    by_cases hin : i < n
    · obtain ⟨q0, q1, q2, q3, q4⟩ := (H.out.on HB1.out.low).five hin
      have HT := shade (fun W (hW : WT W) => ITicksOf_any (F i).op (F i).d (F i).a (F i).b (F i).k W hW)
      have htk : tkI ⟨(F i).op, (F i).d, (F i).a, (F i).b, (F i).k⟩ = latF F i := if_pos (HB.out i hin)
      rw [htk] at HT
      clear htk
      obtain ⟨l, hl⟩ : ∃ l, latF F i = l := ⟨_, rfl⟩
      rw [hl] at HT
      have HL := shade hl
      have HWO := shade (fun j (hj : j < n) W (hW : WT W) => waitOf_any (F j) (F i) (HB.out j hj) (HB.out i hin) W hW)
      have HF := shade (rfl : F i = F i)
      clear hl
      generalize hc : F i = cc at q0 q1 q2 q3 q4 HT HWO
      obtain ⟨op, d, a, b', kk⟩ := cc
      simp only [] at q0 q1 q2 q3 q4 HT HWO
      have HCC := shade hc
      clear hc
      go_upto_region 7 with (fail)
      have hcb := Holds5.fresh wr 32 #[.string op, .int .i64 d, .int .i64 a, .int .i64 b', .int .i64 kk]
      have hb2 := HB1.out.grown (World.grownBy_alloc wr (.cells #[.string op, .int .i64 d, .int .i64 a, .int .i64 b', .int .i64 kk] 32) none)
      have hx2 := HX.out.alloc (.cells #[.string op, .int .i64 d, .int .i64 a, .int .i64 b', .int .i64 kk] 32)
      have hxl := HX.out.inside
      obtain ⟨W0, hW0⟩ : ∃ W0, wr.alloc (.cells #[.string op, .int .i64 d, .int .i64 a, .int .i64 b', .int .i64 kk] 32) = W0 := ⟨_, rfl⟩
      obtain ⟨cB, hcB⟩ : ∃ cB, wr.heap.size = cB := ⟨_, rfl⟩
      rw [hcB] at hcb hxl
      rw [hW0] at hcb hb2 hx2 ⊢
      rw [hcB]
      have HB2 := shade (hb2.grown (grown_drew1 _))
      have HX2 := shade (hx2.drew)
      have HP2 := shade (hcb.drew)
      have HWd := shade (HWT.out.below (below_of_grown (grown_same hb2.low (grown_drew1 _))) (wt_lt HWT.out))
      have HNE := shade (show Bb ≠ cB from fun e => by
        have hh := hb2.box
        rw [e] at hh
        unfold Holds5 at hh hcb
        rw [hcb] at hh
        injection hh with hh
        injection hh with h1 h2
        exact absurd h2 (by decide))
      have HNX := shade (show Bb ≠ w.heap.size from fun e => by have := HBS.out; omega)
      have x0 := hb2.box.look 0
      have c0 := hcb.look 0; have c1 := hcb.look 1; have c2 := hcb.look 2; have c3 := hcb.look 3; have c4 := hcb.look 4
      simp at x0 c0 c1 c2 c3 c4
      clear hcb hb2 hx2 HB1 HX hW0 hcB hxl q0 q1 q2 q3 q4
      go_cut [] from 24 to 30 (fun wx => ∃ u, Bfs w wx Bb g n (i + 1) u AS (lnO i) F ∧ Holds5 wx cB 32 #[.string op, .int .i64 d, .int .i64 a, .int .i64 b', .int .i64 kk] ∧ Holds5 wx w.heap.size 41 #[.slice none 0 0, .slice none 0 0])
      case first =>
        go_region_law (first
          | (refine step_append_lies _ (by rfl) (.tmp 25) (.tmp 28) 25 (by rfl) w.heap.size 3 i1 (.int .i64 0) 1 8 Tryd.underlying25 HJ.out.1 HJ.out.2.1 HJ.out.2.2.1 HJ.out.2.2.2 rfl (by decide) tv i (numL i (latF F)) (by rfl) HBA.out.tk ⟨w4.heap.size, 0, none⟩ 1 1 [.int .i64 l] (by rfl) (by rfl) (int_new _ _ _) (int_one _) (by omega) (by unfold maxLen; omega) (by omega) (by have := HBA.out.low.size; omega) _ rfl ?_; intro g8 c8 w8 hown8 hgr8 hat8 hlt8; have P8 := HBA.out.box.grown hgr8 (fun e => HBA.out.tkne.1 e.symm); have y8 := P8.look 0; have f8 := P8.free 0; simp at y8; have HD := shade (HBA.out.tick (Nat.le_of_lt HBS.out) (by rw [numL_snoc' i _ l HL.out] at hown8; exact hown8) (fun r hr => by injection hr with hr; rw [← hr]; rcases hat8 with h8 | h8; exact .inl h8; exact .inr (Nat.le_of_eq h8.symm)) hgr8); have HPB := shade ((HPA.out.grown hgr8 (fun e => own_not_held HBA.out.tk HPA.out (by decide) e.symm)).other (p := ⟨Bb, 0, none⟩) HNE.out.symm (.slice (some ⟨g8, 0, none⟩) (i + 1) c8)); have HXB := shade ((HXA.out.grown hgr8 (fun e => own_not_held HBA.out.tk HXA.out (by decide) e.symm)).other (p := ⟨Bb, 0, none⟩) HNX.out.symm (.slice (some ⟨g8, 0, none⟩) (i + 1) c8)); clear P8 hown8 hgr8 hat8 hlt8)
          | (go_simp; go_at_call 10; refine (HT.out _ HWd.out).mono ?_; rintro e w4 ⟨rfl, hg4⟩; have HBA := shade ((HB2.out.grown hg4).grown (World.grownBy_alloc w4 (.cells #[.int .i64 l] 3) none)); have HPA := shade ((HP2.out.grown hg4 (by intro e; cases e)).alloc (.cells #[.int .i64 l] 3)); have HXA := shade ((HX2.out.grown hg4 (by intro e; cases e)).alloc (.cells #[.int .i64 l] 3)); have x4 := (HB2.out.grown hg4).box.look 0; have xa := HBA.out.box.look 0; simp at x4 xa; clear hg4))
        all_goals (go_wp2_with fail; go_meet; exact ⟨_, HD.out, HPB.out, HXB.out⟩)
      case rest =>
        clear HB2 HX2 HP2 HWd x0 c0 c1 c2 c3 c4
        obtain ⟨u, hb, hc, hx⟩ := hcut
        have HB1 := shade hb; have HC1 := shade hc; have HX1 := shade hx
        clear hb hc hx
        have ic : (i : Int) ≤ (c : Int) := by omega
        have ic0 : (0 : Int) ≤ (i : Int) := by omega
        go_wp2_with fail
        go_loopw [35] (fun q wq => ∃ (j : Nat) (AS' : Nat → Value), j ≤ i ∧ q = .int .i64 (j : Int) ∧ Bfs w wq Bb g n (i + 1) u AS' (lnI i j) F ∧ Holds5 wq cB 32 #[.string op, .int .i64 d, .int .i64 a, .int .i64 b', .int .i64 kk] ∧ Holds5 wq w.heap.size 41 #[.slice none 0 0, .slice none 0 0]) (fun q _ => i - (intOf q).toNat)
        case atStart => exact ⟨0, AS, Nat.zero_le _, rfl, HB1.out.congr (fun j _ => lnI_zero i j), HC1.out, HX1.out⟩
        case round =>
          clear HB1 HC1 HX1
          obtain ⟨j, AS', hj, rfl, hb, hc, hx⟩ := hrel
          have HB1 := shade hb; have HC1 := shade hc; have HX1 := shade hx
          clear hb hc hx
          by_cases hji : j < i
          · obtain ⟨q0, q1, q2, q3, q4⟩ := (H.out.on HB1.out.low).five (show j < n by omega)
            have HW1 := shade (HWO.out j (by omega))
            obtain ⟨x, hx⟩ : ∃ x, wtR F i j = x := ⟨_, rfl⟩
            have hwx : wtI (F j) ⟨op, d, a, b', kk⟩ = x := by
              rw [← HCC.out]
              exact hx
            rw [hwx] at HW1
            have HXR := shade hx
            clear hx hwx
            generalize hc2 : F j = cc2 at q0 q1 q2 q3 q4 HW1
            obtain ⟨op2, d2, a2, b2', kk2⟩ := cc2
            simp only [] at q0 q1 q2 q3 q4 HW1
            clear hc2
            have iq : (i : Int) < (n : Int) := by omega
            have iq0 : (0 : Int) ≤ (i : Int) := by omega
            go_upto_region 11 with (fail)
            have hcb := Holds5.fresh wr 32 #[.string op2, .int .i64 d2, .int .i64 a2, .int .i64 b2', .int .i64 kk2]
            have hb2 := HB1.out.grown (World.grownBy_alloc wr (.cells #[.string op2, .int .i64 d2, .int .i64 a2, .int .i64 b2', .int .i64 kk2] 32) none)
            have hc2 := HC1.out.alloc (.cells #[.string op2, .int .i64 d2, .int .i64 a2, .int .i64 b2', .int .i64 kk2] 32)
            have hx2 := HX1.out.alloc (.cells #[.string op2, .int .i64 d2, .int .i64 a2, .int .i64 b2', .int .i64 kk2] 32)
            obtain ⟨W1, hW1⟩ : ∃ W1, wr.alloc (.cells #[.string op2, .int .i64 d2, .int .i64 a2, .int .i64 b2', .int .i64 kk2] 32) = W1 := ⟨_, rfl⟩
            obtain ⟨aB, haB⟩ : ∃ aB, wr.heap.size = aB := ⟨_, rfl⟩
            rw [haB] at hcb
            rw [hW1] at hcb hb2 hc2 hx2 ⊢
            rw [haB]
            have HB2 := shade (hb2.grown (grown_drew1 _))
            have HX2 := shade (hx2.drew)
            have HP2 := shade (hc2.drew)
            have HQ2 := shade (hcb.drew)
            have HWd := shade (HWT.out.below (below_of_grown (grown_same hb2.low (grown_drew1 _))) (wt_lt HWT.out))
            have x0 := hb2.box.look 1
            have y0 := (hb2.rcell hin).1
            have c0 := hc2.look 0; have c1 := hc2.look 1; have c2 := hc2.look 2; have c3 := hc2.look 3; have c4 := hc2.look 4
            have d0 := hcb.look 0; have d1 := hcb.look 1; have d2' := hcb.look 2; have d3 := hcb.look 3; have d4 := hcb.look 4
            simp at x0 c0 c1 c2 c3 c4 d0 d1 d2' d3 d4
            clear hcb hb2 hc2 hx2 HB1 HX1 HC1 hW1 haB q0 q1 q2 q3 q4
            obtain ⟨rv, hrv⟩ : ∃ rv, AS' i = rv := ⟨_, rfl⟩
            rw [hrv] at y0
            have HRF := shade (fun (V : World) (h : Bfs w V Bb g n (i + 1) u AS' (lnI i j) F) => show V.ownsRow w.heap.size 3 1 rv j (numL j (wtR F i)) from by
              have := (h.ws.row i hin).own
              rw [hrv, lnI_at] at this
              exact this)
            have HAP := shade (fun (V w8 : World) (g8 c8 H8 : Nat) (h : Bfs w V Bb g n (i + 1) u AS' (lnI i j) F) (hown : w8.ownsRow w.heap.size 3 1 (.slice (some ⟨g8, 0, none⟩) (j + 1) c8) (j + 1) (numL j (wtR F i) ++ [.int .i64 x])) (hg : V.grownBy w8 rv.ownBlock) (hat : rv.ownBlock = some g8 ∨ g8 = H8) (hH : H8 = V.heap.size) =>
              show (w8.cell? ⟨g, i, none⟩ = some rv ∧ w8.frozen? ⟨g, i, none⟩ = false ∧ w8.cell? ⟨Bb, 1, none⟩ = some (.slice (some ⟨g, 0, none⟩) n n)) ∧ Bfs w (w8.setCell ⟨g, i, none⟩ (.slice (some ⟨g8, 0, none⟩) (j + 1) c8)) Bb g n (i + 1) u (fun x => if x = i then .slice (some ⟨g8, 0, none⟩) (j + 1) c8 else AS' x) (lnI i (j + 1)) F from by
              rw [← hrv] at hg hat
              have h1 := h.outer hg (fun e => (h.rowne hin).2 e.symm) hin
              rw [hrv] at h1
              refine ⟨⟨h1.1, h1.2, (h.box.grown hg (fun e => (h.rowne hin).1 e.symm)).look 1⟩, h.wait hin ?_ (fun r hr => ?_) hg (fun x _ hx => lnI_other i (j + 1) j x hx)⟩
              · rw [lnI_at]
                rw [numL_snoc' j _ x HXR.out] at hown
                exact hown
              · obtain rfl : g8 = r := by injection hr
                rcases hat with h8 | h8
                · exact .inl h8
                · exact .inr (Nat.le_of_eq (hH.symm.trans h8.symm)))
            have HKP := shade (fun (V w8 : World) (q : Nat) (t : TypeId) (csx : Array Value) (v8 : Value) (h : Bfs w V Bb g n (i + 1) u AS' (lnI i j) F) (hq : Holds5 V q t csx) (ht : (3 : TypeId) ≠ t) (ht2 : 25 ≠ t) (hg : V.grownBy w8 rv.ownBlock) => show Holds5 (w8.setCell ⟨g, i, none⟩ v8) q t csx from by
              rw [← hrv] at hg
              refine (hq.grown hg (fun e => own_not_held (h.ws.row i hin).own hq ht e.symm)).other (p := ⟨g, i, none⟩) (fun e => own_not_held h.ws.out.own hq ht2 (by show some g = some q; rw [e])) v8)
            have HSK := shade (fun (V : World) (t' : Value) (h1 : Holds5 V Bb 41 #[t', .slice (some ⟨g, 0, none⟩) n n]) (h2 : Holds5 V cB 32 #[.string op, .int .i64 d, .int .i64 a, .int .i64 b', .int .i64 kk]) (h3 : Holds5 V aB 32 #[.string op2, .int .i64 d2, .int .i64 a2, .int .i64 b2', .int .i64 kk2]) => show V.cell? ⟨Bb, 1, none⟩ = some (.slice (some ⟨g, 0, none⟩) n n) ∧ V.cell? ⟨cB, 0, none⟩ = some (.string op) ∧ V.cell? ⟨cB, 1, none⟩ = some (.int .i64 d) ∧ V.cell? ⟨cB, 2, none⟩ = some (.int .i64 a) ∧ V.cell? ⟨cB, 3, none⟩ = some (.int .i64 b') ∧ V.cell? ⟨cB, 4, none⟩ = some (.int .i64 kk) ∧ V.cell? ⟨aB, 0, none⟩ = some (.string op2) ∧ V.cell? ⟨aB, 1, none⟩ = some (.int .i64 d2) ∧ V.cell? ⟨aB, 2, none⟩ = some (.int .i64 a2) ∧ V.cell? ⟨aB, 3, none⟩ = some (.int .i64 b2') ∧ V.cell? ⟨aB, 4, none⟩ = some (.int .i64 kk2) from ⟨h1.look 1, h2.look 0, h2.look 1, h2.look 2, h2.look 3, h2.look 4, h3.look 0, h3.look 1, h3.look 2, h3.look 3, h3.look 4⟩)
            have HS0 := shade (HSK.out _ _ HB2.out.box HP2.out HQ2.out)
            have HSR := shade (fun (V w8 : World) (h : Bfs w V Bb g n (i + 1) u AS' (lnI i j) F) (h2 : Holds5 V cB 32 #[.string op, .int .i64 d, .int .i64 a, .int .i64 b', .int .i64 kk]) (h3 : Holds5 V aB 32 #[.string op2, .int .i64 d2, .int .i64 a2, .int .i64 b2', .int .i64 kk2]) (hg : V.grownBy w8 rv.ownBlock) => HSK.out w8 _ (h.box.grown hg (fun e => (h.rowne hin).1 (by rw [hrv]; exact e.symm))) (h2.grown hg (fun e => own_not_held (h.ws.row i hin).own h2 (by decide) (by rw [hrv]; exact e.symm))) (h3.grown hg (fun e => own_not_held (h.ws.row i hin).own h3 (by decide) (by rw [hrv]; exact e.symm))))
            have HRC := shade (fun (V : World) (h : Bfs w V Bb g n (i + 1) u AS' (lnI i j) F) => show V.cell? ⟨g, i, none⟩ = some rv from by rw [← hrv]; exact (h.rcell hin).1)
            clear hrv
            refine wp_region_held_drew (S := fun w' => w'.cell? ⟨Bb, 1, none⟩ = some (.slice (some ⟨g, 0, none⟩) n n) ∧ w'.cell? ⟨cB, 0, none⟩ = some (.string op) ∧ w'.cell? ⟨cB, 1, none⟩ = some (.int .i64 d) ∧ w'.cell? ⟨cB, 2, none⟩ = some (.int .i64 a) ∧ w'.cell? ⟨cB, 3, none⟩ = some (.int .i64 b') ∧ w'.cell? ⟨cB, 4, none⟩ = some (.int .i64 kk) ∧ w'.cell? ⟨aB, 0, none⟩ = some (.string op2) ∧ w'.cell? ⟨aB, 1, none⟩ = some (.int .i64 d2) ∧ w'.cell? ⟨aB, 2, none⟩ = some (.int .i64 a2) ∧ w'.cell? ⟨aB, 3, none⟩ = some (.int .i64 b2') ∧ w'.cell? ⟨aB, 4, none⟩ = some (.int .i64 kk2)) (by kernel_rfl) (HS0.out) (fun hHeld => ?_)
            refine wpAnyH_take (i := 0) (oi := { dst := some 39, op := Op.fieldAddr 41 (Operand.tmp 4) 1, type := 0, pos := "c7_plan.go:23", after := #[], guard := none }) (v := ?_) rfl (by kernel_rfl) (by kernel_rfl) (by kernel_rfl) (fun _ _ _ h => h) (Or.inl ⟨by rfl, ?_⟩) (by assumption) ?_
            rotate_left
            · intro w' hSw
              (try dsimp only at hSw)
              go_simp
              try with_reducible rfl
            try simp only [Act.put, List.setIfInBounds_toArray, List.set_cons_zero, List.set_cons_succ]
            refine wpAnyH_take (i := 1) (oi := { dst := some 40, op := Op.load 28 (Operand.tmp 39), type := 28, pos := "c7_plan.go:23", after := #[{ on := 0, ground := Ground.data }], guard := none }) (v := ?_) rfl (by kernel_rfl) (by kernel_rfl) (by kernel_rfl) (fun _ _ _ h => h) (Or.inl ⟨by rfl, ?_⟩) (by assumption) ?_
            rotate_left
            · intro w' hSw
              (try dsimp only at hSw)
              go_simp
              try with_reducible rfl
            try simp only [Act.put, List.setIfInBounds_toArray, List.set_cons_zero, List.set_cons_succ]
            refine wpAnyH_take (i := 2) (oi := { dst := some 41, op := Op.move (Operand.tmp 5), type := 3, pos := "c7_plan.go:23", after := #[], guard := none }) (v := ?_) rfl (by kernel_rfl) (by kernel_rfl) (by kernel_rfl) (fun _ _ _ h => h) (Or.inl ⟨by rfl, ?_⟩) (by assumption) ?_
            rotate_left
            · intro w' hSw
              (try dsimp only at hSw)
              go_simp
              try with_reducible rfl
            try simp only [Act.put, List.setIfInBounds_toArray, List.set_cons_zero, List.set_cons_succ]
            refine wpAnyH_take (i := 3) (oi := { dst := some 42, op := Op.fieldAddr 41 (Operand.tmp 4) 1, type := 0, pos := "c7_plan.go:23", after := #[], guard := none }) (v := ?_) rfl (by kernel_rfl) (by kernel_rfl) (by kernel_rfl) (fun _ _ _ h => h) (Or.inl ⟨by rfl, ?_⟩) (by assumption) ?_
            rotate_left
            · intro w' hSw
              (try dsimp only at hSw)
              go_simp
              try with_reducible rfl
            try simp only [Act.put, List.setIfInBounds_toArray, List.set_cons_zero, List.set_cons_succ]
            refine wpAnyH_take (i := 4) (oi := { dst := some 43, op := Op.load 28 (Operand.tmp 42), type := 28, pos := "c7_plan.go:23", after := #[{ on := 3, ground := Ground.data }], guard := none }) (v := ?_) rfl (by kernel_rfl) (by kernel_rfl) (by kernel_rfl) (fun _ _ _ h => h) (Or.inl ⟨by rfl, ?_⟩) (by assumption) ?_
            rotate_left
            · intro w' hSw
              (try dsimp only at hSw)
              go_simp
              try with_reducible rfl
            try simp only [Act.put, List.setIfInBounds_toArray, List.set_cons_zero, List.set_cons_succ]
            refine wpAnyH_take (i := 5) (oi := { dst := some 44, op := Op.move (Operand.tmp 5), type := 3, pos := "c7_plan.go:23", after := #[], guard := none }) (v := ?_) rfl (by kernel_rfl) (by kernel_rfl) (by kernel_rfl) (fun _ _ _ h => h) (Or.inl ⟨by rfl, ?_⟩) (by assumption) ?_
            rotate_left
            · intro w' hSw
              (try dsimp only at hSw)
              go_simp
              try with_reducible rfl
            try simp only [Act.put, List.setIfInBounds_toArray, List.set_cons_zero, List.set_cons_succ]
            refine wpAnyH_take (i := 6) (oi := { dst := some 45, op := Op.indexAddr 28 (Operand.tmp 43) (Operand.tmp 44), type := 0, pos := "c7_plan.go:23", after := #[{ on := 4, ground := Ground.data }, { on := 5, ground := Ground.data }], guard := none }) (v := ?_) rfl (by kernel_rfl) (by kernel_rfl) (by kernel_rfl) (fun _ _ _ h => h) (Or.inl ⟨by rfl, ?_⟩) (by assumption) ?_
            rotate_left
            · intro w' hSw
              (try dsimp only at hSw)
              go_simp
              try with_reducible rfl
            try simp only [Act.put, List.setIfInBounds_toArray, List.set_cons_zero, List.set_cons_succ]
            refine wpAnyH_take (i := 8) (oi := { dst := some 47, op := Op.load 32 (Operand.tmp 6), type := 32, pos := "c7_plan.go:23", after := #[], guard := none }) (v := ?_) rfl (by kernel_rfl) (by kernel_rfl) (by kernel_rfl) (fun _ _ _ h => h) (Or.inl ⟨by rfl, ?_⟩) (by assumption) ?_
            rotate_left
            · intro w' hSw
              (try dsimp only at hSw)
              go_simp
              try with_reducible rfl
            try simp only [Act.put, List.setIfInBounds_toArray, List.set_cons_zero, List.set_cons_succ]
            refine wpAnyH_take (i := 9) (oi := { dst := some 48, op := Op.load 32 (Operand.tmp 8), type := 32, pos := "c7_plan.go:23", after := #[], guard := none }) (v := ?_) rfl (by kernel_rfl) (by kernel_rfl) (by kernel_rfl) (fun _ _ _ h => h) (Or.inl ⟨by rfl, ?_⟩) (by assumption) ?_
            rotate_left
            · intro w' hSw
              (try dsimp only at hSw)
              go_simp
              try with_reducible rfl
            try simp only [Act.put, List.setIfInBounds_toArray, List.set_cons_zero, List.set_cons_succ]
            refine wpAnyH_ready (rs := [7, 10]) (by kernel_rfl) (by simp) ?_
            refine AllReadyH.cons (o := { dst := some 46, op := Op.load 25 (Operand.tmp 45), type := 25, pos := "c7_plan.go:23", after := #[{ on := 6, ground := Ground.data }], guard := none }) rfl (fun K hK => ?_) ?_
            · go_simp
              refine hK.out _ _ ?_ (fun hHeld => ?_)
              · (try dsimp only)
                first | exact HS4.out | exact HS3.out | exact HS2.out | exact HS1.out | exact HS0.out
              clear hK K
              try simp only [Act.put, List.setIfInBounds_toArray, List.set_cons_zero, List.set_cons_succ]
              refine wpAnyH_ready (rs := [10]) (by kernel_rfl) (by simp) ?_
              refine AllReadyH.cons (o := { dst := some 49, op := Op.call { callee := Callee.value (Operand.func 36), args := #[Operand.tmp 47, Operand.tmp 48], argTypes := #[32, 32] }, type := 3, pos := "c7_plan.go:23", after := #[{ on := 8, ground := Ground.data }, { on := 9, ground := Ground.data }], guard := none }) rfl (fun K hK => ?_) ?_
              · go_simp
                go_at_call 36
                refine (HW1.out _ HWd.out).mono ?_
                rintro e w4 ⟨rfl, hg4⟩
                have hba := (HB2.out.grown hg4).grown (World.grownBy_alloc w4 (.cells #[.int .i64 x] 3) none)
                have HS1 := shade (HSK.out w4 _ (HB2.out.grown hg4).box (HP2.out.grown hg4 (by intro e; cases e)) (HQ2.out.grown hg4 (by intro e; cases e)))
                have HS2 := shade (HSK.out _ _ hba.box ((HP2.out.grown hg4 (by intro e; cases e)).alloc _) ((HQ2.out.grown hg4 (by intro e; cases e)).alloc _))
                have HBA := shade hba
                have HPA := shade ((HP2.out.grown hg4 (by intro e; cases e)).alloc (.cells #[.int .i64 x] 3))
                have HQA := shade ((HQ2.out.grown hg4 (by intro e; cases e)).alloc (.cells #[.int .i64 x] 3))
                have HXA := shade ((HX2.out.grown hg4 (by intro e; cases e)).alloc (.cells #[.int .i64 x] 3))
                have y4 := HRC.out _ (HB2.out.grown hg4)
                have ya := HRC.out _ hba
                clear hg4 hba
                refine hK.out _ _ ?_ (fun hHeld => ?_)
                · (try dsimp only)
                  first | exact HS4.out | exact HS3.out | exact HS2.out | exact HS1.out | exact HS0.out
                clear hK K
                try simp only [Act.put, List.setIfInBounds_toArray, List.set_cons_zero, List.set_cons_succ]
                refine wpAnyH_ready (rs := [11]) (by kernel_rfl) (by simp) ?_
                refine AllReadyH.cons (o := { dst := some 50, op := Op.buildSlice 25 1 #[(0, Operand.tmp 49)], type := 25, pos := "c7_plan.go:23", after := #[{ on := 10, ground := Ground.data }], guard := none }) rfl (fun K hK => ?_) ?_
                · go_simp
                  refine hK.out _ _ ?_ (fun hHeld => ?_)
                  · (try dsimp only)
                    first | exact HS4.out | exact HS3.out | exact HS2.out | exact HS1.out | exact HS0.out
                  clear hK K
                  try simp only [Act.put, List.setIfInBounds_toArray, List.set_cons_zero, List.set_cons_succ]
                  refine wpAnyH_ready (rs := [12]) (by kernel_rfl) (by simp) ?_
                  refine AllReadyH.cons (o := { dst := some 51, op := Op.call { callee := Callee.builtin Builtin.append, args := #[Operand.tmp 46, Operand.tmp 50], argTypes := #[25, 25] }, type := 25, pos := "c7_plan.go:23", after := #[{ on := 7, ground := Ground.data }, { on := 11, ground := Ground.data }, { on := 10, ground := Ground.chain }], guard := none }) rfl (fun K hK => ?_) ?_
                  · refine step_append_lies _ (by rfl) (.tmp 46) (.tmp 50) 25 (by rfl) w.heap.size 3 i1 (.int .i64 0) 1 8 Tryd.underlying25 HJ.out.1 HJ.out.2.1 HJ.out.2.2.1 HJ.out.2.2.2 rfl (by decide) rv j (numL j (wtR F i)) (by rfl) (HRF.out _ HBA.out) ⟨w4.heap.size, 0, none⟩ 1 1 [.int .i64 x] (by rfl) (by rfl) (int_new _ _ _) (int_one _) (by omega) (by unfold maxLen; omega) (by omega) (by have := HBA.out.low.size; omega) _ rfl ?_
                    intro g8 c8 w8 hown8 hgr8 hat8 hlt8
                    have HD := shade (HAP.out _ _ _ _ _ HBA.out hown8 hgr8 hat8 rfl)
                    have y8 := HD.out.1.1
                    have f8 := HD.out.1.2.1
                    have HPB := shade (HKP.out _ _ _ _ _ (.slice (some ⟨g8, 0, none⟩) (j + 1) c8) HBA.out HPA.out (by decide) (by decide) hgr8)
                    have HXB := shade (HKP.out _ _ _ _ _ (.slice (some ⟨g8, 0, none⟩) (j + 1) c8) HBA.out HXA.out (by decide) (by decide) hgr8)
                    have HQB := shade (HKP.out _ _ _ _ _ (.slice (some ⟨g8, 0, none⟩) (j + 1) c8) HBA.out HQA.out (by decide) (by decide) hgr8)
                    have HS3 := shade (HSR.out _ _ HBA.out HPA.out HQA.out hgr8)
                    have HS4 := shade (HSK.out _ _ HD.out.2.box HPB.out HQB.out)
                    clear hown8 hgr8 hat8 hlt8
                    refine hK.out _ _ ?_ (fun hHeld => ?_)
                    · (try dsimp only)
                      first | exact HS4.out | exact HS3.out | exact HS2.out | exact HS1.out | exact HS0.out
                    clear hK K
                    try simp only [Act.put, List.setIfInBounds_toArray, List.set_cons_zero, List.set_cons_succ]
                    refine wpAnyH_ready (rs := [13]) (by kernel_rfl) (by simp) ?_
                    refine AllReadyH.cons (o := { dst := some 52, op := Op.indexAddr 28 (Operand.tmp 40) (Operand.tmp 41), type := 0, pos := "c7_plan.go:23", after := #[{ on := 1, ground := Ground.data }, { on := 2, ground := Ground.data }, { on := 0, ground := Ground.phase }, { on := 1, ground := Ground.phase }, { on := 2, ground := Ground.phase }, { on := 3, ground := Ground.phase }, { on := 4, ground := Ground.phase }, { on := 5, ground := Ground.phase }, { on := 6, ground := Ground.phase }, { on := 7, ground := Ground.phase }, { on := 8, ground := Ground.phase }, { on := 9, ground := Ground.phase }, { on := 10, ground := Ground.phase }, { on := 11, ground := Ground.phase }, { on := 12, ground := Ground.phase }], guard := none }) rfl (fun K hK => ?_) ?_
                    · go_simp
                      refine hK.out _ _ ?_ (fun hHeld => ?_)
                      · (try dsimp only)
                        first | exact HS4.out | exact HS3.out | exact HS2.out | exact HS1.out | exact HS0.out
                      clear hK K
                      try simp only [Act.put, List.setIfInBounds_toArray, List.set_cons_zero, List.set_cons_succ]
                      refine wpAnyH_ready (rs := [14]) (by kernel_rfl) (by simp) ?_
                      refine AllReadyH.cons (o := { dst := none, op := Op.store 25 (Operand.tmp 52) (Operand.tmp 51), type := 0, pos := "c7_plan.go:23", after := #[{ on := 13, ground := Ground.data }, { on := 12, ground := Ground.data }, { on := 12, ground := Ground.chain }, { on := 0, ground := Ground.phase }, { on := 1, ground := Ground.phase }, { on := 2, ground := Ground.phase }, { on := 3, ground := Ground.phase }, { on := 4, ground := Ground.phase }, { on := 5, ground := Ground.phase }, { on := 6, ground := Ground.phase }, { on := 7, ground := Ground.phase }, { on := 8, ground := Ground.phase }, { on := 9, ground := Ground.phase }, { on := 10, ground := Ground.phase }, { on := 11, ground := Ground.phase }, { on := 12, ground := Ground.phase }], guard := none }) rfl (fun K hK => ?_) ?_
                      · go_simp
                        refine hK.out _ _ ?_ (fun hHeld => ?_)
                        · (try dsimp only)
                          first | exact HS4.out | exact HS3.out | exact HS2.out | exact HS1.out | exact HS0.out
                        clear hK K
                        try simp only [Act.put, List.setIfInBounds_toArray, List.set_cons_zero, List.set_cons_succ]
                        refine wpAnyH_done (by kernel_rfl) ?_ _
                        clear hHeld
                        go_wp2_with fail
                        go_roundw
                        case rel => exact ⟨j + 1, _, by omega, by go_num, HD.out.2, HPB.out, HXB.out⟩
                        case measure => simp [intOf]; omega
                      exact AllReadyH.nil
                    exact AllReadyH.nil
                  exact AllReadyH.nil
                exact AllReadyH.nil
              exact AllReadyH.nil
            refine AllReadyH.cons (o := { dst := some 49, op := Op.call { callee := Callee.value (Operand.func 36), args := #[Operand.tmp 47, Operand.tmp 48], argTypes := #[32, 32] }, type := 3, pos := "c7_plan.go:23", after := #[{ on := 8, ground := Ground.data }, { on := 9, ground := Ground.data }], guard := none }) rfl (fun K hK => ?_) ?_
            · go_simp
              go_at_call 36
              refine (HW1.out _ HWd.out).mono ?_
              rintro e w4 ⟨rfl, hg4⟩
              have hba := (HB2.out.grown hg4).grown (World.grownBy_alloc w4 (.cells #[.int .i64 x] 3) none)
              have HS1 := shade (HSK.out w4 _ (HB2.out.grown hg4).box (HP2.out.grown hg4 (by intro e; cases e)) (HQ2.out.grown hg4 (by intro e; cases e)))
              have HS2 := shade (HSK.out _ _ hba.box ((HP2.out.grown hg4 (by intro e; cases e)).alloc _) ((HQ2.out.grown hg4 (by intro e; cases e)).alloc _))
              have HBA := shade hba
              have HPA := shade ((HP2.out.grown hg4 (by intro e; cases e)).alloc (.cells #[.int .i64 x] 3))
              have HQA := shade ((HQ2.out.grown hg4 (by intro e; cases e)).alloc (.cells #[.int .i64 x] 3))
              have HXA := shade ((HX2.out.grown hg4 (by intro e; cases e)).alloc (.cells #[.int .i64 x] 3))
              have y4 := HRC.out _ (HB2.out.grown hg4)
              have ya := HRC.out _ hba
              clear hg4 hba
              refine hK.out _ _ ?_ (fun hHeld => ?_)
              · (try dsimp only)
                first | exact HS4.out | exact HS3.out | exact HS2.out | exact HS1.out | exact HS0.out
              clear hK K
              try simp only [Act.put, List.setIfInBounds_toArray, List.set_cons_zero, List.set_cons_succ]
              refine wpAnyH_ready (rs := [7, 11]) (by kernel_rfl) (by simp) ?_
              refine AllReadyH.cons (o := { dst := some 46, op := Op.load 25 (Operand.tmp 45), type := 25, pos := "c7_plan.go:23", after := #[{ on := 6, ground := Ground.data }], guard := none }) rfl (fun K hK => ?_) ?_
              · go_simp
                refine hK.out _ _ ?_ (fun hHeld => ?_)
                · (try dsimp only)
                  first | exact HS4.out | exact HS3.out | exact HS2.out | exact HS1.out | exact HS0.out
                clear hK K
                try simp only [Act.put, List.setIfInBounds_toArray, List.set_cons_zero, List.set_cons_succ]
                refine wpAnyH_ready (rs := [11]) (by kernel_rfl) (by simp) ?_
                refine AllReadyH.cons (o := { dst := some 50, op := Op.buildSlice 25 1 #[(0, Operand.tmp 49)], type := 25, pos := "c7_plan.go:23", after := #[{ on := 10, ground := Ground.data }], guard := none }) rfl (fun K hK => ?_) ?_
                · go_simp
                  refine hK.out _ _ ?_ (fun hHeld => ?_)
                  · (try dsimp only)
                    first | exact HS4.out | exact HS3.out | exact HS2.out | exact HS1.out | exact HS0.out
                  clear hK K
                  try simp only [Act.put, List.setIfInBounds_toArray, List.set_cons_zero, List.set_cons_succ]
                  refine wpAnyH_ready (rs := [12]) (by kernel_rfl) (by simp) ?_
                  refine AllReadyH.cons (o := { dst := some 51, op := Op.call { callee := Callee.builtin Builtin.append, args := #[Operand.tmp 46, Operand.tmp 50], argTypes := #[25, 25] }, type := 25, pos := "c7_plan.go:23", after := #[{ on := 7, ground := Ground.data }, { on := 11, ground := Ground.data }, { on := 10, ground := Ground.chain }], guard := none }) rfl (fun K hK => ?_) ?_
                  · refine step_append_lies _ (by rfl) (.tmp 46) (.tmp 50) 25 (by rfl) w.heap.size 3 i1 (.int .i64 0) 1 8 Tryd.underlying25 HJ.out.1 HJ.out.2.1 HJ.out.2.2.1 HJ.out.2.2.2 rfl (by decide) rv j (numL j (wtR F i)) (by rfl) (HRF.out _ HBA.out) ⟨w4.heap.size, 0, none⟩ 1 1 [.int .i64 x] (by rfl) (by rfl) (int_new _ _ _) (int_one _) (by omega) (by unfold maxLen; omega) (by omega) (by have := HBA.out.low.size; omega) _ rfl ?_
                    intro g8 c8 w8 hown8 hgr8 hat8 hlt8
                    have HD := shade (HAP.out _ _ _ _ _ HBA.out hown8 hgr8 hat8 rfl)
                    have y8 := HD.out.1.1
                    have f8 := HD.out.1.2.1
                    have HPB := shade (HKP.out _ _ _ _ _ (.slice (some ⟨g8, 0, none⟩) (j + 1) c8) HBA.out HPA.out (by decide) (by decide) hgr8)
                    have HXB := shade (HKP.out _ _ _ _ _ (.slice (some ⟨g8, 0, none⟩) (j + 1) c8) HBA.out HXA.out (by decide) (by decide) hgr8)
                    have HQB := shade (HKP.out _ _ _ _ _ (.slice (some ⟨g8, 0, none⟩) (j + 1) c8) HBA.out HQA.out (by decide) (by decide) hgr8)
                    have HS3 := shade (HSR.out _ _ HBA.out HPA.out HQA.out hgr8)
                    have HS4 := shade (HSK.out _ _ HD.out.2.box HPB.out HQB.out)
                    clear hown8 hgr8 hat8 hlt8
                    refine hK.out _ _ ?_ (fun hHeld => ?_)
                    · (try dsimp only)
                      first | exact HS4.out | exact HS3.out | exact HS2.out | exact HS1.out | exact HS0.out
                    clear hK K
                    try simp only [Act.put, List.setIfInBounds_toArray, List.set_cons_zero, List.set_cons_succ]
                    refine wpAnyH_ready (rs := [13]) (by kernel_rfl) (by simp) ?_
                    refine AllReadyH.cons (o := { dst := some 52, op := Op.indexAddr 28 (Operand.tmp 40) (Operand.tmp 41), type := 0, pos := "c7_plan.go:23", after := #[{ on := 1, ground := Ground.data }, { on := 2, ground := Ground.data }, { on := 0, ground := Ground.phase }, { on := 1, ground := Ground.phase }, { on := 2, ground := Ground.phase }, { on := 3, ground := Ground.phase }, { on := 4, ground := Ground.phase }, { on := 5, ground := Ground.phase }, { on := 6, ground := Ground.phase }, { on := 7, ground := Ground.phase }, { on := 8, ground := Ground.phase }, { on := 9, ground := Ground.phase }, { on := 10, ground := Ground.phase }, { on := 11, ground := Ground.phase }, { on := 12, ground := Ground.phase }], guard := none }) rfl (fun K hK => ?_) ?_
                    · go_simp
                      refine hK.out _ _ ?_ (fun hHeld => ?_)
                      · (try dsimp only)
                        first | exact HS4.out | exact HS3.out | exact HS2.out | exact HS1.out | exact HS0.out
                      clear hK K
                      try simp only [Act.put, List.setIfInBounds_toArray, List.set_cons_zero, List.set_cons_succ]
                      refine wpAnyH_ready (rs := [14]) (by kernel_rfl) (by simp) ?_
                      refine AllReadyH.cons (o := { dst := none, op := Op.store 25 (Operand.tmp 52) (Operand.tmp 51), type := 0, pos := "c7_plan.go:23", after := #[{ on := 13, ground := Ground.data }, { on := 12, ground := Ground.data }, { on := 12, ground := Ground.chain }, { on := 0, ground := Ground.phase }, { on := 1, ground := Ground.phase }, { on := 2, ground := Ground.phase }, { on := 3, ground := Ground.phase }, { on := 4, ground := Ground.phase }, { on := 5, ground := Ground.phase }, { on := 6, ground := Ground.phase }, { on := 7, ground := Ground.phase }, { on := 8, ground := Ground.phase }, { on := 9, ground := Ground.phase }, { on := 10, ground := Ground.phase }, { on := 11, ground := Ground.phase }, { on := 12, ground := Ground.phase }], guard := none }) rfl (fun K hK => ?_) ?_
                      · go_simp
                        refine hK.out _ _ ?_ (fun hHeld => ?_)
                        · (try dsimp only)
                          first | exact HS4.out | exact HS3.out | exact HS2.out | exact HS1.out | exact HS0.out
                        clear hK K
                        try simp only [Act.put, List.setIfInBounds_toArray, List.set_cons_zero, List.set_cons_succ]
                        refine wpAnyH_done (by kernel_rfl) ?_ _
                        clear hHeld
                        go_wp2_with fail
                        go_roundw
                        case rel => exact ⟨j + 1, _, by omega, by go_num, HD.out.2, HPB.out, HXB.out⟩
                        case measure => simp [intOf]; omega
                      exact AllReadyH.nil
                    exact AllReadyH.nil
                  exact AllReadyH.nil
                exact AllReadyH.nil
              refine AllReadyH.cons (o := { dst := some 50, op := Op.buildSlice 25 1 #[(0, Operand.tmp 49)], type := 25, pos := "c7_plan.go:23", after := #[{ on := 10, ground := Ground.data }], guard := none }) rfl (fun K hK => ?_) ?_
              · go_simp
                refine hK.out _ _ ?_ (fun hHeld => ?_)
                · (try dsimp only)
                  first | exact HS4.out | exact HS3.out | exact HS2.out | exact HS1.out | exact HS0.out
                clear hK K
                try simp only [Act.put, List.setIfInBounds_toArray, List.set_cons_zero, List.set_cons_succ]
                refine wpAnyH_ready (rs := [7]) (by kernel_rfl) (by simp) ?_
                refine AllReadyH.cons (o := { dst := some 46, op := Op.load 25 (Operand.tmp 45), type := 25, pos := "c7_plan.go:23", after := #[{ on := 6, ground := Ground.data }], guard := none }) rfl (fun K hK => ?_) ?_
                · go_simp
                  refine hK.out _ _ ?_ (fun hHeld => ?_)
                  · (try dsimp only)
                    first | exact HS4.out | exact HS3.out | exact HS2.out | exact HS1.out | exact HS0.out
                  clear hK K
                  try simp only [Act.put, List.setIfInBounds_toArray, List.set_cons_zero, List.set_cons_succ]
                  refine wpAnyH_ready (rs := [12]) (by kernel_rfl) (by simp) ?_
                  refine AllReadyH.cons (o := { dst := some 51, op := Op.call { callee := Callee.builtin Builtin.append, args := #[Operand.tmp 46, Operand.tmp 50], argTypes := #[25, 25] }, type := 25, pos := "c7_plan.go:23", after := #[{ on := 7, ground := Ground.data }, { on := 11, ground := Ground.data }, { on := 10, ground := Ground.chain }], guard := none }) rfl (fun K hK => ?_) ?_
                  · refine step_append_lies _ (by rfl) (.tmp 46) (.tmp 50) 25 (by rfl) w.heap.size 3 i1 (.int .i64 0) 1 8 Tryd.underlying25 HJ.out.1 HJ.out.2.1 HJ.out.2.2.1 HJ.out.2.2.2 rfl (by decide) rv j (numL j (wtR F i)) (by rfl) (HRF.out _ HBA.out) ⟨w4.heap.size, 0, none⟩ 1 1 [.int .i64 x] (by rfl) (by rfl) (int_new _ _ _) (int_one _) (by omega) (by unfold maxLen; omega) (by omega) (by have := HBA.out.low.size; omega) _ rfl ?_
                    intro g8 c8 w8 hown8 hgr8 hat8 hlt8
                    have HD := shade (HAP.out _ _ _ _ _ HBA.out hown8 hgr8 hat8 rfl)
                    have y8 := HD.out.1.1
                    have f8 := HD.out.1.2.1
                    have HPB := shade (HKP.out _ _ _ _ _ (.slice (some ⟨g8, 0, none⟩) (j + 1) c8) HBA.out HPA.out (by decide) (by decide) hgr8)
                    have HXB := shade (HKP.out _ _ _ _ _ (.slice (some ⟨g8, 0, none⟩) (j + 1) c8) HBA.out HXA.out (by decide) (by decide) hgr8)
                    have HQB := shade (HKP.out _ _ _ _ _ (.slice (some ⟨g8, 0, none⟩) (j + 1) c8) HBA.out HQA.out (by decide) (by decide) hgr8)
                    have HS3 := shade (HSR.out _ _ HBA.out HPA.out HQA.out hgr8)
                    have HS4 := shade (HSK.out _ _ HD.out.2.box HPB.out HQB.out)
                    clear hown8 hgr8 hat8 hlt8
                    refine hK.out _ _ ?_ (fun hHeld => ?_)
                    · (try dsimp only)
                      first | exact HS4.out | exact HS3.out | exact HS2.out | exact HS1.out | exact HS0.out
                    clear hK K
                    try simp only [Act.put, List.setIfInBounds_toArray, List.set_cons_zero, List.set_cons_succ]
                    refine wpAnyH_ready (rs := [13]) (by kernel_rfl) (by simp) ?_
                    refine AllReadyH.cons (o := { dst := some 52, op := Op.indexAddr 28 (Operand.tmp 40) (Operand.tmp 41), type := 0, pos := "c7_plan.go:23", after := #[{ on := 1, ground := Ground.data }, { on := 2, ground := Ground.data }, { on := 0, ground := Ground.phase }, { on := 1, ground := Ground.phase }, { on := 2, ground := Ground.phase }, { on := 3, ground := Ground.phase }, { on := 4, ground := Ground.phase }, { on := 5, ground := Ground.phase }, { on := 6, ground := Ground.phase }, { on := 7, ground := Ground.phase }, { on := 8, ground := Ground.phase }, { on := 9, ground := Ground.phase }, { on := 10, ground := Ground.phase }, { on := 11, ground := Ground.phase }, { on := 12, ground := Ground.phase }], guard := none }) rfl (fun K hK => ?_) ?_
                    · go_simp
                      refine hK.out _ _ ?_ (fun hHeld => ?_)
                      · (try dsimp only)
                        first | exact HS4.out | exact HS3.out | exact HS2.out | exact HS1.out | exact HS0.out
                      clear hK K
                      try simp only [Act.put, List.setIfInBounds_toArray, List.set_cons_zero, List.set_cons_succ]
                      refine wpAnyH_ready (rs := [14]) (by kernel_rfl) (by simp) ?_
                      refine AllReadyH.cons (o := { dst := none, op := Op.store 25 (Operand.tmp 52) (Operand.tmp 51), type := 0, pos := "c7_plan.go:23", after := #[{ on := 13, ground := Ground.data }, { on := 12, ground := Ground.data }, { on := 12, ground := Ground.chain }, { on := 0, ground := Ground.phase }, { on := 1, ground := Ground.phase }, { on := 2, ground := Ground.phase }, { on := 3, ground := Ground.phase }, { on := 4, ground := Ground.phase }, { on := 5, ground := Ground.phase }, { on := 6, ground := Ground.phase }, { on := 7, ground := Ground.phase }, { on := 8, ground := Ground.phase }, { on := 9, ground := Ground.phase }, { on := 10, ground := Ground.phase }, { on := 11, ground := Ground.phase }, { on := 12, ground := Ground.phase }], guard := none }) rfl (fun K hK => ?_) ?_
                      · go_simp
                        refine hK.out _ _ ?_ (fun hHeld => ?_)
                        · (try dsimp only)
                          first | exact HS4.out | exact HS3.out | exact HS2.out | exact HS1.out | exact HS0.out
                        clear hK K
                        try simp only [Act.put, List.setIfInBounds_toArray, List.set_cons_zero, List.set_cons_succ]
                        refine wpAnyH_done (by kernel_rfl) ?_ _
                        clear hHeld
                        go_wp2_with fail
                        go_roundw
                        case rel => exact ⟨j + 1, _, by omega, by go_num, HD.out.2, HPB.out, HXB.out⟩
                        case measure => simp [intOf]; omega
                      exact AllReadyH.nil
                    exact AllReadyH.nil
                  exact AllReadyH.nil
                exact AllReadyH.nil
              exact AllReadyH.nil
            exact AllReadyH.nil
          · obtain rfl : j = i := by omega
            go_wp2_with fail
            go_roundw
            case rel => exact ⟨j + 1, u, AS', by omega, by go_num, HB1.out.congr (fun x _ => lnI_last j x), HX1.out⟩
            case measure => simp [intOf]; omega
    · obtain rfl : i = n := by omega
      obtain ⟨At, ct, rfl, -⟩ := ownsRow_slice HB1.out.tk
      have x0 := HB1.out.box.look 0; have x1 := HB1.out.box.look 1
      have z0 := HX.out.look 0; have z1 := HX.out.look 1
      have f0 := HX.out.free 0; have f1 := HX.out.free 1
      simp at x0 x1 z0 z1
      have hlo := HBS.out
      have hx2 := (HX.out.put 0 (.slice At i ct)).put 1 (.slice (some ⟨g, 0, none⟩) i i)
      simp at hx2
      have g1 : wr.grownBy ((wr.setCell ⟨w.heap.size, 0, none⟩ (.slice At i ct)).setCell ⟨w.heap.size, 1, none⟩ (.slice (some ⟨g, 0, none⟩) i i)) (some w.heap.size) := grown_same (grown_set w.heap.size 0 (.slice At i ct)) (grown_set w.heap.size 1 (.slice (some ⟨g, 0, none⟩) i i))
      have HG9 := shade (grown_then HB1.out.low g1 (Nat.le_refl _))
      have HT9 := shade (World.ownsRow.kept HB1.out.tk g1 (.inr (own_not_held HB1.out.tk HX.out (by decide))))
      have HR9 := shade ((HB1.out.ws.but g1 (.inr (own_not_held HB1.out.ws.out.own HX.out (by decide))) (fun j hj => .inr (own_not_held (HB1.out.ws.row j hj).own HX.out (by decide)))).lower (Nat.le_refl _) g1.size)
      have HX9 := shade hx2
      have HSEP := shade HB1.out.sep
      clear hx2 g1
      go_wp2_with fail
      obtain ⟨W2, hW2⟩ : ∃ W2, (wr.setCell ⟨w.heap.size, 0, none⟩ (.slice At i ct)).setCell ⟨w.heap.size, 1, none⟩ (.slice (some ⟨g, 0, none⟩) i i) = W2 := ⟨_, rfl⟩
      rw [hW2] at HG9 HT9 HR9 HX9 ⊢
      clear hW2 z0 z1 f0 f1 x0 x1
      have x0 := HX9.out.look 0; have x1 := HX9.out.look 1
      simp at x0 x1
      refine bodyPost_ret (by simp [results, Tryd.results17, go_sem, x0, x1]; try rfl) rfl ?_
      exact ⟨_, _, AS, rfl, HT9.out, ⟨HR9.out.out, fun j hj => (by
        have := HR9.out.row j hj
        rw [show lnO i j = lnW j from if_pos hj] at this
        exact this), HR9.out.sep⟩, HSEP.out, HG9.out⟩

end Go.Proofs.YtblnchcgeepemaaDoor
