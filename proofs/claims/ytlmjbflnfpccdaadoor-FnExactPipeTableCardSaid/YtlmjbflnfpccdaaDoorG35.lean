/- The pipe, by the program, of any instructions. Time and stalls of a pipe, by the program. -/
import Derived.Test.YtlmjbflnfpccdaaDoorU34
namespace Go.Proofs.YtlmjbflnfpccdaaDoor
open Go.RowKit
set_option linter.unusedSimpArgs false
set_option maxRecDepth 100000 in
set_option maxHeartbeats 4000000 in
theorem pipeOf_no (A : Option Addr) (n c : Nat) (F : Nat → Ins) (AJ : Option Addr) (m cj : Nat) (fw : Bool) (rd f : Nat → Int) (w : World) (hw : WT w) (hn : n ≤ 9223372036854775807) (hv : vpB n F m = false) (h : Code w A n F) :
    Calls Tryd.prog 43 #[.slice A n c, .slice AJ m cj, .bool fw] w (PipRes 0 rd f false w) := by
  have hw0 := hw.alloc (.cells #[.slice none 0 0, .slice none 0 0] 56)
  have hg0 := World.grownBy_alloc w (.cells #[.slice none 0 0, .slice none 0 0] 56) none
  have HM := shade (mayPass_any A n c F AJ m cj _ hw0 hn (h.on hg0))
  rw [hv] at HM
  have HX0 := shade (Holds5.fresh w 56 #[.slice none 0 0, .slice none 0 0])
  have HG0 := shade hg0
  clear hw0 hg0 hv h hw
  go_enter Tryd.func43, Tryd.ntmps43
  go_wp2_with fail
  refine HM.out.mono ?_
  rintro e w1 ⟨rfl, hg⟩
  have HG := shade (grown_same HG0.out hg)
  have hx1 := HX0.out.grown hg (by intro e; cases e)
  have x0 := hx1.look 0; have x1 := hx1.look 1
  have f0 := hx1.free 0; have f1 := hx1.free 1
  simp at x0 x1
  have hx2 := (hx1.put 0 (.slice none 0 0)).put 1 (.slice none 0 0)
  simp at hx2
  have g1 : w1.grownBy ((w1.setCell ⟨w.heap.size, 0, none⟩ (.slice none 0 0)).setCell ⟨w.heap.size, 1, none⟩ (.slice none 0 0)) (some w.heap.size) := grown_same (grown_set w.heap.size 0 (.slice none 0 0)) (grown_set w.heap.size 1 (.slice none 0 0))
  have HG9 := shade (grown_then HG.out g1 (Nat.le_refl _))
  have HX9 := shade hx2
  clear hx2 g1 hx1 hg HM HX0 HG0
  go_wp2_with fail
  obtain ⟨W2, hW2⟩ : ∃ W2, (w1.setCell ⟨w.heap.size, 0, none⟩ (.slice none 0 0)).setCell ⟨w.heap.size, 1, none⟩ (.slice none 0 0) = W2 := ⟨_, rfl⟩
  rw [hW2] at HG9 HX9 ⊢
  clear hW2 x0 x1 f0 f1
  have x0 := HX9.out.look 0; have x1 := HX9.out.look 1
  simp at x0 x1
  refine bodyPost_ret (by simp [results, Tryd.results43, go_sem, x0, x1]; try rfl) rfl ?_
  exact ⟨_, _, rfl, World.ownsRow_nil _ _ _ _, World.ownsRow_nil _ _ _ _, HG9.out⟩
set_option maxRecDepth 100000 in
set_option maxHeartbeats 4000000 in
theorem pipeOf_zero (A : Option Addr) (c : Nat) (F : Nat → Ins) (AJ : Option Addr) (cj : Nat) (fw : Bool) (rd f : Nat → Int) (w : World) (hw : WT w) :
    Calls Tryd.prog 43 #[.slice A 0 c, .slice AJ 0 cj, .bool fw] w (PipRes 0 rd f true w) := by
  have hw0 := hw.alloc (.cells #[.slice none 0 0, .slice none 0 0] 56)
  have hg0 := World.grownBy_alloc w (.cells #[.slice none 0 0, .slice none 0 0] 56) none
  have HM := shade (mayPass_any A 0 c F AJ 0 cj _ hw0 (by omega) (.inl rfl))
  rw [show vpB 0 F 0 = true from rfl] at HM
  have HX0 := shade (Holds5.fresh w 56 #[.slice none 0 0, .slice none 0 0])
  have HG0 := shade hg0
  have hz0 : (w.alloc (.cells #[.slice none 0 0, .slice none 0 0] 56)).heap.size = w.heap.size + 1 := by simp
  clear hw0 hg0 hw
  go_enter Tryd.func43, Tryd.ntmps43
  go_wp2_with fail
  refine HM.out.mono ?_
  rintro e w1 ⟨rfl, hg⟩
  have hs1 := hg.size
  have hx1 := (HX0.out.grown hg (by intro e; cases e)).alloc (.cells #[.slice none 0 0, .slice none 0 0] 56)
  have HG := shade (grown_same (grown_same HG0.out hg) (World.grownBy_alloc w1 (.cells #[.slice none 0 0, .slice none 0 0] 56) none))
  have hb1 := Holds5.fresh w1 56 #[.slice none 0 0, .slice none 0 0]
  have d1 : ¬ w1.heap.size = w.heap.size := by omega
  have d2 : ¬ w.heap.size = w1.heap.size := by omega
  go_wp2_with fail
  refine wp_loop_rounds 1 ?_
  rw [rounds_succ]
  obtain ⟨W1, hW1⟩ : ∃ W1, w1.alloc (.cells #[.slice none 0 0, .slice none 0 0] 56) = W1 := ⟨_, rfl⟩
  rw [hW1] at HG hx1 hb1 ⊢
  clear hW1 hg HX0 HG0 HM
  have x0 := hx1.look 0; have x1 := hx1.look 1
  have f0 := hx1.free 0; have f1 := hx1.free 1
  have y0 := hb1.look 0; have y1 := hb1.look 1
  simp at x0 x1 y0 y1
  have hx2 := (hx1.put 0 (.slice none 0 0)).put 1 (.slice none 0 0)
  simp at hx2
  have g1 : W1.grownBy ((W1.setCell ⟨w.heap.size, 0, none⟩ (.slice none 0 0)).setCell ⟨w.heap.size, 1, none⟩ (.slice none 0 0)) (some w.heap.size) := grown_same (grown_set w.heap.size 0 (.slice none 0 0)) (grown_set w.heap.size 1 (.slice none 0 0))
  have HG9 := shade (grown_then HG.out g1 (Nat.le_refl _))
  have HX9 := shade hx2
  clear hx2 g1 hx1 hb1
  go_wp2_with fail
  obtain ⟨W2, hW2⟩ : ∃ W2, (W1.setCell ⟨w.heap.size, 0, none⟩ (.slice none 0 0)).setCell ⟨w.heap.size, 1, none⟩ (.slice none 0 0) = W2 := ⟨_, rfl⟩
  rw [hW2] at HG9 HX9 ⊢
  clear hW2 x0 x1 f0 f1 y0 y1
  have x0 := HX9.out.look 0; have x1 := HX9.out.look 1
  simp at x0 x1
  refine bodyPost_ret (by simp [results, Tryd.results43, go_sem, x0, x1]; try rfl) rfl ?_
  exact ⟨_, _, rfl, World.ownsRow_nil _ _ _ _, World.ownsRow_nil _ _ _ _, HG9.out⟩
theorem pipeOf_any (A : Option Addr) (n c : Nat) (F : Nat → Ins) (AJ : Option Addr) (m cj : Nat) (J : Nat → Bool) (fw : Bool) (w : World) (hw : WT w) (hn : n ≤ 9223372036854775807) (hc : n ≤ c) (h : Code w A n F) (hj : Bols w AJ m J) :
    Calls Tryd.prog 43 #[.slice A n c, .slice AJ m cj, .bool fw] w (PipRes (nP n F m) (rdP J (pk F J fw)) (pk F J fw) (vpB n F m) w) := by
  rcases hv : vpB n F m with _ | _
  · rw [nP_no hv]
    exact pipeOf_no A n c F AJ m cj fw _ _ w hw hn hv h
  · rw [nP_yes hv]
    obtain ⟨-, rfl, -⟩ := vpB_yes hv
    by_cases h0 : m = 0
    · subst h0
      exact pipeOf_zero A c F AJ cj fw _ _ w hw
    · obtain ⟨b, off, rfl, _⟩ := h.resolve_left h0
      exact pipeOf_at b off m c F AJ cj J fw w hw hc hv h hj
set_option maxHeartbeats 4000000 in
theorem IPipeTicks_any (A : Option Addr) (n c : Nat) (F : Nat → Ins) (AJ : Option Addr) (m cj : Nat) (J : Nat → Bool) (fw : Bool) (w : World) (hw : WT w) (hn : n ≤ 9223372036854775807) (hc : n ≤ c) (h : Code w A n F) (hj : Bols w AJ m J) :
    Calls Tryd.prog 15 #[.slice A n c, .slice AJ m cj, .bool fw] w (NumRes (nP n F m) (pk F J fw) w) := by
  have HP := shade (pipeOf_any A n c F AJ m cj J fw w hw hn hc h hj)
  clear hw hc h hj
  go_enter Tryd.func15, Tryd.ntmps15
  go_wp2_with fail
  refine HP.out.mono ?_
  rintro e w1 ⟨rv, wv, rfl, hr, hwk, hg⟩
  have HR := shade (ownsRow_on hwk (World.grownBy_alloc w1 (.cells #[rv, wv] 56) none))
  have HG := shade (grown_same hg (World.grownBy_alloc w1 (.cells #[rv, wv] 56) none))
  obtain ⟨A1, c1, rfl, -⟩ := ownsRow_slice hr
  obtain ⟨A2, c2, rfl, -⟩ := ownsRow_slice hwk
  clear hr hwk hg HP
  go_wp2_with fail
  go_ret
  exact ⟨_, rfl, HR.out, HG.out⟩
theorem ticks_both (n : Nat) (F : Nat → Ins) (m : Nat) (J : Nat → Bool) (fw : Bool) (hn : n ≤ 9223372036854775807) :
    ∃ (K : Nat) (f : Nat → Int), K ≤ 300 ∧ (∀ (A : Option Addr) (c : Nat) (AJ : Option Addr) (cj : Nat) (W : World), Code W A n F → Bols W AJ m J → Calls Tryd.prog 12 #[.slice A n c, .slice AJ m cj, .bool fw] W (NumRes K f W)) ∧
      (∀ (A : Option Addr) (AJ : Option Addr) (cj : Nat) (W : World), WT W → Code W A n F → Bols W AJ m J → Calls Tryd.prog 15 #[.slice A n n, .slice AJ m cj, .bool fw] W (NumRes K f W)) :=
  ⟨nP n F m, _, nP_le n m F, fun A c AJ cj W h hj => SPipeTicks_any A n c F AJ m cj J fw W hn h hj, fun A AJ cj W hW h hj => IPipeTicks_any A n n F AJ m cj J fw W hW hn (Nat.le_refl _) h hj⟩
end Go.Proofs.YtlmjbflnfpccdaaDoor

namespace Go.Proofs.YtlmjbflnfpccdaaDoor
open Go.RowKit
set_option linter.unusedSimpArgs false
set_option maxRecDepth 100000 in
set_option maxHeartbeats 4000000 in
theorem time_any (Ar : Option Addr) (cr : Nat) (A2 : Option Addr) (n kr c2 : Nat) (f : Nat → Int) (w : World) (hf : ∀ j, 2 ≤ f j ∧ f j ≤ 3 * (j : Int) + 2) (hn : n ≤ 300) (h : Nums w A2 n f) :
    Calls Tryd.prog 46 #[.agg #[.slice Ar kr cr, .slice A2 n c2]] w fun e w' => e = .returned (.int .i64 (ptm n f)) ∧ w.grownBy w' none := by
  unfold ptm
  have hg := World.grownBy_alloc w (.cells #[.slice Ar kr cr, .slice A2 n c2] 56) none
  rcases n with _ | q
  · rw [if_pos rfl]
    go_enter Tryd.func46, Tryd.ntmps46
    go_wp2_with fail
    go_ret
    exact ⟨rfl, hg⟩
  · rw [if_neg (by omega), show q + 1 - 1 = q from rfl]
    have hr := hf q
    obtain ⟨b, o, rfl, hb, -⟩ := h.resolve_left (by omega)
    have c0 := h.cell (show q < q + 1 by omega)
    have c1 := hg.cell c0 (by intro e; cases e)
    obtain ⟨z, hz⟩ : ∃ z, f q = z := ⟨_, rfl⟩
    rw [hz] at hr c0 c1 ⊢
    clear hz
    have i1 : (q : Int) < (q : Int) + 1 := by omega
    have i2 : (0 : Int) ≤ (q : Int) := by omega
    go_enter Tryd.func46, Tryd.ntmps46
    go_wp2_with fail
    go_ret
    exact ⟨(by show Ending.returned (Value.int .i64 (z + 5 - 2)) = Ending.returned (Value.int .i64 (z + 3)); congr 2; omega), hg⟩
set_option maxRecDepth 100000 in
set_option maxHeartbeats 4000000 in
theorem IPipeTime_any (A : Option Addr) (n c : Nat) (F : Nat → Ins) (AJ : Option Addr) (m cj : Nat) (J : Nat → Bool) (fw : Bool) (w : World) (hw : WT w) (hn : n ≤ 9223372036854775807) (hc : n ≤ c) (h : Code w A n F) (hj : Bols w AJ m J) :
    Calls Tryd.prog 24 #[.slice A n c, .slice AJ m cj, .bool fw] w fun e w' => e = .returned (.int .i64 (tmP n F m J fw)) ∧ w.grownBy w' none := by
  have HP := shade (pipeOf_any A n c F AJ m cj J fw w hw hn hc h hj)
  rcases hv : vpB n F m with _ | _
  · rw [tmP_no hv]
    rw [hv] at HP
    clear hw hc h hj hv
    go_enter Tryd.func24, Tryd.ntmps24
    go_wp2_with fail
    refine HP.out.mono ?_
    rintro e w1 ⟨rv, wv, rfl, hr, hwk, hg⟩
    have HG := shade (grown_same hg (World.grownBy_alloc w1 (.cells #[rv, wv] 56) none))
    obtain ⟨A1, c1, rfl, -⟩ := ownsRow_slice hr
    obtain ⟨A2, c2, rfl, -⟩ := ownsRow_slice hwk
    clear hr hwk hg HP
    go_wp2_with fail
    go_ret
    exact ⟨rfl, HG.out⟩
  · rw [tmP_yes hv]
    have hP := nP_yes hv
    rw [hv, hP] at HP
    have h3 := (vpB_yes hv).1
    clear hw hc h hj hv hP
    go_enter Tryd.func24, Tryd.ntmps24
    go_wp2_with fail
    refine HP.out.mono ?_
    rintro e w1 ⟨rv, wv, rfl, hr, hwk, hg⟩
    have hg1 := World.grownBy_alloc w1 (.cells #[rv, wv] 56) none
    have HG := shade (grown_same hg hg1)
    obtain ⟨A1, c1, rfl, -⟩ := ownsRow_slice hr
    obtain ⟨A2, c2, rfl, -⟩ := ownsRow_slice hwk
    obtain ⟨A2', c2', e2, hN⟩ := (show RowO w1 w.heap.size w1.heap.size 3 (.slice A2 n c2) n (numL n (pk F J fw)) from ⟨hwk, fun i hi => (World.ownsRow.lt hwk i hi).2⟩).nums
    injection e2 with e2 _ e3
    subst e2 e3
    have HT := shade (fun W (hW : w1.grownBy W none) => time_any A1 c1 A2 n n c2 (pk F J fw) W (pk_rng F J fw) h3 (hN.grown hW (by intro _ _ _ e; cases e)))
    clear hr hwk hg HP hN
    have hb := Holds5.fresh w1 56 #[.slice A1 n c1, .slice A2 n c2]
    have HG1 := shade hg1
    clear hg1
    go_wp2_with fail
    refine (HT.out _ HG1.out).mono ?_
    rintro e w2 ⟨rfl, hg2⟩
    have HG2 := shade (grown_same HG.out hg2)
    clear hg2
    go_wp2_with fail
    go_ret
    exact ⟨rfl, HG2.out⟩
theorem time8_both (n : Nat) (F : Nat → Ins) (m : Nat) (J : Nat → Bool) (fw : Bool) (hn : n ≤ 9223372036854775807) :
    ∃ (v : Int), (∀ (A : Option Addr) (c : Nat) (AJ : Option Addr) (cj : Nat) (W : World), Code W A n F → Bols W AJ m J → Calls Tryd.prog 23 #[.slice A n c, .slice AJ m cj, .bool fw] W (fun e w' => e = .returned (.int .i64 v) ∧ W.grownBy w' none)) ∧
      (∀ (A : Option Addr) (AJ : Option Addr) (cj : Nat) (W : World), WT W → Code W A n F → Bols W AJ m J → Calls Tryd.prog 24 #[.slice A n n, .slice AJ m cj, .bool fw] W (fun e w' => e = .returned (.int .i64 v) ∧ W.grownBy w' none)) :=
  ⟨_, fun A c AJ cj W h hj => SPipeTime_any A n c F AJ m cj J fw W hn h hj, fun A AJ cj W hW h hj => IPipeTime_any A n n F AJ m cj J fw W hW hn (Nat.le_refl _) h hj⟩
end Go.Proofs.YtlmjbflnfpccdaaDoor
