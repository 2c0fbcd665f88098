/- The longest ways to the end, by the model; rows of numbers cloned. -/
import Derived.Test.YtblnchcgeepemaaDoorV12
namespace Go.Proofs.YtblnchcgeepemaaDoor
open Go.RowKit
set_option linter.unusedSimpArgs false
theorem sHeights_zero (A : Option Addr) (c : Nat) (f : Nat → Int) (w : World) : Calls Tryd.prog 21 #[.slice A 0 c] w (NumRes 0 f w) := by
  obtain ⟨i1, hi1, hy0, hy1, hy2⟩ := info_parts info3p
  have HJ := shade (And.intro hi1 (And.intro hy0 (And.intro hy1 hy2)))
  clear hi1 hy0 hy1 hy2
  go_enter Tryd.func21, Tryd.ntmps21
  go_wp2_with (first
    | (at_make; refine wpList_make_full _ rfl _ _ 25 rfl w.heap.size 3 i1 (.int .i64 0) 1 Tryd.underlying25 HJ.out.1 HJ.out.2.1 HJ.out.2.2.1 .i64 .i64 0 0 0 rfl rfl rfl rfl (by omega) (by unfold maxLen; omega) (Nat.le_refl _) ?_)
    | go_in)
  intro w3 hown3 hgr3
  rw [made_zeros] at hown3
  have HO := shade hown3; have HG := shade hgr3
  clear hown3 hgr3
  go_wp2_with fail
  refine wp_loop_rounds 1 ?_
  rw [rounds_succ]
  go_wp2_with fail
  go_ret
  exact ⟨_, rfl, HO.out, HG.out⟩
set_option maxHeartbeats 1000000 in
theorem SHeightsOf_any (A : Option Addr) (n c : Nat) (F : Nat → Ins) (w : World) (hn : n ≤ 9223372036854775807) (h : Code w A n F) :
    Calls Tryd.prog 8 #[.slice A n c] w (NumRes (nB n F) (hgt F n) w) := by
  have HV := shade (validBlock_any A n c F w hn h)
  rcases hv : blB n F with _ | _
  · rw [nB_no hv]
    rw [hv] at HV
    clear h hv
    go_enter Tryd.func8, Tryd.ntmps8
    go_wp2_with fail
    refine HV.out.mono ?_
    rintro e w1 ⟨rfl, hg⟩
    have HG := shade hg
    clear hg
    go_wp2_with fail
    go_ret
    exact ⟨_, rfl, World.ownsRow_nil _ _ _ _, HG.out⟩
  · rw [nB_yes hv]
    rw [hv] at HV
    have h6 := blB_6 hv
    have HH := shade (show ∀ W, Code W A n F → Calls Tryd.prog 21 #[.slice A n c] W (NumRes n (hgt F n) W) from fun W hC => by
      by_cases h0 : n = 0
      · subst h0
        exact sHeights_zero A c _ W
      · obtain ⟨b, off, rfl, _⟩ := hC.resolve_left h0
        exact sHeights_at b off n c F W h6 (fun j hj => blI_v (blB_at hv hj)) hC)
    have HC := shade h
    clear h hv
    go_enter Tryd.func8, Tryd.ntmps8
    go_wp2_with fail
    refine HV.out.mono ?_
    rintro e w1 ⟨rfl, hg⟩
    have HG := shade hg
    clear hg
    go_wp2_with fail
    refine (HH.out _ (HC.out.on HG.out)).mono ?_
    rintro e w2 ⟨v, rfl, ho, hg2⟩
    have HO := shade (World.ownsRow.mono ho HG.out.size); have HG2 := shade (grown_same HG.out hg2)
    obtain ⟨A1, c1, rfl, -⟩ := ownsRow_slice ho
    clear ho hg2
    go_wp2_with fail
    go_ret
    exact ⟨_, rfl, HO.out, HG2.out⟩
set_option maxRecDepth 100000 in
set_option maxHeartbeats 4000000 in
theorem cloneNums_any (lo hi : Nat) (v : Value) (n : Nat) (f : Nat → Int) (w : World) (hn : n ≤ 40) (h : RowO w lo hi 3 v n (numL n f)) :
    Calls Tryd.prog 18 #[v] w (NumRes n f w) := by
  obtain ⟨A, c, rfl, hN⟩ := h.nums
  have HC := shade hN
  clear h hN
  rcases A with _ | ad
  · obtain rfl : n = 0 := by
      rcases HC.out with h | ⟨b, off, e, _⟩
      · exact h
      · cases e
    have hq : ∀ W : World, (binOp .eql 25 (.slice none 0 c) (.slice none 0 0)).run Tryd.prog W = .ok (.bool true) W := fun W => Go.Lib.run_eql_slice_nil W _ _ none 0 c 0 0 Tryd.underlying25
    go_enter Tryd.func18, Tryd.ntmps18
    go_wp2_with fail
    go_ret
    exact ⟨_, rfl, World.ownsRow_nil _ _ _ _, grown_refl _ _⟩
  · have hq : ∀ W : World, (binOp .eql 25 (.slice (some ad) n c) (.slice none 0 0)).run Tryd.prog W = .ok (.bool false) W := fun W => Go.Lib.run_eql_slice_nil W _ _ (some ad) n c 0 0 Tryd.underlying25
    obtain ⟨i1, hi1, hy0, hy1, hy2⟩ := info_parts info3p
    have HO := shade (show (w.alloc (.cells #[] 3)).ownsRow w.heap.size 3 1 (.slice (some ⟨w.heap.size, 0, none⟩) 0 0) 0 [] from World.ownsRow_lit (base := w.heap.size) (e := 3) (size := 1) w #[] 0 (by omega) (by decide) rfl)
    have hcc : ∀ j u, (numL n f)[j]? = some u → (w.alloc (.cells #[] 3)).cell? (ad.add j) = some u := by
      intro j u hu
      have hj : j < n := by
        have := (List.getElem?_eq_some_iff.1 hu).1
        rw [numL_len] at this
        exact this
      have hz := HC.out.alloc (.cells #[] 3)
      obtain ⟨b, off, e, _, _⟩ := hz.resolve_left (by omega)
      injection e with e
      subst e
      exact hz.cells j u hu
    have HCC := shade hcc
    clear hcc
    go_enter Tryd.func18, Tryd.ntmps18
    go_wp2_with (first
      | (at_builtin; refine wpList_append_own _ rfl _ _ 25 rfl w.heap.size 3 i1 (.int .i64 0) 1 8 Tryd.underlying25 hi1 hy0 hy1 hy2 rfl (by decide) _ _ _ rfl HO.out ad n c (numL n f) rfl (by rw [numL_len]; omega) HCC.out (numL_oneCell n f) (by unfold maxLen; omega) (by omega) (by simp) ?_)
      | go_in)
    intro v' w8 hown8 hgr8 hnil8
    have hown9 : w8.ownsRow w.heap.size 3 1 v' n (numL n f) := by simpa using hown8
    have HR := shade (show NumRes n f w (.returned v') w8 from ⟨v', rfl, hown9, grown_then (World.grownBy_alloc w _ none) hgr8 (Nat.le_refl _)⟩)
    clear hown8 hown9 hgr8 hnil8 hi1 hy0 hy1 hy2
    go_wp2_with fail
    go_ret
    exact HR.out

end Go.Proofs.YtblnchcgeepemaaDoor
