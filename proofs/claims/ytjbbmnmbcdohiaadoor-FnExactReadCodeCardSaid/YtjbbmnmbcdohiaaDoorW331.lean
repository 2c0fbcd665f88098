/- The model's ReadCode reads the program of the lines, at every text. -/
import Derived.Test.YtjbbmnmbcdohiaaDoorW330
namespace Go.Proofs.YtjbbmnmbcdohiaaDoor
open Go.RowKit
set_option linter.unusedSimpArgs false
set_option maxRecDepth 100000 in
set_option maxHeartbeats 8000000 in
theorem SpecReadCode_is (s : List UInt8) (w : World) (hl : s.length ≤ 1048576) : Calls Tryd.prog 18 #[.string (tx s)] w (RCw s w) := by
  obtain ⟨xs, x, hx⟩ : ∃ xs x, splitC 10 s = xs ++ [x] := ⟨(splitC 10 s).dropLast, (splitC 10 s).getLast (splitC_ne 10 s), (List.dropLast_concat_getLast (splitC_ne 10 s)).symm⟩
  have hlen := splitC_le 10 s
  rw [hx] at hlen
  simp only [List.length_append, List.length_cons, List.length_nil] at hlen
  have HS := shade (splitAt_res 10 s w hl)
  have HP := shade (fun (p : List UInt8) (hp : p ∈ xs ++ [x]) => piece_le hx hp hl)
  rw [hx] at HS
  have HX := shade hx
  clear hx
  obtain ⟨N, hN⟩ : ∃ N, xs.length = N := ⟨_, rfl⟩
  rw [hN] at hlen
  have HN := shade hN
  have hl1 : (xs ++ [x]).length = N + 1 := by simp [hN]
  go_enter Tryd.func18, Tryd.ntmps18
  go_wp2_with fail
  refine HS.out.mono ?_
  rintro e w1 ⟨v, rfl, ho, hg⟩
  have HG := shade hg
  obtain ⟨g, c, rfl, hgl, hc⟩ := row_cells (xs := xs ++ [x]) ho (by simp)
  have qN : w1.cell? ⟨g, N, none⟩ = some (.string (tx x)) := by
    have := hc N (by omega)
    rw [List.getElem_append_right (by omega)] at this
    simpa [hN] using this
  have qj : ∀ j (h : j < xs.length), w1.cell? ⟨g, j, none⟩ = some (.string (tx xs[j])) := fun j h => by
    have := hc j (by omega)
    rwa [List.getElem_append_left h] at this
  rw [hl1]
  have HC := shade qj
  clear ho hg hc qj HS hl1 hN
  by_cases hxe : x = []
  · have hE : (tx x).toList.isEmpty = true := by rw [tx_toList, hxe]; rfl
    have HX0 := shade (show splitC 10 s = xs ++ [[]] from by rw [HX.out, hxe])
    clear hxe HX
    have HI := shade (show CB w1 (w1.alloc (.cells #[] 24)) (.slice (some ⟨w1.heap.size, 0, none⟩) 0 0) 0 (fun _ => zIns) from ⟨World.ownsRow_lit w1 #[] 0 (Nat.le_refl _) (by decide) rfl, World.grownBy_alloc _ _ _⟩)
    go_wp2_with fail
    clear qN
    go_loopw [5, 6] (fun v i wr => ∃ (k : Nat) (f : Nat → Ins), k ≤ N ∧ i = .int .i64 k ∧ CB w1 wr v k f ∧ (∀ j, j < k → insB (f j) = true) ∧ linesL k f = xs.take k) (fun _ i _ => N - (intOf i).toNat)
    case atStart => exact ⟨0, fun _ => zIns, Nat.zero_le _, rfl, HI.out, fun _ h => absurd h (by omega), rfl⟩
    case round =>
      clear HI
      obtain ⟨k, f, hk, rfl, hC, hV, hL⟩ := hrel
      have HCB := shade hC; have HV := shade hV; have HL := shade hL
      clear hC hV hL
      obtain ⟨A0, c0, rfl, hco, hab⟩ := HCB.out.val
      have HCO := shade hco
      have HAB := shade (show ∀ b o, A0 = some ⟨b, o, none⟩ → w.heap.size ≤ b from fun b o e => Nat.le_trans HG.out.size (hab b o e))
      clear hco hab
      by_cases hkn : k < N
      · have hkx : k < xs.length := by rw [HN.out]; exact hkn
        have qk := (cell_grown HCB.out.low (o := k) hgl).trans (HC.out k hkx)
        have hcut : xs = xs.take k ++ xs[k] :: xs.drop (k + 1) := by rw [← List.drop_eq_getElem_cons hkx, List.take_append_drop]
        have hpl := HP.out xs[k] (List.mem_append_left _ (List.getElem_mem hkx))
        have htk : xs.take (k + 1) = xs.take k ++ [xs[k]] := List.take_succ_eq_append_getElem hkx
        obtain ⟨p, hp⟩ : ∃ p, xs[k] = p := ⟨_, rfl⟩
        rw [hp] at qk hcut hpl htk
        have HNO := shade (fun (h : NoI p) => NoC.line (s := s) (xs := xs.take k) (a := p) (ys := xs.drop (k + 1) ++ [[]]) (by
          rw [HX0.out]
          conv => lhs; rw [hcut]
          simp) (by simp) h)
        obtain ⟨p0, ps, hps⟩ : ∃ p0 ps, splitC 32 p = p0 :: ps := List.exists_cons_of_ne_nil (splitC_ne 32 p)
        have HRI := shade (fun W => readInstr_is p p0 ps W hpl hps)
        have HTK := shade htk
        clear hp hcut hpl htk hps hkx
        have i1 : (k : Int) + 1 < (N : Int) + 1 := by omega
        have i2 : (0 : Int) ≤ (k : Int) := by omega
        have i3 : (k : Int) < (N : Int) + 1 := by omega
        go_wp2_with fail
        refine (HRI.out _).mono ?_
        rintro e w2 ⟨op, d, a, b, kk, ok, rfl, hy, hn, hg2⟩
        have hga := World.grownBy_alloc w2 (.cells #[.string op, .int .i64 d, .int .i64 a, .int .i64 b, .int .i64 kk] 24) none
        have H3 := shade (HCB.out.on (grown_same hg2 hga))
        have HB := shade (Holds5.fresh w2 24 #[.string op, .int .i64 d, .int .i64 a, .int .i64 b, .int .i64 kk])
        have HY := shade hy; have HNN := shade hn
        clear hg2 hga hy hn HCB HRI qk HCO
        go_upto_region 9 with (fail)
        generalize w2.alloc (.cells #[.string op, .int .i64 d, .int .i64 a, .int .i64 b, .int .i64 kk] 24) = wc at *
        cases ok with
        | false =>
          go_wp2_with fail
          go_ret2
          exact ⟨none, 0, 0, f, false, rfl, fun e => (by cases e), fun _ => ⟨HNO.out (HNN.out trivial), rfl⟩, .inl rfl, by omega, grown_same HG.out H3.out.low, by intro _ _ e; cases e⟩
        | true =>
          have x0 := HB.out.look 0; have x1 := HB.out.look 1; have x2 := HB.out.look 2; have x3 := HB.out.look 3; have x4 := HB.out.look 4
          simp at x0 x1 x2 x3 x4
          have hbi := HB.out.inside
          obtain ⟨i0, hi, hz0, hz1, hz2⟩ := info_parts info24
          go_wp2_with (first
            | (at_builtin; refine wpList_append_own _ rfl _ _ 32 rfl w1.heap.size 24 i0 (.agg #[.string ⟨#[]⟩, .int .i64 0, .int .i64 0, .int .i64 0, .int .i64 0]) 5 48 Tryd.underlying32 hi hz0 hz1 hz2 rfl (by decide) _ _ _ rfl (H3.out.on (World.grownBy_alloc _ _ _)).own ⟨wc.heap.size, 0, none⟩ 1 1 [.string op, .int .i64 d, .int .i64 a, .int .i64 b, .int .i64 kk] rfl rfl (cells_new _ _ _ _ _ _ _) (one_cells _ _ _ _ _) (by unfold maxLen; omega) (by omega) (by have := H3.out.low.size; simp; omega) ?_)
            | go_in)
          intro v' w8 hown8 hgr8 hnil8
          rw [codeL_snoc k f ⟨op, d, a, b, kk⟩] at hown8
          have H8 := shade (H3.out.snoc (World.grownBy_alloc _ _ _) hown8 hgr8)
          clear hown8 hgr8 hnil8 hi hz0 hz1 hz2
          go_wp2_with fail
          go_roundw
          case rel => exact ⟨k + 1, _, by omega, by go_num, H8.out, val_more HV.out (HY.out trivial).1, by rw [linesL_more, HL.out, HTK.out, show insL (⟨op, d, a, b, kk⟩ : Ins) = p from (HY.out trivial).2]⟩
          case measure => simp [intOf]; omega
      · obtain rfl : k = N := by omega
        have HVC := shade (validCode_any A0 k c0 f wr (by omega) HCO.out)
        have hcut : splitC 10 s = linesL k f ++ [[]] := by
          rw [HX0.out, HL.out, List.take_of_length_le (by rw [HN.out]; omega)]
        have HCUT := shade hcut
        clear hcut HL HX0
        rcases hv : vcB k f with _ | _
        · rw [hv] at HVC
          have HNO := shade (NoC.bad HCUT.out HV.out hv)
          clear hv
          go_wp2_with fail
          refine HVC.out.mono ?_
          rintro e w2 ⟨rfl, hg2⟩
          have HG2 := shade (grown_same HG.out (grown_same HCB.out.low hg2))
          clear hg2
          go_wp2_with fail
          go_ret2
          exact ⟨none, 0, 0, f, false, rfl, fun e => (by cases e), fun _ => ⟨HNO.out, rfl⟩, .inl rfl, by omega, HG2.out, by intro _ _ e; cases e⟩
        · rw [hv] at HVC
          have HV1 := shade hv
          have hk40 : k ≤ 40 := by
            by_cases h : 40 < k
            · rw [vcB_big h] at hv
              cases hv
            · omega
          clear hv
          go_wp2_with fail
          refine HVC.out.mono ?_
          rintro e w2 ⟨rfl, hg2⟩
          have HG2 := shade (grown_same HG.out (grown_same HCB.out.low hg2))
          have HC2 := shade (HCO.out.on hg2)
          clear hg2
          go_wp2_with fail
          go_ret2
          exact ⟨A0, k, c0, f, true, rfl, fun _ => ⟨HCUT.out, HV.out, HV1.out⟩, fun e => (by cases e), HC2.out, hk40, HG2.out, HAB.out⟩
  · have hE : (tx x).toList.isEmpty = false := by
      rw [tx_toList]
      simpa using hxe
    have HNO := shade (NoC.last HX.out hxe)
    clear hxe
    go_wp2_with fail
    go_ret2
    exact ⟨none, 0, 0, fun _ => zIns, false, rfl, fun e => (by cases e), fun _ => ⟨HNO.out, rfl⟩, .inl rfl, by omega, HG.out, by intro _ _ e; cases e⟩
end Go.Proofs.YtjbbmnmbcdohiaaDoor
