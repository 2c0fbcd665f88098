/- The numbers that are needed, by the program: the loop from the last one on. -/
import Derived.Test.YtfckmechiochlaaDoorW844
import Derived.Test.YtfckmechiochlaaDoorW842
namespace Go.Proofs.YtfckmechiochlaaDoor
open Go.RowKit Go.Shelf
set_option linter.unusedSimpArgs false
attribute [local go_sem] Oper.semAt_some
theorem info_set : (Tryd.prog.info? 61).map (fun i => (i.zero, i.size, i.bytes)) = some (some (.int .i64 0), 1, 8) := by kernel_rfl
/-- One round: what is needed still, and the rows. -/
def stp (F : Nat → Wid) (st : Nat × (Nat → Nat)) (i : Nat) : Nat × (Nat → Nat) := (cutS st.1 i ||| tk (F i), fun j => if j = i then st.1 ||| 2 ^ i else st.2 j)
theorem stp_lt {F : Nat → Wid} {n : Nat} (hv : ∀ j, j < n → okW j (F j) = true) : ∀ (l : List Nat) (st : Nat × (Nat → Nat)), (∀ i, i ∈ l → i < n) → st.1 < 2 ^ n → (l.foldl (stp F) st).1 < 2 ^ n
  | [], _, _, h => h
  | i :: l, st, hl, h => stp_lt hv l _ (fun j hj => hl j (List.mem_cons_of_mem _ hj)) (by
    have hi := hl i (List.mem_cons_self ..)
    exact Nat.or_lt_two_pow (Nat.lt_of_le_of_lt (cutS_le _ _) h) (Nat.lt_trans (tk_lt _ _ (hv i hi)) (pow_lt hi)))
theorem stp_all {F : Nat → Wid} {x n : Nat} (hn : n ≤ 8) (hv : ∀ j, j < n → okW j (F j) = true) (hx : x < 2 ^ n) (f0 : Nat → Nat) : ∀ k, k ≤ n → ((backI n k).foldl (stp F) (x, f0)).1 = lvl F x n k ∧ ∀ j, n - k ≤ j → j < n → ((backI n k).foldl (stp F) (x, f0)).2 j = rowW F x n j
  | 0, _ => ⟨rfl, fun j h1 h2 => by omega⟩
  | k + 1, hk => by
    obtain ⟨h1, h2⟩ := stp_all hn hv hx f0 k (by omega)
    rw [backI_succ, List.foldl_append]
    show (stp F _ (n - 1 - k)).1 = _ ∧ ∀ j, _ → _ → (stp F _ (n - 1 - k)).2 j = _
    generalize (backI n k).foldl (stp F) (x, f0) = st at *
    have hl := lvl_lt hv hx k (by omega)
    have hm : cutS (lvl F x n k) (n - 1 - k) = lvl F x n k % 2 ^ (n - 1 - k) := cut_mod ⟨lvl F x n k, lt256 hl (by omega)⟩ ⟨n - 1 - k, by omega⟩ (by
      show lvl F x n k < 2 ^ (n - 1 - k + 1)
      rw [show n - 1 - k + 1 = n - k by omega]
      exact hl)
    refine ⟨?_, fun j a b => ?_⟩
    · show cutS st.1 _ ||| _ = lvl F x n k % 2 ^ (n - 1 - k) ||| tk (F (n - 1 - k))
      rw [h1, hm]
    · show (if j = n - 1 - k then st.1 ||| 2 ^ (n - 1 - k) else st.2 j) = _
      by_cases e : j = n - 1 - k
      · rw [if_pos e, h1, e]
        show _ = lvl F x n (n - 1 - (n - 1 - k)) ||| 2 ^ (n - 1 - k)
        rw [show n - 1 - (n - 1 - k) = k by omega]
      · rw [if_neg e]
        exact h2 j (by omega) b
/-- The rows, the box of the slice, the box of what is needed still. -/
structure Ned (w : World) (g B n : Nat) (st : Nat × (Nat → Nat)) (W : World) : Prop where
  row : SetR w W 61 g n n st.2
  box : Holds5 W B 58 #[.slice (some ⟨g, 0, none⟩) n n]
  lat : Holds5 W (B + 1) 61 #[.int .i64 (st.1 : Int)]
  lt : g < B
  low : w.heap.size ≤ g
theorem Ned.grown {w W W' : World} {g B n : Nat} {st : Nat × (Nat → Nat)} {row : Option Nat} (h : Ned w g B n st W) (hg : W.grownBy W' row) (hr : ∀ r, row = some r → B + 1 < r) : Ned w g B n st W' := by
  have hl := h.lt
  have hw := h.low
  refine ⟨⟨World.ownsRow.kept h.row.own hg (.inr (fun e => ?_)), grown_row h.row.low hg (fun k e => ?_)⟩, h.box.grown hg (fun e => ?_), h.lat.grown hg (fun e => ?_), h.lt, h.low⟩
  · have := hr g e.symm
    omega
  · have := hr k e
    omega
  · have := hr B e.symm
    omega
  · have := hr (B + 1) e.symm
    omega
/-- A round's two stores. -/
theorem Ned.step1 {w W : World} {g B n : Nat} {st : Nat × (Nat → Nat)} (h : Ned w g B n st W) (i R : Nat) :
    Ned w g B n (st.1, fun j => if j = i then R else st.2 j) (W.setCell ⟨g, i, none⟩ (.int .i64 (R : Int))) := by
  have hl := h.lt
  refine ⟨h.row.set i R, h.box.other (p := ⟨g, i, none⟩) (by show B ≠ g; omega) _, h.lat.other (p := ⟨g, i, none⟩) (by show B + 1 ≠ g; omega) _, h.lt, h.low⟩
theorem Ned.step2 {w W : World} {g B n : Nat} {st : Nat × (Nat → Nat)} (h : Ned w g B n st W) (N : Nat) :
    Ned w g B n (N, st.2) (W.setCell ⟨B + 1, 0, none⟩ (.int .i64 (N : Int))) := by
  have hl := h.lt
  have hw := h.low
  refine ⟨h.row.other (by omega) (by omega) _, h.box.other (p := ⟨B + 1, 0, none⟩) (by show B ≠ B + 1; omega) _, ?_, h.lt, h.low⟩
  simpa using h.lat.put 0 (.int .i64 (N : Int))
set_option maxRecDepth 100000 in
set_option maxHeartbeats 8000000 in
theorem neededOf_yes (A : Option Addr) (n c x : Nat) (F : Nat → Wid) (w : World) (hw : WT w) (hv : vwB n F = true) (hx : x < 2 ^ n) (h : Wds w A n F) :
    Calls Tryd.prog 48 #[.slice A n c, .int .i64 x] w fun e w' => ∃ v, e = .returned (.tuple #[v, .bool true]) ∧ w'.ownsRow w.heap.size 61 1 v n (numL n (fun j => (rowW F x n j : Int))) ∧ w.grownBy w' none := by
  have hn := (vwB_iff.1 hv).2
  have HVW := shade (ValidWide_any A n c F w hw (by omega) h)
  rw [hv] at HVW
  have hsh : (x : Int) / 2 ^ n = 0 := by
    have : ((x / 2 ^ n : Nat) : Int) = 0 := by rw [Nat.div_eq_of_lt hx]; rfl
    simpa using this
  obtain ⟨i0, hi, hz0, hz1, hz2⟩ := info_parts info_set
  have HH := shade h
  have HV := shade (vwB_iff.1 hv).1
  have HX := shade hx
  have HW := shade hw
  have HI := shade (And.intro hi (And.intro hz0 (And.intro hz1 hz2)))
  clear h hv hx hw hi hz0 hz1 hz2
  refine (callsIn_wide (n := 8)).1 ?_
  refine callsIn_of_wp_marks Tryd.func48 rfl trivial ?_ rfl
  simp only [Tryd.ntmps48, List.size_toArray, List.length_cons, List.length_nil, Nat.reduceAdd, Nat.reduceSub, Array.replicate_succ, Array.replicate_zero, List.push_toArray, List.append_toArray, List.nil_append, List.cons_append]
  gi_wp2_with (fail)
  refine ⟨trivial, (callsIn_wide.2 HVW.out).mono ?_⟩
  rintro e w1 ⟨rfl, hg1⟩
  obtain ⟨w2, hrun, hown2, hgr2⟩ := run_make_full (P := Tryd.prog) (w := w1) w1.heap.size 58 61 i0 (.int .i64 0) 1 Tryd.underlying58 HI.out.1 HI.out.2.1 HI.out.2.2.1 .i64 .i64 n (by rw [HI.out.2.2.2]; omega) (by unfold maxLen; omega) (Nat.le_refl _)
  have hS2 : SetR w w2 61 w1.heap.size n n (fun _ => 0) := ⟨by
    have := World.ownsRow.mono hown2 hg1.size
    rw [Nat.mul_one] at this
    rw [show numL n (fun _ => ((0 : Nat) : Int)) = (madeCells #[Value.int .i64 0] n).toList from (made_nums n).symm]
    exact this, grown_same hg1 hgr2⟩
  have HS2 := shade hS2
  have b2 := hS2.blk
  have HG1 := shade hg1
  have HG2 := shade hgr2
  clear hown2 hgr2 hS2 HVW hg1
  gi_wp2_with (fail)
  refine ⟨trivial, (callsIn_wide.2 ((callsIn_wide (n := 7)).1 (backward_in Fence.wide 7 trivial rfl A n c _))).mono ?_⟩
  rintro e W3 ⟨rfl, rfl⟩
  gi_wp2_with (fail)
  have e1 := ((Holds5.fresh w2 58 #[.slice (some ⟨w1.heap.size, 0, none⟩) n n]).alloc (.cells #[.int .i64 (x : Int)] 61)).alloc (.cells #[.slice A n c] 23)
  have e2 := (Holds5.fresh (w2.alloc (.cells #[.slice (some ⟨w1.heap.size, 0, none⟩) n n] 58)) 61 #[.int .i64 (x : Int)]).alloc (.cells #[.slice A n c] 23)
  have e3 := Holds5.fresh ((w2.alloc (.cells #[.slice (some ⟨w1.heap.size, 0, none⟩) n n] 58)).alloc (.cells #[.int .i64 (x : Int)] 61)) 23 #[.slice A n c]
  rw [World.size_alloc] at e2
  rw [World.size_alloc, World.size_alloc] at e3
  have hg3 : w2.grownBy (((w2.alloc (.cells #[.slice (some ⟨w1.heap.size, 0, none⟩) n n] 58)).alloc (.cells #[.int .i64 (x : Int)] 61)).alloc (.cells #[.slice A n c] 23)) none := grown_same (grown_same (World.grownBy_alloc _ _ none) (World.grownBy_alloc _ _ none)) (World.grownBy_alloc _ _ none)
  have hz3 : (((w2.alloc (.cells #[.slice (some ⟨w1.heap.size, 0, none⟩) n n] 58)).alloc (.cells #[.int .i64 (x : Int)] 61)).alloc (.cells #[.slice A n c] 23)).heap.size = w2.heap.size + 3 := by simp
  obtain ⟨W3, hW3⟩ : ∃ W3, ((w2.alloc (.cells #[.slice (some ⟨w1.heap.size, 0, none⟩) n n] 58)).alloc (.cells #[.int .i64 (x : Int)] 61)).alloc (.cells #[.slice A n c] 23) = W3 := ⟨_, rfl⟩
  rw [hW3] at e1 e2 e3 hg3 hz3 ⊢
  clear hW3
  have hN3 : Ned w w1.heap.size w2.heap.size n (x, fun _ => 0) W3 := ⟨HS2.out.on hg3, e1, e2, b2.2, b2.1⟩
  have hgw3 : w.grownBy W3 none := hN3.row.low
  have hst := backward_stops Fence.wide 7 trivial rfl (by omega) (w2.heap.size + 1 + 1) (fun r => r = w1.heap.size ∨ r = w2.heap.size + 1) A n c F hn W3 (by omega) (by omega) (e3.look 0) (HH.out.on hgw3) (fun b off e h0 => by
    obtain ⟨b', off', e', hb, _⟩ := HH.out.resolve_left (by omega)
    rw [e] at e'
    injection e' with e'
    injection e' with e1 e2
    omega)
  have HST := shade hst
  have HN3 := shade hN3
  have HZ3 := shade hz3
  clear e1 e2 e3 hg3 hz3 hN3 hgw3 hst HS2 HG1 HG2 hrun
  refine wpIn_rangeFunc_ownH (F := Fence.wide) (n := 8) rfl (by omega) (gf := 100) (lb := #[.pointer (some ⟨w2.heap.size + 1 + 1, 0, none⟩)]) rfl trivial (enters_of Tryd.func100 (by kernel_rfl) rfl)
    HST.out (fun h k => h.trans k) (fun W l o o' _ ho hc _ => KeepP.put ho hc) (Below.refl _ _) (fun _ => rfl)
    (fun pre W => Ned w w1.heap.size w2.heap.size n ((pre.map Subtype.val).foldl (stp F) (x, fun _ => 0)) W ∧ w2.heap.size + 3 ≤ W.heap.size)
    (fun _ _ _ => False)
    (fun s X X' row hs hg hr => ⟨hs.1.grown hg (fun r e => by have := (hr r e).1; have := HZ3.out; omega), Nat.le_trans hs.2 hg.size⟩)
    (fun _ _ _ _ _ hs _ _ => hs)
    ⟨HN3.out, by have := HZ3.out; omega⟩
    (fun q a' W => ∃ Bx, w2.heap.size + 2 < Bx ∧ Holds5 W Bx 77 #[.string (F q.1).op, .int .i64 (F q.1).a, .int .i64 (F q.1).b, .int .i64 (F q.1).k] ∧ a' = { tmps := #[.slice A n c, .int .i64 (x : Int), undef, undef, .slice none 0 0, .bool false, .pointer (some ⟨w2.heap.size, 0, none⟩), .pointer (some ⟨w2.heap.size + 1, 0, none⟩), .int .i64 (q.1 : Int), .pointer (some ⟨Bx, 0, none⟩), .slice A n c, .bool true, .bool false, .bool false, .int .i64 (x : Int), .slice A n c, .int .i64 (n : Int), .int .i64 0, .bool false, .bool false, .slice A n c, .int .i64 (n : Int), .slice (some ⟨w1.heap.size, 0, none⟩) n n, .int .i64 (x : Int), .slice A n c, .func (.func 100) #[] #[.pointer (some ⟨w2.heap.size + 1 + 1, 0, none⟩)], .int .i64 (q.1 : Int), .agg #[.string (F q.1).op, .int .i64 (F q.1).a, .int .i64 (F q.1).b, .int .i64 (F q.1).k], undef, undef, undef, undef, undef, undef, undef, undef, undef, undef, undef, undef, undef], defers := [] })
    (fun q a' => ?own) ?assign ?body ?done ?stop
  case own =>
    rintro _ X X' row ⟨Bx, h1, h2, h3⟩ hg hr
    refine ⟨Bx, h1, h2.grown hg (fun e => ?_), h3⟩
    obtain ⟨_, o, ho, hc⟩ := hr Bx e.symm
    have h2' : X.heap[Bx]? = some (.cells _ _ (0, 0)) := h2
    rw [h2'] at ho
    injection ho with ho
    subst ho
    cases hc
  case assign =>
    intro l pre q W K hi hK
    dsimp only [encW]
    gi_wp2_with (fail)
    have hg := World.grownBy_alloc W (.cells #[.string (F q.1).op, .int .i64 (F q.1).a, .int .i64 (F q.1).b, .int .i64 (F q.1).k] 77) none
    refine hK _ _ ((KeepsOthers.alloc _ _).from _) (KeepP.grown hg (fun r e => by cases e)) ⟨hi.1.grown hg (fun r e => by cases e), Nat.le_trans hi.2 hg.size⟩ ⟨W.heap.size, by omega, Holds5.fresh _ _ _, rfl⟩
  case body =>
    rintro l pre q a' W hl hlp ⟨hN, hz⟩ ⟨Bx, hBx, hbx, rfl⟩ hlen
    obtain ⟨i, hin⟩ := q
    dsimp only at hbx ⊢
    have hL := stp_lt HV.out (pre.map Subtype.val) (x, fun _ => 0) (fun j hj => by
      obtain ⟨y, _, rfl⟩ := List.mem_map.1 hj
      exact y.2) HX.out
    have hfold : ((pre ++ [(⟨i, hin⟩ : { i : Nat // i < n })]).map Subtype.val).foldl (stp F) (x, fun _ => 0) = stp F ((pre.map Subtype.val).foldl (stp F) (x, fun _ => 0)) i := by
      rw [List.map_append, List.foldl_append]
      rfl
    have HF := shade hfold
    clear hfold
    generalize (pre.map Subtype.val).foldl (stp F) (x, fun _ => 0) = st at *
    obtain ⟨L, f⟩ := st
    have hL8 := lt256 hL hn
    have i8 : i < 8 := by omega
    have hok := HV.out i hin
    have H1 := shade (fun V => with_any L i V hL8 i8)
    have H2 := shade (fun V => without_cut L i V hL8 i8)
    have hM := Nat.lt_of_le_of_lt (cutS_le L i) hL8
    have hT := lt256 (tk_lt _ _ hok) (show i ≤ 8 by omega)
    have H3 := shade (fun V (hV : WT V) => takenBy_any (F i).op (F i).a (F i).b (F i).k i V hV hok (by omega))
    have eor := or63 (cutS L i) (tk (F i)) hM hT
    have HNX := shade (show stp F (L, f) i = (cutS L i ||| tk (F i), fun j => if j = i then L ||| 2 ^ i else f j) from rfl)
    have HS := shade (hN.step1 i (L ||| 2 ^ i))
    have HN := shade hN
    have c0 := hN.box.look 0
    have c1 := hN.lat.look 0
    have c2 := hN.row.cell i hin
    have f2 := hN.row.free i
    have f1 := hN.lat.free 0
    have b0 := hbx.look 0; have b1 := hbx.look 1; have b2' := hbx.look 2; have b3 := hbx.look 3
    simp at c0 c1 b0 b1 b2' b3
    have HWT := shade (HW.out.below (below_of_grown hN.row.low) (wt_lt HW.out))
    have n1 := hN.lt
    have hmx : Tryd.prog.follows .mixedOrders = true := by kernel_rfl
    clear hN hL hL8 hM hT hok hbx
    generalize L ||| 2 ^ i = R at *
    generalize cutS L i ||| tk (F i) = N at *
    generalize cutS L i = M at *
    generalize tk (F i) = TK at *
    have i0 : (0 : Int) ≤ (i : Int) := by omega
    have in0 : (i : Int) < (n : Int) := by omega
    have hws : WT (W.setCell ⟨w1.heap.size, i, none⟩ (.int .i64 (R : Int))) := HWT.out.grown (grown_set w1.heap.size i _) (fun e => by
      injection e with e
      have := wt_lt HW.out
      omega)
    have HWS := shade (show WT (W.setCell ⟨w1.heap.size, i, none⟩ (.int .i64 (R : Int))).drew.drew from hws)
    clear hws
    have hlat2 : Holds5 (W.setCell ⟨w1.heap.size, i, none⟩ (.int .i64 (R : Int))).drew.drew (w2.heap.size + 1) 61 #[.int .i64 (L : Int)] := HN.out.lat.other (p := ⟨w1.heap.size, i, none⟩) (by show w2.heap.size + 1 ≠ w1.heap.size; omega) _
    have c9d := hlat2.look 0
    simp at c9d
    have HFR := shade (fun (w9 : World) (hg : (W.setCell ⟨w1.heap.size, i, none⟩ (.int .i64 (R : Int))).drew.drew.grownBy w9 none) => (hlat2.grown hg (by intro e; cases e)).free 0)
    have HSH := shade (fun (w9 : World) (hg : (W.setCell ⟨w1.heap.size, i, none⟩ (.int .i64 (R : Int))).drew.drew.grownBy w9 none) => hg)
    have hlatc := hlat2
    clear hlat2 hlatc
    have d1 : ¬ w1.heap.size = w2.heap.size := by omega
    have d2 : ¬ w1.heap.size = w2.heap.size + 1 := by omega
    have d3 : ¬ Bx = w1.heap.size := by omega
    have d4 : ¬ Bx = w2.heap.size + 1 := by omega
    gi_wp2_with (fail)
    rename_i K hK
    have hkey : K { tmps := #[.slice A n c, .int .i64 (x : Int), undef, undef, .slice none 0 0, .bool false, .pointer (some ⟨w2.heap.size, 0, none⟩), .pointer (some ⟨w2.heap.size + 1, 0, none⟩), .int .i64 (i : Int), .pointer (some ⟨Bx, 0, none⟩), .slice A n c, .bool true, .bool false, .bool false, .int .i64 (x : Int), .slice A n c, .int .i64 (n : Int), .int .i64 0, .bool false, .bool false, .slice A n c, .int .i64 (n : Int), .slice (some ⟨w1.heap.size, 0, none⟩) n n, .int .i64 (x : Int), .slice A n c, .func (.func 100) #[] #[.pointer (some ⟨w2.heap.size + 1 + 1, 0, none⟩)], .int .i64 (i : Int), .agg #[.string (F i).op, .int .i64 (F i).a, .int .i64 (F i).b, .int .i64 (F i).k], .slice (some ⟨w1.heap.size, 0, none⟩) n n, .int .i64 (i : Int), .int .i64 (L : Int), .int .i64 (i : Int), .int .i64 (R : Int), .pointer (some ⟨w1.heap.size, i, none⟩), undef, undef, undef, undef, undef, undef, undef], defers := [] } (W.setCell ⟨w1.heap.size, i, none⟩ (.int .i64 (R : Int))).drew := by
      refine hK _ _ ?_
      gi_wp2_with (fail)
      gi_region_with_o (first
        | (refine ⟨trivial, ?_⟩; gi_at_call 79; refine (CallsIn.inRound l (callsIn_wide.2 (H2.out _))).mono ?_; rintro e w' ⟨rfl, rfl⟩)
        | (refine ⟨trivial, ?_⟩; gi_at_call 80; refine (CallsIn.inRound l (callsIn_wide.2 (H3.out _ HWS.out))).mono ?_; rintro e w9 ⟨rfl, hg9⟩; have c9 := hg9.cell c9d (by simp); have f9 := (HFR.out w9 hg9)))
      all_goals
        gi_wp2_with (fail)
        have hS1 := HS.out.grown (W' := w9) (row := none) (grown_same (grown_same (grown_drew1 _) (grown_drew1 _)) hg9) (fun r e => by cases e)
        have hS2 := hS1.step2 N
        refine ⟨?_, ?_, ?_, ?_⟩
        · exact ((KeepsOthers.setCell W ⟨w1.heap.size, i, none⟩ (.int .i64 (R : Int))).from _).trans ((KeepsFrom.of_grownBy (grown_same (grown_same (grown_drew1 _) (grown_drew1 _)) hg9) (fun j e => by cases e)).trans ((KeepsOthers.setCell w9 ⟨w2.heap.size + 1, 0, none⟩ (.int .i64 (N : Int))).from _))
        · exact ((KeepP.grown (grown_set w1.heap.size i _) (fun r e => by injection e with e; exact .inl e.symm)).trans (KeepP.grown (grown_same (grown_same (grown_drew1 _) (grown_drew1 _)) hg9) (fun r e => by cases e))).trans (KeepP.grown (grown_set (w2.heap.size + 1) 0 _) (fun r e => by injection e with e; exact .inr e.symm))
        · rw [HF.out, HNX.out]
          exact hS2
        · have z1 := hg9.size
          have z2 := (grown_set (w := W) w1.heap.size i (.int .i64 (R : Int))).size
          have z3 := (grown_set (w := w9) (w2.heap.size + 1) 0 (.int .i64 (N : Int))).size
          exact Nat.le_trans hz (Nat.le_trans z2 (Nat.le_trans z1 z3))
    gi_region_with_o (refine ⟨trivial, ?_⟩; gi_at_call 78; refine (CallsIn.inRound l (callsIn_wide.2 (H1.out _))).mono ?_; rintro e w' ⟨rfl, rfl⟩)
    all_goals exact hkey
  case done =>
    rintro D ys W hD hys ⟨hN, hz⟩ hK
    have hal := stp_all hn HV.out HX.out (fun _ => 0) n (Nat.le_refl _)
    rw [hys] at hN
    generalize (backI n n).foldl (stp F) (x, fun _ => 0) = st at *
    have c0 := hN.box.look 0
    simp at c0
    have HN := shade hN
    have HAL := shade hal
    clear hN hal hys
    gi_wp2_with (fail)
    refine ⟨by simp, .inl ⟨_, _, rfl, run_takeDeferred hK, ?_⟩⟩
    have hR5 := HN.out.grown (grownBy_putObj' W D (.deferred none)) (fun j e => by injection e with e; have := HZ3.out; omega)
    exact ⟨_, results_tmp2 rfl _ _ _, .slice (some ⟨w1.heap.size, 0, none⟩) n n, rfl, (hR5.row.congr (fun j hj => HAL.out.2 j (by omega) hj)).own, hR5.row.low⟩
  case stop =>
    rintro D cc pre W hD _ h _
    exact h.elim
end Go.Proofs.YtfckmechiochlaaDoor
