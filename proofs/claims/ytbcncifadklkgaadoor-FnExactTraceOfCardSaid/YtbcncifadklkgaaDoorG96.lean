/- runOf, put together; TraceOf and its model answer alike. Rows that a call has made: what changes them, what does not; their marks. TraceOf's exact law, walked. -/
import Derived.Test.YtbcncifadklkgaaDoorG94
import Derived.Test.YtbcncifadklkgaaDoorG77
import Derived.Deep.DeepCutAuto
namespace Go.Proofs.YtbcncifadklkgaaDoor
open Go.RowKit
theorem runEnd_ex (len : Nat) (F : Nat → Ins) (s : Sta) : ∀ fuel, ∃ k, RunEnd len F s fuel k := by
  intro fuel
  induction fuel with
  | zero => exact ⟨0, Nat.le_refl _, fun i hi => absurd hi (Nat.not_lt_zero i), .inl rfl⟩
  | succ fuel ih =>
    obtain ⟨k, h1, h2, h3⟩ := ih
    rcases hh : sHalt len F (sN F s k) with _ | _
    · rcases h3 with h3 | h3
      · refine ⟨k + 1, by omega, fun i hi => ?_, .inl (by omega)⟩
        by_cases e : i = k
        · rw [e]
          exact hh
        · exact h2 i (by omega)
      · rw [hh] at h3
        cases h3
    · exact ⟨k, by omega, h2, .inr hh⟩
theorem runB_parts {len : Nat} {F : Nat → Ins} {at' : Int} {n1 n2 : Nat} {f1 f2 : Nat → Int} {fuel : Int} (h : runB len F at' n1 n2 f1 f2 fuel = true) : vcB len F = true ∧ vmB at' n1 n2 f1 f2 = true ∧ 0 ≤ fuel ∧ fuel ≤ 300 := by
  simp only [runB, inRB, Bool.and_eq_true, decide_eq_true_eq] at h
  exact ⟨h.1.1, h.1.2, h.2.1, h.2.2⟩
theorem runOf_no (A : Option Addr) (len cap : Nat) (F : Nat → Ins) (at' : Int) (A1 : Option Addr) (n1 c1 : Nat) (A2 : Option Addr) (n2 c2 : Nat) (f1 f2 : Nat → Int) (fuel : Int) (w : World) (hg : WT w) (hl : len ≤ 9223372036854775807) (hC : Code w A len F) (h1 : Nums w A1 n1 f1) (h2 : Nums w A2 n2 f2) (hr : runB len F at' n1 n2 f1 f2 fuel = false) : Calls Tryd.prog 66 #[.slice A len cap, MV at' A1 n1 c1 A2 n2 c2, .int .i64 fuel] w (NoRun w) := by
  rcases hv : vcB len F with _ | _
  · exact runOf_code A len cap F at' A1 n1 c1 A2 n2 c2 f1 f2 fuel w hg hl hC h1 h2 hv
  rcases hm : vmB at' n1 n2 f1 f2 with _ | _
  · exact runOf_mach A len cap F at' A1 n1 c1 A2 n2 c2 f1 f2 fuel w hg hl hC h1 h2 hv hm
  · refine runOf_fuel A len cap F at' A1 n1 c1 A2 n2 c2 f1 f2 fuel w hg hl hC h1 h2 hv hm ?_
    simp only [runB, hv, hm, inRB, Bool.true_and, Bool.and_eq_false_iff, decide_eq_false_iff_not] at hr
    omega
theorem NoRun.res {w : World} {e : Ending} {w' : World} (A : Option Addr) (len : Nat) (g : Nat → Sta) (h : NoRun w e w') : RunRes A len 0 g w e w' :=
  ⟨none, 0, 0, none, 0, zSta, false, false, h.1, .inl rfl, .inl rfl, (by intro _ _ e; cases e), h.2⟩
theorem YesRun.res {A : Option Addr} {len cap : Nat} {F : Nat → Ins} {s : Sta} {fuel K : Nat} {w : World} {e : Ending} {w' : World} (hK : RunEnd len F s fuel K) (h : YesRun A len cap F s fuel w e w') : RunRes A len K (sN F s) w e w' := by
  obtain ⟨k, A3, c3, hre, he, hst, hsep, hgr⟩ := h
  obtain rfl := hre.uniq hK
  exact ⟨A, len, cap, A3, c3, sN F s k, sHalt len F (sN F s k), true, he, .inr ⟨rfl, rfl⟩, hst, hsep, hgr⟩
/-- What runOf leaves, told ahead: how many states, and which. -/
theorem run_told (n : Nat) (F : Nat → Ins) (at' : Int) (n1 n2 : Nat) (f1 f2 : Nat → Int) (fuel : Int) (hn : n ≤ 9223372036854775807) :
    ∃ (K : Nat) (g : Nat → Sta), K ≤ 300 ∧ (∀ (A : Option Addr) (cap : Nat) (A1 : Option Addr) (c1 : Nat) (A2 : Option Addr) (c2 : Nat) (W : World), WT W → Code W A n F → Nums W A1 n1 f1 → Nums W A2 n2 f2 → Calls Tryd.prog 66 #[.slice A n cap, MV at' A1 n1 c1 A2 n2 c2, .int .i64 fuel] W (RunRes A n K g W)) ∧
      ((runB n F at' n1 n2 f1 f2 fuel = false ∧ K = 0) ∨ (runB n F at' n1 n2 f1 f2 fuel = true ∧ n1 = 4 ∧ n2 = 8 ∧ g = sN F ⟨at', f1, f2⟩ ∧ RunEnd n F ⟨at', f1, f2⟩ fuel.toNat K)) := by
  rcases hr : runB n F at' n1 n2 f1 f2 fuel with _ | _
  · exact ⟨0, fun _ => zSta, by omega, fun A cap A1 c1 A2 c2 W hg hC h1 h2 => (runOf_no A n cap F at' A1 n1 c1 A2 n2 c2 f1 f2 fuel W hg hn hC h1 h2 hr).mono fun e w' h => h.res A n _, .inl ⟨rfl, rfl⟩⟩
  · obtain ⟨hv, hm, hf0, hf1⟩ := runB_parts hr
    obtain ⟨fu, rfl⟩ := Int.eq_ofNat_of_zero_le hf0
    obtain ⟨_, rfl, rfl, _, _⟩ := vmB_parts hm
    obtain ⟨K, hK⟩ := runEnd_ex n F ⟨at', f1, f2⟩ fu
    have hle := hK.le
    refine ⟨K, _, by omega, fun A cap A1 c1 A2 c2 W hg hC h1 h2 => ?_, .inr ⟨rfl, rfl, rfl, rfl, by rw [Int.toNat_natCast]; exact hK⟩⟩
    obtain ⟨b1, o1, rfl, _⟩ := h1.resolve_left (by omega)
    obtain ⟨b2, o2, rfl, _⟩ := h2.resolve_left (by omega)
    exact (runOf_yes A n cap F ⟨at', f1, f2⟩ b1 o1 c1 b2 o2 c2 fu W hg hn hC h1 h2 hv hm (by omega)).mono fun e w' h => h.res hK
/-- TraceOf and its model leave the same numbers. -/
theorem trace_both (n : Nat) (F : Nat → Ins) (at' : Int) (n1 n2 : Nat) (f1 f2 : Nat → Int) (fuel : Int) (hn : n ≤ 9223372036854775807) (hn1 : n1 ≤ 9223372036854775807) (hn2 : n2 ≤ 9223372036854775807) :
    ∃ (K : Nat) (f : Nat → Int), K ≤ 300 ∧ (∀ (A : Option Addr) (cap : Nat) (A1 : Option Addr) (c1 : Nat) (A2 : Option Addr) (c2 : Nat) (W : World), Code W A n F → Nums W A1 n1 f1 → Nums W A2 n2 f2 → Calls Tryd.prog 42 #[.slice A n cap, MV at' A1 n1 c1 A2 n2 c2, .int .i64 fuel] W (NumRes K f W)) ∧
      (∀ (A : Option Addr) (cap : Nat) (A1 : Option Addr) (c1 : Nat) (A2 : Option Addr) (c2 : Nat) (W : World), WT W → Code W A n F → Nums W A1 n1 f1 → Nums W A2 n2 f2 → Calls Tryd.prog 28 #[.slice A n cap, MV at' A1 n1 c1 A2 n2 c2, .int .i64 fuel] W (NumRes K f W)) := by
  obtain ⟨K, g, hK, hRun, hcase⟩ := run_told n F at' n1 n2 f1 f2 fuel hn
  refine ⟨K, fun j => (g j).at', hK, fun A cap A1 c1 A2 c2 W hC h1 h2 => ?_, fun A cap A1 c1 A2 c2 W hg hC h1 h2 => ?_⟩
  · rcases hcase with ⟨hr, rfl⟩ | ⟨hr, rfl, rfl, rfl, hre⟩
    · exact SpecTraceOf_no A n cap F at' A1 n1 c1 A2 n2 c2 f1 f2 fuel W hn hC h1 h2 hn1 hn2 hr _
    · obtain ⟨hv, hm, hf0, hf1⟩ := runB_parts hr
      obtain ⟨fu, rfl⟩ := Int.eq_ofNat_of_zero_le hf0
      rw [Int.toNat_natCast] at hre
      obtain ⟨b1, o1, rfl, _⟩ := h1.resolve_left (by omega)
      obtain ⟨b2, o2, rfl, _⟩ := h2.resolve_left (by omega)
      refine (SpecTraceOf_yes A n cap F ⟨at', f1, f2⟩ b1 o1 c1 b2 o2 c2 fu W hn hC h1 h2 hv hm (by omega)).mono ?_
      rintro e w' ⟨k, hk, h⟩
      obtain rfl := hk.uniq hre
      exact h
  · exact TraceOf_res A n cap at' A1 n1 c1 A2 n2 c2 fuel K g W hK fun W' hW => hRun A cap A1 c1 A2 c2 W' (hg.below (below_of_grown hW) (wt_lt hg)) (hC.on hW) (h1.on hW) (h2.on hW)

end Go.Proofs.YtbcncifadklkgaaDoor

namespace Go.Proofs.YtbcncifadklkgaaDoor
open Go.RowKit
/-- A row that a call has made, in a stretch of memory. -/
structure RowO (wr : World) (lo hi : Nat) (e : TypeId) (v : Value) (K : Nat) (xs : List Value) : Prop where
  own : wr.ownsRow lo e 1 v K xs
  hib : ∀ i, v.ownBlock = some i → i < hi
section
variable {w w' wr w2 : World} {lo hi : Nat} {e : TypeId} {v : Value} {K : Nat} {xs : List Value} {Q1 Q2 : Option Addr}
theorem RowO.rng (h : RowO wr lo hi e v K xs) {i : Nat} (hi' : v.ownBlock = some i) : lo ≤ i ∧ i < hi := ⟨(World.ownsRow.lt h.own i hi').1, h.hib i hi'⟩
theorem RowO.grown (h : RowO wr lo hi e v K xs) (hg : wr.grownBy w2 none) : RowO w2 lo hi e v K xs := ⟨ownsRow_on h.own hg, h.hib⟩
theorem RowO.row {row : Option Nat} (h : RowO wr lo hi e v K xs) (hg : wr.grownBy w2 row) (hb : ∀ b, row = some b → b < lo ∨ hi ≤ b) : RowO w2 lo hi e v K xs := by
  refine ⟨?_, h.hib⟩
  rcases hv : v.ownBlock with _ | i
  · exact World.ownsRow.kept h.own hg (.inl hv)
  · refine World.ownsRow.kept h.own hg (.inr fun e' => ?_)
    rw [hv] at e'
    have h1 := h.rng hv
    have h2 := hb i e'.symm
    omega
theorem RowO.butO {lo' hi' : Nat} (h : RowO wr lo hi e v K xs) (hg : ButO wr w2 Q1 Q2) (hq : Within lo' hi' Q1 Q2) (hl : hi ≤ lo' ∨ hi' ≤ lo) : RowO w2 lo hi e v K xs := by
  refine ⟨⟨h.own.1, ?_⟩, h.hib⟩
  rcases h.own.2 with h' | ⟨g', cap', cur, e', hB, hg', rest⟩
  · exact .inl h'
  · have hr := h.rng (i := g') (by rw [e']; rfl)
    have hlt := (World.ownsRow.lt h.own g' (by rw [e']; rfl)).2
    refine .inr ⟨g', cap', cur, e', hB, ?_, rest⟩
    rw [hg.block g' hlt (hq.ne (by omega)).1 (hq.ne (by omega)).2]
    exact hg'
theorem RowO.nums {f : Nat → Int} (h : RowO wr lo hi 3 v K (numL K f)) : ∃ A c, v = .slice A K c ∧ Nums wr A K f := by
  rcases h.own.2 with ⟨e', h0⟩ | ⟨g', cap', cur, e', _⟩
  · exact ⟨none, 0, by rw [e', h0], .inl h0⟩
  · have ho := h.own
    rw [e'] at ho
    exact ⟨some ⟨g', 0, none⟩, cap', e', Own.nums ho⟩
/-- Where the row lies, a block may be changed: what lies elsewhere stays. -/
theorem RowO.other (h : RowO wr lo hi e v K xs) {b : Nat} (hb : b < lo ∨ hi ≤ b) : v.ownBlock ≠ some b := fun e' => by
  have := h.rng e'
  omega
end
theorem NumRes.row {k : Nat} {f : Nat → Int} {w w' : World} {e : Ending} (h : NumRes k f w e w') : ∃ v, e = .returned v ∧ RowO w' w.heap.size w'.heap.size 3 v k (numL k f) ∧ w.grownBy w' none := by
  obtain ⟨v, he, ho, hg⟩ := h
  exact ⟨v, he, ⟨ho, fun i hi => (World.ownsRow.lt ho i hi).2⟩, hg⟩
theorem SX.row {w wr w2 : World} {B : Nat} {A : Option Addr} {n : Nat} {F : Nat → Ins} {at' : Int} {A1 : Option Addr} {n1 c1 : Nat} {A2 : Option Addr} {n2 c2 : Nat} {f1 f2 : Nat → Int} (h : SX w wr B A n F at' A1 n1 c1 A2 n2 c2 f1 f2) {row : Option Nat} (g : wr.grownBy w2 row) (hb : ∀ b, row = some b → w.heap.size < b) : SX w w2 B A n F at' A1 n1 c1 A2 n2 c2 f1 f2 := by
  cases row with
  | none => exact h.grown g
  | some b => exact h.but1 g (hb b rfl)
theorem markIntS_row (lo hi K : Nat) (v : Value) (f : Nat → Int) (m : Int) (w : World) (hm0 : 0 ≤ m) (hm : m + K ≤ 9223372036854775807) (h : RowO w lo hi 3 v K (numL K f)) :
    Calls Tryd.prog 44 #[v, .int .i64 m] w fun e w' => e = .returned (.int .i64 (m + K)) ∧ RowO w' lo hi 3 v K (numL K (fun j => m + (j : Int))) ∧ w.grownBy w' v.ownBlock := by
  rcases h.own.2 with ⟨e', h0⟩ | ⟨g', cap', cur, e', _⟩
  · subst e'
    subst h0
    refine (markIntS_zero none 0 m w).mono ?_
    rintro e w' ⟨rfl, rfl⟩
    exact ⟨by simp, ⟨h.own, h.hib⟩, grown_refl _ _⟩
  · have ho := h.own
    have hb := h.hib
    subst e'
    refine (markIntS_at lo g' K cap' f m w hm0 hm ho).mono ?_
    rintro e w' ⟨rfl, h1, h2⟩
    exact ⟨rfl, ⟨h1, hb⟩, h2⟩
theorem heldIntS_row (lo hi K : Nat) (v : Value) (m : Int) (w : World) (hm0 : 0 ≤ m) (hm : m + K ≤ 9223372036854775807) (h : RowO w lo hi 3 v K (numL K (fun j => m + (j : Int)))) :
    Calls Tryd.prog 45 #[v, .int .i64 m] w fun e w' => e = .returned (.int .i64 (m + K)) ∧ w = w' := by
  obtain ⟨A, c, rfl, hn⟩ := h.nums
  exact heldIntS_any A K c m w hm0 hm hn
theorem eqIntS_row (lo1 hi1 lo2 hi2 K : Nat) (v1 v2 : Value) (f : Nat → Int) (w : World) (hK : K ≤ 300) (h1 : RowO w lo1 hi1 3 v1 K (numL K f)) (h2 : RowO w lo2 hi2 3 v2 K (numL K f)) :
    Calls Tryd.prog 43 #[v1, v2] w fun e w' => e = .returned (.bool true) ∧ w.grownBy w' none := by
  obtain ⟨A1, c1, rfl, hn1⟩ := h1.nums
  obtain ⟨A2, c2, rfl, hn2⟩ := h2.nums
  refine (eqIntS_any A1 A2 c1 c2 K f f w (by omega) hn1 hn2 (fun _ _ => rfl)).mono ?_
  rintro e w' ⟨rfl, m, rfl⟩
  exact ⟨rfl, grown_drewN (grown_refl _ _) _⟩

end Go.Proofs.YtbcncifadklkgaaDoor

namespace Go.Proofs.YtbcncifadklkgaaDoor
open Go.ChangeShapes Go.WideShapes Go.ChangeAt Go.WideMaps Go.WideElems Go.RowKit
set_option maxRecDepth 100000 in
set_option maxHeartbeats 4000000 in
theorem exactTraceOf_walk (A : Option Addr) (n c : Nat) (F : Nat → Ins) (at' : Int) (A1 : Option Addr) (n1 c1 : Nat) (A2 : Option Addr) (n2 c2 : Nat) (f1 f2 : Nat → Int) (fuel : Int) (w : World) (hg : WT w) (h : Code w A n F) (hn : n ≤ 9223372036854775807) (hs : ∀ j, j < n → (F j).op.size ≤ 9223372036854775807)
    (h1 : Nums w A1 n1 f1) (h2 : Nums w A2 n2 f2) (hn1 : n1 ≤ 9223372036854775807) (hn2 : n2 ≤ 9223372036854775807) :
    Calls Tryd.prog 9 #[.slice A n c, MV at' A1 n1 c1 A2 n2 c2, .int .i64 fuel] w fun e w' => e = .returned (.bool true) ∧ Below w.heap.size w w' := by
  have HE0 := shade (show SX w (w.alloc (.cells #[.int .i64 at', .slice A1 n1 c1, .slice A2 n2 c2] 49)) w.heap.size A n F at' A1 n1 c1 A2 n2 c2 f1 f2 from
    ⟨hg.below (below_of_grown (World.grownBy_alloc _ _ none)) (wt_lt hg), h.on (World.grownBy_alloc _ _ none), ⟨Holds5.fresh _ _ _, h1.alloc _, h2.alloc _, World.grownBy_alloc _ _ _⟩, ⟨rfl, rfl, rfl, Nat.le_refl _, fun _ _ _ => rfl⟩⟩)
  have HSZ := shade (fun W (hW : Code W A n F) => szInstrS_any A n c F 1048576 W (by omega) (by omega) hn hs hW)
  clear hg h hs h1 h2
  go_enter Tryd.func9, Tryd.ntmps9
  go_wp2_with fail
  refine (HSZ.out _ HE0.out.code).mono ?_
  rintro e w1 ⟨r, rfl, hr, hgr⟩
  have HE1 := shade (HE0.out.grown hgr)
  clear hgr HSZ HE0
  rcases hr with hr | ⟨hr0, hr1⟩
  · go_wp2_with fail
    go_ret
    exact ⟨rfl, below_of_grown HE1.out.mach.low⟩
  · have hnb : n ≤ 1048576 := by omega
    have hr3 : r ≤ 1048576 := by omega
    have q0 := HE1.out.mach.box.look 0; have q1 := HE1.out.mach.box.look 1; have q2 := HE1.out.mach.box.look 2
    simp at q0 q1 q2
    have HSZ := shade (fun W => szMachine_any at' A1 n1 c1 A2 n2 c2 r W hr0 hr3 hn1 hn2)
    by_cases hbig : r - n1 < 0 ∨ r - n1 - n2 < 0
    · obtain ⟨x, hx, hx0⟩ : ∃ x : Int, (if r - n1 < 0 then -1 else if r - n1 - n2 < 0 then -1 else r - n1 - n2) = x ∧ x < 0 := ⟨_, rfl, by
        split
        · omega
        · split <;> omega⟩
      rw [hx] at HSZ
      clear hx hbig
      go_wp2_with fail
      refine (HSZ.out _).mono ?_
      rintro e w2 ⟨rfl, hgr⟩
      have HE2 := shade (HE1.out.grown hgr)
      clear hgr
      go_wp2_with fail
      go_ret
      exact ⟨rfl, below_of_grown HE2.out.mach.low⟩
    · obtain ⟨x, hx, hx0⟩ : ∃ x : Int, (if r - n1 < 0 then -1 else if r - n1 - n2 < 0 then -1 else r - n1 - n2) = x ∧ 0 ≤ x := ⟨_, rfl, by
        split
        · omega
        · split <;> omega⟩
      rw [hx] at HSZ
      have m1 : n1 ≤ 1048576 := by omega
      have m2 : n2 ≤ 1048576 := by omega
      clear hx hbig
      go_wp2_with fail
      refine (HSZ.out _).mono ?_
      rintro e w2 ⟨rfl, hgr⟩
      have HE2 := shade (HE1.out.grown hgr)
      clear hgr HE1 HSZ q0 q1 q2
      obtain ⟨K, f, hK, HSpec, HImpl⟩ := trace_both n F at' n1 n2 f1 f2 fuel hn hn1 hn2
      have HSp := shade HSpec
      have HIm := shade HImpl
      clear HSpec HImpl
      go_upto_region 8 with (fail)
      go_cut [8] (fun s8 wx => RowO wx (w.heap.size + 1) wx.heap.size 3 s8 K (numL K f) ∧ SX w wx w.heap.size A n F at' A1 n1 c1 A2 n2 c2 f1 f2)
      case first =>
        have HA := shade (HE2.out.grown (grown_drew1 w2))
        go_region_held3 (fun w' => w'.cell? ⟨w.heap.size, 0, none⟩ = some (.int .i64 at') ∧ w'.cell? ⟨w.heap.size, 1, none⟩ = some (.slice A1 n1 c1) ∧ w'.cell? ⟨w.heap.size, 2, none⟩ = some (.slice A2 n2 c2))
          (first | with_reducible exact HA.out.box3 | with_reducible exact HB.out.box3 | with_reducible exact HC.out.box3 | with_reducible exact HD.out.box3)
          (first
            | (go_at_call 35; refine (toInstrS_any A n c F _ hnb HA.out.code).mono ?_; rintro e w3 ⟨rfl, hc3, hgr⟩; have HB := shade (HA.out.grown hgr); have HBC := shade hc3.code; clear hgr hc3)
            | (go_at_call 36; refine (toMachine_any at' A1 A2 n1 n2 c1 c2 f1 f2 _ m1 m2 HB.out.mach.N1 HB.out.mach.N2).mono ?_; rintro e w4 ⟨g1, k1, g2, k2, rfl, hne, ho1, ho2, hgr⟩; have HC := shade (HB.out.grown hgr); have HCC := shade (HBC.out.on hgr); have HO1 := shade ho1.nums; have HO2 := shade ho2.nums; clear hgr ho1 ho2)
            | (go_at_call 42; refine (HSp.out _ _ _ _ _ _ _ HCC.out HO1.out HO2.out).mono ?_; rintro e w5 h5; obtain ⟨v0, rfl, hR, hgr⟩ := NumRes.row h5; have HD := shade (HC.out.grown hgr); have HR := shade (show RowO w5 (w.heap.size + 1) w5.heap.size 3 v0 K (numL K f) from ⟨World.ownsRow.mono hR.own (by have := HC.out.lt; omega), hR.hib⟩); clear hgr hR h5))
        all_goals (go_wp2_with fail; go_meet; exact ⟨HR.out, HD.out⟩)
      case rest =>
        clear HE2
        obtain ⟨hP, hS⟩ := hcut
        have HP := shade hP
        have HS := shade hS
        have lw := hS.lt
        clear hP hS
        go_wp2_with fail
        refine (toInstrS_any A n c F _ hnb HS.out.code).mono ?_
        rintro e w3 ⟨rfl, hc3, hgr⟩
        have HS3 := shade (HS.out.grown hgr)
        have HP3 := shade (HP.out.grown hgr)
        have HX3 := shade hc3
        have l3 := (OwnC_lt hc3).2
        clear hgr hc3 HS HP
        have q0 := HS3.out.mach.box.look 0; have q1 := HS3.out.mach.box.look 1; have q2 := HS3.out.mach.box.look 2
        simp at q0 q1 q2
        go_wp2_with fail
        refine (toMachine_any at' A1 A2 n1 n2 c1 c2 f1 f2 _ m1 m2 HS3.out.mach.N1 HS3.out.mach.N2).mono ?_
        rintro e w4 ⟨g1, k1, g2, k2, rfl, hne, ho1, ho2, hgr⟩
        have hga := World.grownBy_alloc w4 (.cells #[.int .i64 at', .slice (some ⟨g1, 0, none⟩) n1 k1, .slice (some ⟨g2, 0, none⟩) n2 k2] 31) none
        have HS4 := shade (HS3.out.grown (grown_same hgr hga))
        have HP4 := shade (HP3.out.grown (grown_same hgr hga))
        have HX4 := shade (OwnC_on HX3.out (grown_same hgr hga))
        have HY4 := shade (show Boxed (w4.alloc (.cells #[.int .i64 at', .slice (some ⟨g1, 0, none⟩) n1 k1, .slice (some ⟨g2, 0, none⟩) n2 k2] 31)) w4.heap.size w3.heap.size w4.heap.size at' (some ⟨g1, 0, none⟩) n1 k1 (some ⟨g2, 0, none⟩) n2 k2 f1 f2 from boxed_new hne ho1 ho2)
        have l4 := hgr.size
        clear hgr hga HS3 HP3 HX3 q0 q1 q2 ho1 ho2
        go_wp2_with fail
        refine (HIm.out _ _ _ _ _ _ _ HS4.out.wt HX4.out.code HY4.out.mem.nums.1 HY4.out.mem.nums.2).mono ?_
        rintro e w5 h5
        obtain ⟨v1, rfl, hR, hgr⟩ := NumRes.row h5
        have l5 := hgr.size
        rw [World.size_alloc] at hR l5
        have HS5 := shade (HS4.out.grown hgr)
        have HP5 := shade (HP4.out.grown hgr)
        have HX5 := shade (OwnC_on HX4.out hgr)
        have HY5 := shade (HY4.out.grown hgr)
        have HG5 := shade hR
        clear hgr HS4 HP4 HX4 HY4 hR h5
        go_wp2_with fail
        refine (eqIntS_row _ _ _ _ K _ _ f _ hK HG5.out HP5.out).mono ?_
        rintro e w6 ⟨rfl, hgr⟩
        have l6 := hgr.size
        have HS6 := shade (HS5.out.grown hgr)
        have HP6 := shade (HP5.out.grown hgr)
        have HX6 := shade (OwnC_on HX5.out hgr)
        have HY6 := shade (HY5.out.grown hgr)
        have HG6 := shade (HG5.out.grown hgr)
        clear hgr HS5 HP5 HX5 HY5 HG5
        go_wp2_with fail
        refine (toInstrS_any A n c F _ hnb HS6.out.code).mono ?_
        rintro e w7 ⟨rfl, hc7, hgr⟩
        have l7 := hgr.size
        have HS7 := shade (HS6.out.grown hgr)
        have HP7 := shade (HP6.out.grown hgr)
        have HX7 := shade (OwnC_on HX6.out hgr)
        have HY7 := shade (HY6.out.grown hgr)
        have HG7 := shade (HG6.out.grown hgr)
        have HC7 := shade hc7.code
        clear hgr HS6 HP6 HX6 HY6 HG6 hc7
        go_wp2_with fail
        refine (eqInstrS_any _ _ n n n F _ hn HX7.out.code HC7.out).mono ?_
        rintro e w8 ⟨rfl, hgr⟩
        have l8 := hgr.size
        have HS8 := shade (HS7.out.grown hgr)
        have HP8 := shade (HP7.out.grown hgr)
        have HX8 := shade (OwnC_on HX7.out hgr)
        have HY8 := shade (HY7.out.grown hgr)
        have HG8 := shade (HG7.out.grown hgr)
        clear hgr HS7 HP7 HX7 HY7 HG7 HC7
        go_upto_region 16 with (fail)
        have hgd := grown_drew1 w8
        have HS9 := shade (HS8.out.grown hgd)
        have HP9 := shade (HP8.out.grown hgd)
        have HX9 := shade (OwnC_on HX8.out hgd)
        have HY9 := shade (HY8.out.grown hgd)
        have HG9 := shade (HG8.out.grown hgd)
        clear hgd HS8 HP8 HX8 HY8 HG8
        go_region_held3 (fun w' => (w'.cell? ⟨w.heap.size, 0, none⟩ = some (.int .i64 at') ∧ w'.cell? ⟨w.heap.size, 1, none⟩ = some (.slice A1 n1 c1) ∧ w'.cell? ⟨w.heap.size, 2, none⟩ = some (.slice A2 n2 c2)) ∧ (w'.cell? ⟨w4.heap.size, 0, none⟩ = some (.int .i64 at') ∧ w'.cell? ⟨w4.heap.size, 1, none⟩ = some (.slice (some ⟨g1, 0, none⟩) n1 k1) ∧ w'.cell? ⟨w4.heap.size, 2, none⟩ = some (.slice (some ⟨g2, 0, none⟩) n2 k2)))
          (first | with_reducible exact ⟨HS9.out.box3, HY9.out.box3⟩ | with_reducible exact ⟨HS10.out.box3, HY10.out.box3⟩ | with_reducible exact ⟨HS11.out.box3, HY11.out.box3⟩)
          (first
            | (go_at_call 36; refine (toMachine_any at' A1 A2 n1 n2 c1 c2 f1 f2 _ m1 m2 HS9.out.mach.N1 HS9.out.mach.N2).mono ?_; rintro e w10 ⟨v1, t1, v2, t2, rfl, _, ho1, ho2, hgr⟩; have l10 := hgr.size; have HS10 := shade (HS9.out.grown hgr); have HP10 := shade (HP9.out.grown hgr); have HX10 := shade (OwnC_on HX9.out hgr); have HY10 := shade (HY9.out.grown hgr); have HG10 := shade (HG9.out.grown hgr); have HO1 := shade ho1.nums; have HO2 := shade ho2.nums; clear hgr ho1 ho2)
            | (go_at_call 37; refine (eqMachine_any at' _ _ _ _ n1 n2 _ _ _ _ f1 f2 _ hn1 hn2 HY10.out.mem.nums.1 HY10.out.mem.nums.2 HO1.out HO2.out).mono ?_; rintro e w11 ⟨rfl, hgr⟩; have l11 := hgr.size; have HS11 := shade (HS10.out.grown hgr); have HP11 := shade (HP10.out.grown hgr); have HX11 := shade (OwnC_on HX10.out hgr); have HY11 := shade (HY10.out.grown hgr); have HG11 := shade (HG10.out.grown hgr); clear hgr))
        rename_i hHeld
        clear hHeld HS9 HP9 HX9 HY9 HG9 HS10 HP10 HX10 HY10 HG10 HO1 HO2
        go_wp2_with fail
        refine (markInstrS_at _ wc.heap.size n n F 1 _ hnb (by omega) (by omega) HX11.out).mono ?_
        rintro e w12 ⟨rfl, _, hgr⟩
        have l12 := hgr.size
        have HS12 := shade (HS11.out.but1 hgr lw)
        have HP12 := shade (HP11.out.row hgr (fun b e => by injection e with e; omega))
        have HY12 := shade (HY11.out.but1 hgr (by omega) (by omega))
        have HG12 := shade (HG11.out.row hgr (fun b e => by injection e with e; omega))
        clear hgr HS11 HP11 HX11 HY11 HG11
        have y0 := HY12.out.box.look 0; have y1 := HY12.out.box.look 1; have y2 := HY12.out.box.look 2
        simp at y0 y1 y2
        go_wp2_with fail
        refine (markMachine_res at' w3.heap.size _ n1 k1 _ n2 k2 f1 f2 (1 + 5 * (n : Int)) _ (by omega) (by omega) (by omega) (by omega) HY12.out.mem).mono ?_
        rintro e w13 ⟨rfl, _, hb⟩
        have l13 := hb.size
        have HS13 := shade (HS12.out.butO hb HY12.out.within (by omega))
        have HP13 := shade (HP12.out.butO hb HY12.out.within (by omega))
        have HG13 := shade (HG12.out.butO hb HY12.out.within (by omega))
        clear hb HS12 HP12 HY12 HG12 y0 y1 y2
        go_wp2_with fail
        refine (eqIntS_row _ _ _ _ K _ _ f _ hK HG13.out HP13.out).mono ?_
        rintro e w14 ⟨rfl, hgr⟩
        have l14 := hgr.size
        have HS14 := shade (HS13.out.grown hgr)
        have HP14 := shade (HP13.out.grown hgr)
        have HG14 := shade (HG13.out.grown hgr)
        clear hgr HS13 HP13 HG13
        go_wp2_with fail
        refine (markIntS_row _ _ K _ f 1 _ (by omega) (by omega) HG14.out).mono ?_
        rintro e w15 ⟨rfl, hm, hb⟩
        have l15 := hb.size
        have HS15 := shade (HS14.out.row hb (fun b e => by have := (HG14.out.rng e).1; omega))
        have HP15 := shade (HP14.out.row hb (fun b e => by have := (HG14.out.rng e).1; omega))
        have HG15 := shade hm
        clear hb hm HS14 HP14 HG14
        go_wp2_with fail
        refine (heldIntS_row _ _ K _ 1 _ (by omega) (by omega) HG15.out).mono ?_
        rintro e w16 ⟨rfl, rfl⟩
        go_upto_region 31 with (fail)
        go_cut [15] (fun s15 wx => RowO wx w15.heap.size wx.heap.size 3 s15 K (numL K f) ∧ w15.grownBy wx none)
        case first =>
          have HA := shade (HS15.out.grown (grown_drew1 w15))
          have HZA := shade (grown_drew1 w15)
          go_region_held3 (fun w' => w'.cell? ⟨w.heap.size, 0, none⟩ = some (.int .i64 at') ∧ w'.cell? ⟨w.heap.size, 1, none⟩ = some (.slice A1 n1 c1) ∧ w'.cell? ⟨w.heap.size, 2, none⟩ = some (.slice A2 n2 c2))
            (first | with_reducible exact HA.out.box3 | with_reducible exact HB.out.box3 | with_reducible exact HC.out.box3 | with_reducible exact HD.out.box3)
            (first
              | (go_at_call 35; refine (toInstrS_any A n c F _ hnb HA.out.code).mono ?_; rintro e w17 ⟨rfl, hc3, hgr⟩; have HB := shade (HA.out.grown hgr); have HZB := shade (grown_same HZA.out hgr); have HBC := shade hc3.code; clear hgr hc3)
              | (go_at_call 36; refine (toMachine_any at' A1 A2 n1 n2 c1 c2 f1 f2 _ m1 m2 HB.out.mach.N1 HB.out.mach.N2).mono ?_; rintro e w18 ⟨x1, k3, x2, k4, rfl, hne3, ho1, ho2, hgr⟩; have HC := shade (HB.out.grown hgr); have HZC := shade (grown_same HZB.out hgr); have HCC := shade (HBC.out.on hgr); have HO1 := shade ho1.nums; have HO2 := shade ho2.nums; clear hgr ho1 ho2)
              | (go_at_call 28; refine (HIm.out _ _ _ _ _ _ _ HC.out.wt HCC.out HO1.out HO2.out).mono ?_; rintro e w19 h5; obtain ⟨v2, rfl, hR, hgr⟩ := NumRes.row h5; have HD := shade (HC.out.grown hgr); have HZD := shade (grown_same HZC.out hgr); have HR := shade (show RowO w19 w15.heap.size w19.heap.size 3 v2 K (numL K f) from ⟨World.ownsRow.mono hR.own HZC.out.size, hR.hib⟩); clear hgr hR h5))
          all_goals (go_wp2_with fail; go_meet; exact ⟨HR.out, HZD.out⟩)
        case rest =>
          obtain ⟨hV, hgz⟩ := hcut
          have HS17 := shade (HS15.out.grown hgz)
          have HP17 := shade (HP15.out.grown hgz)
          have HG17 := shade (HG15.out.grown hgz)
          have HV17 := shade hV
          clear hgz HS15 HP15 HG15 hV
          go_wp2_with fail
          refine (eqIntS_row _ _ _ _ K _ _ f _ hK HV17.out HP17.out).mono ?_
          rintro e w18 ⟨rfl, hgr⟩
          have HS18 := shade (HS17.out.grown hgr)
          have HG18 := shade (HG17.out.grown hgr)
          clear hgr HS17 HP17 HG17 HV17
          go_wp2_with fail
          refine (heldIntS_row _ _ K _ 1 _ (by omega) (by omega) HG18.out).mono ?_
          rintro e w19 ⟨rfl, rfl⟩
          go_wp2_with fail
          go_ret
          exact ⟨rfl, below_of_grown HS18.out.mach.low⟩

end Go.Proofs.YtbcncifadklkgaaDoor
