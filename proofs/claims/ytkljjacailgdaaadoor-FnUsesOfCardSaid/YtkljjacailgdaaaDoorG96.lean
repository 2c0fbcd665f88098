/- runOf, put together; TraceOf and its model answer alike. Rows that a call has made: what changes them, what does not; their marks. -/
import Derived.Test.YtkljjacailgdaaaDoorG94
import Derived.Test.YtkljjacailgdaaaDoorG77
namespace Go.Proofs.YtkljjacailgdaaaDoor
open Go.RowKit
theorem runEnd_ex (len : Nat) (F : Nat → Ins) (s : Sta) : ∀ fuel, ∃ k, RunEnd len F s fuel k := by
  intro fuel
  induction fuel with
  | zero => exact ⟨0, Nat.le_refl _, fun i hi => absurd hi (Nat.not_lt_zero i), .inl rfl⟩
  | succ fuel ih =>
    obtain ⟨k, h1, h2, h3⟩ := ih
    rcases hh : sHalt len F (sN F s k) with _ | _
    · rcases h3 with h3 | h3
      · refine ⟨k + 1, by omega, fun i hi => ?_, .inl (by omega)⟩
        by_cases e : i = k
        · rw [e]
          exact hh
        · exact h2 i (by omega)
      · rw [hh] at h3
        cases h3
    · exact ⟨k, by omega, h2, .inr hh⟩
theorem runB_parts {len : Nat} {F : Nat → Ins} {at' : Int} {n1 n2 : Nat} {f1 f2 : Nat → Int} {fuel : Int} (h : runB len F at' n1 n2 f1 f2 fuel = true) : vcB len F = true ∧ vmB at' n1 n2 f1 f2 = true ∧ 0 ≤ fuel ∧ fuel ≤ 300 := by
  simp only [runB, inRB, Bool.and_eq_true, decide_eq_true_eq] at h
  exact ⟨h.1.1, h.1.2, h.2.1, h.2.2⟩
theorem runOf_no (A : Option Addr) (len cap : Nat) (F : Nat → Ins) (at' : Int) (A1 : Option Addr) (n1 c1 : Nat) (A2 : Option Addr) (n2 c2 : Nat) (f1 f2 : Nat → Int) (fuel : Int) (w : World) (hg : WT w) (hl : len ≤ 9223372036854775807) (hC : Code w A len F) (h1 : Nums w A1 n1 f1) (h2 : Nums w A2 n2 f2) (hr : runB len F at' n1 n2 f1 f2 fuel = false) : Calls Tryd.prog 66 #[.slice A len cap, MV at' A1 n1 c1 A2 n2 c2, .int .i64 fuel] w (NoRun w) := by
  rcases hv : vcB len F with _ | _
  · exact runOf_code A len cap F at' A1 n1 c1 A2 n2 c2 f1 f2 fuel w hg hl hC h1 h2 hv
  rcases hm : vmB at' n1 n2 f1 f2 with _ | _
  · exact runOf_mach A len cap F at' A1 n1 c1 A2 n2 c2 f1 f2 fuel w hg hl hC h1 h2 hv hm
  · refine runOf_fuel A len cap F at' A1 n1 c1 A2 n2 c2 f1 f2 fuel w hg hl hC h1 h2 hv hm ?_
    simp only [runB, hv, hm, inRB, Bool.true_and, Bool.and_eq_false_iff, decide_eq_false_iff_not] at hr
    omega
theorem NoRun.res {w : World} {e : Ending} {w' : World} (A : Option Addr) (len : Nat) (g : Nat → Sta) (h : NoRun w e w') : RunRes A len 0 g w e w' :=
  ⟨none, 0, 0, none, 0, zSta, false, false, h.1, .inl rfl, .inl rfl, (by intro _ _ e; cases e), h.2⟩
theorem YesRun.res {A : Option Addr} {len cap : Nat} {F : Nat → Ins} {s : Sta} {fuel K : Nat} {w : World} {e : Ending} {w' : World} (hK : RunEnd len F s fuel K) (h : YesRun A len cap F s fuel w e w') : RunRes A len K (sN F s) w e w' := by
  obtain ⟨k, A3, c3, hre, he, hst, hsep, hgr⟩ := h
  obtain rfl := hre.uniq hK
  exact ⟨A, len, cap, A3, c3, sN F s k, sHalt len F (sN F s k), true, he, .inr ⟨rfl, rfl⟩, hst, hsep, hgr⟩
/-- What runOf leaves, told ahead: how many states, and which. -/
theorem run_told (n : Nat) (F : Nat → Ins) (at' : Int) (n1 n2 : Nat) (f1 f2 : Nat → Int) (fuel : Int) (hn : n ≤ 9223372036854775807) :
    ∃ (K : Nat) (g : Nat → Sta), K ≤ 300 ∧ (∀ (A : Option Addr) (cap : Nat) (A1 : Option Addr) (c1 : Nat) (A2 : Option Addr) (c2 : Nat) (W : World), WT W → Code W A n F → Nums W A1 n1 f1 → Nums W A2 n2 f2 → Calls Tryd.prog 66 #[.slice A n cap, MV at' A1 n1 c1 A2 n2 c2, .int .i64 fuel] W (RunRes A n K g W)) ∧
      ((runB n F at' n1 n2 f1 f2 fuel = false ∧ K = 0) ∨ (runB n F at' n1 n2 f1 f2 fuel = true ∧ n1 = 4 ∧ n2 = 8 ∧ g = sN F ⟨at', f1, f2⟩ ∧ RunEnd n F ⟨at', f1, f2⟩ fuel.toNat K)) := by
  rcases hr : runB n F at' n1 n2 f1 f2 fuel with _ | _
  · exact ⟨0, fun _ => zSta, by omega, fun A cap A1 c1 A2 c2 W hg hC h1 h2 => (runOf_no A n cap F at' A1 n1 c1 A2 n2 c2 f1 f2 fuel W hg hn hC h1 h2 hr).mono fun e w' h => h.res A n _, .inl ⟨rfl, rfl⟩⟩
  · obtain ⟨hv, hm, hf0, hf1⟩ := runB_parts hr
    obtain ⟨fu, rfl⟩ := Int.eq_ofNat_of_zero_le hf0
    obtain ⟨_, rfl, rfl, _, _⟩ := vmB_parts hm
    obtain ⟨K, hK⟩ := runEnd_ex n F ⟨at', f1, f2⟩ fu
    have hle := hK.le
    refine ⟨K, _, by omega, fun A cap A1 c1 A2 c2 W hg hC h1 h2 => ?_, .inr ⟨rfl, rfl, rfl, rfl, by rw [Int.toNat_natCast]; exact hK⟩⟩
    obtain ⟨b1, o1, rfl, _⟩ := h1.resolve_left (by omega)
    obtain ⟨b2, o2, rfl, _⟩ := h2.resolve_left (by omega)
    exact (runOf_yes A n cap F ⟨at', f1, f2⟩ b1 o1 c1 b2 o2 c2 fu W hg hn hC h1 h2 hv hm (by omega)).mono fun e w' h => h.res hK
/-- TraceOf and its model leave the same numbers. -/
theorem trace_both (n : Nat) (F : Nat → Ins) (at' : Int) (n1 n2 : Nat) (f1 f2 : Nat → Int) (fuel : Int) (hn : n ≤ 9223372036854775807) (hn1 : n1 ≤ 9223372036854775807) (hn2 : n2 ≤ 9223372036854775807) :
    ∃ (K : Nat) (f : Nat → Int), K ≤ 300 ∧ (∀ (A : Option Addr) (cap : Nat) (A1 : Option Addr) (c1 : Nat) (A2 : Option Addr) (c2 : Nat) (W : World), Code W A n F → Nums W A1 n1 f1 → Nums W A2 n2 f2 → Calls Tryd.prog 42 #[.slice A n cap, MV at' A1 n1 c1 A2 n2 c2, .int .i64 fuel] W (NumRes K f W)) ∧
      (∀ (A : Option Addr) (cap : Nat) (A1 : Option Addr) (c1 : Nat) (A2 : Option Addr) (c2 : Nat) (W : World), WT W → Code W A n F → Nums W A1 n1 f1 → Nums W A2 n2 f2 → Calls Tryd.prog 28 #[.slice A n cap, MV at' A1 n1 c1 A2 n2 c2, .int .i64 fuel] W (NumRes K f W)) := by
  obtain ⟨K, g, hK, hRun, hcase⟩ := run_told n F at' n1 n2 f1 f2 fuel hn
  refine ⟨K, fun j => (g j).at', hK, fun A cap A1 c1 A2 c2 W hC h1 h2 => ?_, fun A cap A1 c1 A2 c2 W hg hC h1 h2 => ?_⟩
  · rcases hcase with ⟨hr, rfl⟩ | ⟨hr, rfl, rfl, rfl, hre⟩
    · exact SpecTraceOf_no A n cap F at' A1 n1 c1 A2 n2 c2 f1 f2 fuel W hn hC h1 h2 hn1 hn2 hr _
    · obtain ⟨hv, hm, hf0, hf1⟩ := runB_parts hr
      obtain ⟨fu, rfl⟩ := Int.eq_ofNat_of_zero_le hf0
      rw [Int.toNat_natCast] at hre
      obtain ⟨b1, o1, rfl, _⟩ := h1.resolve_left (by omega)
      obtain ⟨b2, o2, rfl, _⟩ := h2.resolve_left (by omega)
      refine (SpecTraceOf_yes A n cap F ⟨at', f1, f2⟩ b1 o1 c1 b2 o2 c2 fu W hn hC h1 h2 hv hm (by omega)).mono ?_
      rintro e w' ⟨k, hk, h⟩
      obtain rfl := hk.uniq hre
      exact h
  · exact TraceOf_res A n cap at' A1 n1 c1 A2 n2 c2 fuel K g W hK fun W' hW => hRun A cap A1 c1 A2 c2 W' (hg.below (below_of_grown hW) (wt_lt hg)) (hC.on hW) (h1.on hW) (h2.on hW)

end Go.Proofs.YtkljjacailgdaaaDoor

namespace Go.Proofs.YtkljjacailgdaaaDoor
open Go.RowKit
/-- A row that a call has made, in a stretch of memory. -/
structure RowO (wr : World) (lo hi : Nat) (e : TypeId) (v : Value) (K : Nat) (xs : List Value) : Prop where
  own : wr.ownsRow lo e 1 v K xs
  hib : ∀ i, v.ownBlock = some i → i < hi
section
variable {w w' wr w2 : World} {lo hi : Nat} {e : TypeId} {v : Value} {K : Nat} {xs : List Value} {Q1 Q2 : Option Addr}
theorem RowO.rng (h : RowO wr lo hi e v K xs) {i : Nat} (hi' : v.ownBlock = some i) : lo ≤ i ∧ i < hi := ⟨(World.ownsRow.lt h.own i hi').1, h.hib i hi'⟩
theorem RowO.grown (h : RowO wr lo hi e v K xs) (hg : wr.grownBy w2 none) : RowO w2 lo hi e v K xs := ⟨ownsRow_on h.own hg, h.hib⟩
theorem RowO.row {row : Option Nat} (h : RowO wr lo hi e v K xs) (hg : wr.grownBy w2 row) (hb : ∀ b, row = some b → b < lo ∨ hi ≤ b) : RowO w2 lo hi e v K xs := by
  refine ⟨?_, h.hib⟩
  rcases hv : v.ownBlock with _ | i
  · exact World.ownsRow.kept h.own hg (.inl hv)
  · refine World.ownsRow.kept h.own hg (.inr fun e' => ?_)
    rw [hv] at e'
    have h1 := h.rng hv
    have h2 := hb i e'.symm
    omega
theorem RowO.butO {lo' hi' : Nat} (h : RowO wr lo hi e v K xs) (hg : ButO wr w2 Q1 Q2) (hq : Within lo' hi' Q1 Q2) (hl : hi ≤ lo' ∨ hi' ≤ lo) : RowO w2 lo hi e v K xs := by
  refine ⟨⟨h.own.1, ?_⟩, h.hib⟩
  rcases h.own.2 with h' | ⟨g', cap', cur, e', hB, hg', rest⟩
  · exact .inl h'
  · have hr := h.rng (i := g') (by rw [e']; rfl)
    have hlt := (World.ownsRow.lt h.own g' (by rw [e']; rfl)).2
    refine .inr ⟨g', cap', cur, e', hB, ?_, rest⟩
    rw [hg.block g' hlt (hq.ne (by omega)).1 (hq.ne (by omega)).2]
    exact hg'
theorem RowO.nums {f : Nat → Int} (h : RowO wr lo hi 3 v K (numL K f)) : ∃ A c, v = .slice A K c ∧ Nums wr A K f := by
  rcases h.own.2 with ⟨e', h0⟩ | ⟨g', cap', cur, e', _⟩
  · exact ⟨none, 0, by rw [e', h0], .inl h0⟩
  · have ho := h.own
    rw [e'] at ho
    exact ⟨some ⟨g', 0, none⟩, cap', e', Own.nums ho⟩
/-- Where the row lies, a block may be changed: what lies elsewhere stays. -/
theorem RowO.other (h : RowO wr lo hi e v K xs) {b : Nat} (hb : b < lo ∨ hi ≤ b) : v.ownBlock ≠ some b := fun e' => by
  have := h.rng e'
  omega
end
theorem NumRes.row {k : Nat} {f : Nat → Int} {w w' : World} {e : Ending} (h : NumRes k f w e w') : ∃ v, e = .returned v ∧ RowO w' w.heap.size w'.heap.size 3 v k (numL k f) ∧ w.grownBy w' none := by
  obtain ⟨v, he, ho, hg⟩ := h
  exact ⟨v, he, ⟨ho, fun i hi => (World.ownsRow.lt ho i hi).2⟩, hg⟩
theorem SX.row {w wr w2 : World} {B : Nat} {A : Option Addr} {n : Nat} {F : Nat → Ins} {at' : Int} {A1 : Option Addr} {n1 c1 : Nat} {A2 : Option Addr} {n2 c2 : Nat} {f1 f2 : Nat → Int} (h : SX w wr B A n F at' A1 n1 c1 A2 n2 c2 f1 f2) {row : Option Nat} (g : wr.grownBy w2 row) (hb : ∀ b, row = some b → w.heap.size < b) : SX w w2 B A n F at' A1 n1 c1 A2 n2 c2 f1 f2 := by
  cases row with
  | none => exact h.grown g
  | some b => exact h.but1 g (hb b rfl)
theorem markIntS_row (lo hi K : Nat) (v : Value) (f : Nat → Int) (m : Int) (w : World) (hm0 : 0 ≤ m) (hm : m + K ≤ 9223372036854775807) (h : RowO w lo hi 3 v K (numL K f)) :
    Calls Tryd.prog 44 #[v, .int .i64 m] w fun e w' => e = .returned (.int .i64 (m + K)) ∧ RowO w' lo hi 3 v K (numL K (fun j => m + (j : Int))) ∧ w.grownBy w' v.ownBlock := by
  rcases h.own.2 with ⟨e', h0⟩ | ⟨g', cap', cur, e', _⟩
  · subst e'
    subst h0
    refine (markIntS_zero none 0 m w).mono ?_
    rintro e w' ⟨rfl, rfl⟩
    exact ⟨by simp, ⟨h.own, h.hib⟩, grown_refl _ _⟩
  · have ho := h.own
    have hb := h.hib
    subst e'
    refine (markIntS_at lo g' K cap' f m w hm0 hm ho).mono ?_
    rintro e w' ⟨rfl, h1, h2⟩
    exact ⟨rfl, ⟨h1, hb⟩, h2⟩
theorem heldIntS_row (lo hi K : Nat) (v : Value) (m : Int) (w : World) (hm0 : 0 ≤ m) (hm : m + K ≤ 9223372036854775807) (h : RowO w lo hi 3 v K (numL K (fun j => m + (j : Int)))) :
    Calls Tryd.prog 45 #[v, .int .i64 m] w fun e w' => e = .returned (.int .i64 (m + K)) ∧ w = w' := by
  obtain ⟨A, c, rfl, hn⟩ := h.nums
  exact heldIntS_any A K c m w hm0 hm hn
theorem eqIntS_row (lo1 hi1 lo2 hi2 K : Nat) (v1 v2 : Value) (f : Nat → Int) (w : World) (hK : K ≤ 300) (h1 : RowO w lo1 hi1 3 v1 K (numL K f)) (h2 : RowO w lo2 hi2 3 v2 K (numL K f)) :
    Calls Tryd.prog 43 #[v1, v2] w fun e w' => e = .returned (.bool true) ∧ w.grownBy w' none := by
  obtain ⟨A1, c1, rfl, hn1⟩ := h1.nums
  obtain ⟨A2, c2, rfl, hn2⟩ := h2.nums
  refine (eqIntS_any A1 A2 c1 c2 K f f w (by omega) hn1 hn2 (fun _ _ => rfl)).mono ?_
  rintro e w' ⟨rfl, m, rfl⟩
  exact ⟨rfl, grown_drewN (grown_refl _ _) _⟩

end Go.Proofs.YtkljjacailgdaaaDoor
