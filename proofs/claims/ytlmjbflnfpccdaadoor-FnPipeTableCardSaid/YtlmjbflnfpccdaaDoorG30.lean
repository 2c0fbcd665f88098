/- What may go through the pipe, by the program. slices.Backward over instructions: what it hands to a loop's body. How far an instruction is behind one that writes what it reads, by the program. -/
import Derived.Test.YtlmjbflnfpccdaaDoorG10
import Derived.Test.YtlmjbflnfpccdaaDoorW52
import Derived.RangeFuncNested
import Derived.RangeFuncBound
import Derived.RangeFuncCalls
import Derived.RangeFuncLeaves
import Derived.Shelf.Abstract
import Derived.Shelf.RegionOpen
import Derived.OwnWalkIn
import Derived.TacticsInMore
import Derived.LoopNIn
import Derived.LoopIn
import Derived.Test.YtlmjbflnfpccdaaDoorW952
namespace Go.Proofs.YtlmjbflnfpccdaaDoor
open Go.RowKit
set_option linter.unusedSimpArgs false
theorem mayPass_no (A : Option Addr) (n c : Nat) (AJ : Option Addr) (m cj : Nat) (w : World) (hn : n ≤ 9223372036854775807) (h : 300 < n ∨ m ≠ n) :
    Calls Tryd.prog 55 #[.slice A n c, .slice AJ m cj] w fun e w' => e = .returned (.bool false) ∧ w.grownBy w' none := by
  by_cases h1 : 300 < n
  · go_enter Tryd.func55, Tryd.ntmps55
    go_wp2
    go_ret
    exact ⟨rfl, World.grownBy.refl _ _⟩
  · have h3 : (n : Int) ≤ 300 := by omega
    have h4 : ((m : Int) != (n : Int)) = true := by
      simp
      omega
    go_enter Tryd.func55, Tryd.ntmps55
    go_wp2
    go_ret
    exact ⟨rfl, World.grownBy.refl _ _⟩
theorem mayPass_zero (A : Option Addr) (c : Nat) (AJ : Option Addr) (cj : Nat) (w : World) :
    Calls Tryd.prog 55 #[.slice A 0 c, .slice AJ 0 cj] w fun e w' => e = .returned (.bool true) ∧ w.grownBy w' none := by
  go_enter Tryd.func55, Tryd.ntmps55
  go_wp2
  refine wp_loop_rounds 1 ?_
  rw [rounds_succ]
  go_wp2
  go_ret
  exact ⟨rfl, World.grownBy.refl _ _⟩
set_option maxHeartbeats 8000000 in
theorem mayPass_at (b off n c : Nat) (F : Nat → Ins) (AJ : Option Addr) (cj : Nat) (w : World) (hg : WT w) (hn : n ≤ 300) (h : Code w (some ⟨b, off, none⟩) n F) :
    Calls Tryd.prog 55 #[.slice (some ⟨b, off, none⟩) n c, .slice AJ n cj] w fun e w' => e = .returned (.bool (vpB n F n)) ∧ w.grownBy w' none := by
  have H := shade h
  have HG := shade hg
  clear h hg
  go_enter Tryd.func55, Tryd.ntmps55
  go_wp2
  go_loopw [19] (fun i wr => ∃ k : Nat, k ≤ n ∧ i = .int .i64 k ∧ (∀ j, j < k → pvI (F j) = true) ∧ w.grownBy wr none) (fun i _ => n - (intOf i).toNat)
  case atStart => exact ⟨0, Nat.zero_le _, rfl, fun j hj => absurd hj (by omega), World.grownBy.refl _ _⟩
  case round =>
    obtain ⟨k, hk, rfl, hall, hgr⟩ := hrel
    have HA := shade hall
    clear hall
    by_cases hkn : k < n
    · obtain ⟨q0, q1, q2, q3, q4⟩ := (H.out.on hgr).five hkn
      have HR := shade hgr
      clear hgr
      generalize hc : F k = cc at *
      obtain ⟨op, d, a, b', kk⟩ := cc
      simp only [] at q0 q1 q2 q3 q4
      have HC := shade hc
      clear hc
      have HO := shade (fun x (h : pvI ⟨op, d, a, b', kk⟩ = x) => show pvI (F k) = x by rw [HC.out]; exact h)
      have HN := shade (fun (h : pvI (F k) = true) j (hj : j < k + 1) => show pvI (F j) = true by
        by_cases e : j = k
        · rw [e]; exact h
        · exact HA.out j (by omega))
      have HVI := shade (fun W (hW : WT W) => ValidInstr_any op d a b' kk W hW)
      rcases hv : vB op.toList d a b' kk with _ | _
      · rw [hv] at HVI
        have HK := shade (HO.out false (by simp [pvI, vI, hv]))
        clear hv
        go_wp2_with fail
        refine (HVI.out _ ((HG.out.below (below_of_grown HR.out) (wt_lt HG.out)).alloc _)).mono ?_
        rintro e w2 ⟨rfl, hb⟩
        have HR2 := shade (grown_same HR.out (grown_same (World.grownBy_alloc wr _ none) (grown_of_below hb)))
        clear hb
        go_wp2_with fail
        go_ret
        exact ⟨ret_b (vpB_no hkn HK.out).symm, HR2.out⟩
      · rw [hv] at HVI
        have HV := shade hv
        clear hv
        have h9 := word9' op.toList
        have HWO := shade (fun W (hW : WT W) => wordOf_any op W hW)
        have HO2 := shade (fun (x : Bool) (hx : (op.toList == [104, 108, 116]) = x) => HO.out (!x) (by simp [pvI, vI, HV.out, hx]))
        generalize (op.toList == [104, 108, 116]) = x at *
        generalize wordN op.toList = m at *
        have HK := shade (HO2.out x rfl)
        clear HO2
        rcases x with _ | _
        all_goals
          go_wp2_with fail
          refine (HVI.out _ ((HG.out.below (below_of_grown HR.out) (wt_lt HG.out)).alloc _)).mono ?_
          rintro e w2 ⟨rfl, hb⟩
          have hP := (Holds5.fresh wr 53 #[.string op, .int .i64 d, .int .i64 a, .int .i64 b', .int .i64 kk]).below hb (by simp)
          have HR2 := shade (grown_same HR.out (grown_same (World.grownBy_alloc wr (.cells #[.string op, .int .i64 d, .int .i64 a, .int .i64 b', .int .i64 kk] 53) none) (grown_of_below hb)))
          clear hb
          have p0 := hP.look 0
          simp at p0
          clear hP
          go_wp2_with fail
          refine (HWO.out _ (HG.out.below (below_of_grown HR2.out) (wt_lt HG.out))).mono ?_
          rintro e w4 ⟨rfl, rfl⟩
          go_wp2_with fail
        · go_roundw
          case rel => exact ⟨k + 1, by omega, by go_num, HN.out HK.out, HR2.out⟩
          case measure => simp [intOf]; omega
        · go_ret
          exact ⟨ret_b (vpB_no hkn HK.out).symm, HR2.out⟩
    · have hkn2 : k = n := by omega
      subst hkn2
      have HR := shade hgr
      clear hgr
      go_wp2
      go_ret
      exact ⟨ret_b (by rw [vpB_all HA.out]; simp [hn]), HR.out⟩
theorem mayPass_any (A : Option Addr) (n c : Nat) (F : Nat → Ins) (AJ : Option Addr) (m cj : Nat) (w : World) (hg : WT w) (hn : n ≤ 9223372036854775807) (h : Code w A n F) :
    Calls Tryd.prog 55 #[.slice A n c, .slice AJ m cj] w fun e w' => e = .returned (.bool (vpB n F m)) ∧ w.grownBy w' none := by
  by_cases hb : 300 < n
  · rw [vpB_big hb]
    exact mayPass_no A n c AJ m cj w hn (.inl hb)
  by_cases hl : m = n
  · subst hl
    by_cases h0 : m = 0
    · subst h0
      exact mayPass_zero A c AJ cj w
    · obtain ⟨b, off, rfl, _⟩ := h.resolve_left h0
      exact mayPass_at b off m c F AJ cj w hg (by omega) h
  · rw [vpB_len hl]
    exact mayPass_no A n c AJ m cj w hn (.inr hl)
end Go.Proofs.YtlmjbflnfpccdaaDoor

namespace Go.Proofs.YtlmjbflnfpccdaaDoor
open Go.RowKit Go.Shelf
attribute [local go_sem] Oper.semAt_some
/-- All cells but those of some blocks are as they were. -/
def KeepP (T : Nat → Prop) (A A' : World) : Prop := A.heap.size ≤ A'.heap.size ∧ ∀ r o, ¬ T r → A.heap[r]? = some o → o.isCells = true → A'.heap[r]? = some o
theorem KeepP.refl (T : Nat → Prop) (A : World) : KeepP T A A := ⟨Nat.le_refl _, fun _ _ _ h _ => h⟩
theorem KeepP.trans {T : Nat → Prop} {A A' A'' : World} (h : KeepP T A A') (k : KeepP T A' A'') : KeepP T A A'' :=
  ⟨Nat.le_trans h.1 k.1, fun r o hr ho hc => k.2 r o hr (h.2 r o hr ho hc) hc⟩
theorem KeepP.put {T : Nat → Prop} {l : Nat} {A : World} {o o' : Obj} (hl : A.heap[l]? = some o) (ho : o.isCells = false) : KeepP T A (A.putObj l o') := by
  refine ⟨by simp, fun r p _ hp hc => (World.putObj_heap_other (fun e => ?_)).trans hp⟩
  subst e
  rw [hl] at hp
  cases hp
  rw [ho] at hc
  cases hc
theorem KeepP.grown {T : Nat → Prop} {A A' : World} {row : Option Nat} (h : A.grownBy A' row) (hr : ∀ r, row = some r → T r) : KeepP T A A' :=
  ⟨h.size, fun r _ ht ho _ => (h.block r (Array.getElem?_eq_some_iff.1 ho).1 (fun e => ht (hr r e.symm))).trans ho⟩
theorem KeepP.cell {T : Nat → Prop} {A A' : World} (h : KeepP T A A') {p : Addr} {v : Value} (hp : ¬ T p.block) (hc : A.cell? p = some v) : A'.cell? p = some v := by
  have hl := World.block_lt_of_cell? A _ hc
  have hb : A.heap[p.block]? = some A.heap[p.block] := Array.getElem?_eq_getElem hl
  have hcl : (A.heap[p.block]).isCells = true := by
    unfold World.cell? at hc
    rw [hb] at hc
    rcases ho : A.heap[p.block] with _ | _ | _ | _ | _ | _ | _ | _ <;> rw [ho] at hc <;> first | rfl | simp at hc
  rw [World.cell?_of_block ((h.2 _ _ hp hb hcl).trans hb.symm)]
  exact hc
/-- The indices that have come when k rounds are over. -/
def backI (n k : Nat) : List Nat := (List.range k).map fun j => n - 1 - j
theorem backI_succ (n k : Nat) : backI n (k + 1) = backI n k ++ [n - 1 - k] := by simp [backI, List.range_succ]
theorem backI_len (n k : Nat) : (backI n k).length = k := by simp [backI]
/-- What a round is handed. -/
def encI (n : Nat) (F : Nat → Ins) (x : { i : Nat // i < n }) : Array Value := #[Value.int .i64 (x.1 : Int), IV (F x.1).op (F x.1).d (F x.1).a (F x.1).b (F x.1).k]
set_option maxRecDepth 100000 in
set_option maxHeartbeats 4000000 in
theorem backward1_in (F0 : Fence) (m : Nat) (h7 : F0.fn 78) (hro : F0.round = none) (hm : 1 ≤ m) (l Bs b off n cap : Nat) (T : Nat → Prop) (F : Nat → Ins) (hreach : n ≤ 8) (hb : ¬ T b) (J Jx : List { i : Nat // i < n } → World → Prop)
    (hY : ∀ pre x W, J pre W → pre.length < n → YieldAt F0 (m - 1) Tryd.prog l (encI n F x) W fun e W' =>
      (e = .returned (.bool true) ∧ J (pre ++ [x]) W' ∧ KeepP T W W') ∨ (e = .returned (.bool false) ∧ Jx (pre ++ [x]) W'))
    (W : World) (hBs : ∀ W', KeepP T W W' → W'.cell? ⟨Bs, 0, none⟩ = some (.slice (some ⟨b, off, none⟩) n cap)) (hc : Code W (some ⟨b, off, none⟩) n F) (h0 : J [] W) :
    CallsIn F0 m Tryd.prog 78 #[.func (.yield l) #[] #[], .pointer (some ⟨Bs, 0, none⟩)] W fun e W' => (∃ v, e = .returned v) ∧
      ((∃ ys : List { i : Nat // i < n }, ys.map Subtype.val = backI n n ∧ J ys W') ∨ (∃ pre : List { i : Nat // i < n }, (∃ k, k ≤ n ∧ pre.map Subtype.val = backI n k) ∧ Jx pre W')) := by
  have hc0 := hBs W (KeepP.refl _ _)
  refine callsIn_of_wp Tryd.func78 rfl h7 ?_ hro
  simp only [Tryd.ntmps78, List.size_toArray, List.length_cons, List.length_nil, Nat.reduceAdd, Nat.reduceSub, Array.replicate_succ, Array.replicate_zero, List.push_toArray, List.append_toArray, List.nil_append, List.cons_append]
  gi_wp2
  clear hc0
  gi_loopw [3] (fun i wr => ∃ (k : Nat) (pre : List { i : Nat // i < n }), k ≤ n ∧ i = .int .i64 ((n : Int) - 1 - (k : Int)) ∧ pre.map Subtype.val = backI n k ∧ J pre wr ∧ KeepP T W wr)
    (fun i _ => (intOf i + 1).toNat)
  case atStart => exact ⟨0, [], Nat.zero_le _, by simp, rfl, h0, KeepP.refl _ _⟩
  case round =>
    obtain ⟨k, pre, hk, rfl, hpre, hJs, hnx⟩ := hrel
    have hplen : pre.length = k := by rw [← backI_len n k, ← hpre, List.length_map]
    by_cases hlt : k < n
    · obtain ⟨q, hq⟩ : ∃ q : Nat, n = q + k + 1 := ⟨n - 1 - k, by omega⟩
      have e1 : (n : Int) - 1 - (k : Int) = (q : Int) := by omega
      have e2 : n - 1 - k = q := by omega
      rw [e1]
      have hqn : q < n := by omega
      have hS : (pre ++ [(⟨q, hqn⟩ : { i : Nat // i < n })]).map Subtype.val = backI n (k + 1) := by rw [backI_succ, List.map_append, hpre, e2]; rfl
      have HS := shade hS
      have iq : (q : Int) < (n : Int) := by omega
      have hW : Code wr (some ⟨b, off, none⟩) n F := by
        rcases hc with h | ⟨b1, o1, e, hb1, h⟩
        · omega
        · injection e with e
          injection e with ea eb
          subst ea
          subst eb
          exact .inr ⟨b, off, rfl, Nat.lt_of_lt_of_le hb1 hnx.1, fun j i hj hi => hnx.cell (p := ⟨b, off + j * 5 + i, none⟩) hb (h j i hj hi)⟩
      obtain ⟨q0, q1, q2, q3, q4⟩ := hW.five hqn
      have hc1 := hBs wr hnx
      obtain ⟨fn, tmps, assign, body, hy, hR⟩ := hY _ ⟨q, hqn⟩ wr hJs (by omega)
      unfold encI at hy
      dsimp only at hy
      have HE := shade (show (q : Int) - 1 = (n : Int) - 1 - ((k : Int) + 1) by omega)
      clear hW hY hBs hc hS hq e1 e2 hpre hplen
      gi_wp2
      refine hR.mono ?_
      rintro e W3 (⟨rfl, hJ3, hk3⟩ | ⟨rfl, hJx3⟩)
      · gi_wp2
        go_roundw
        case rel => exact ⟨k + 1, _, by omega, by rw [HE.out]; simp, HS.out, hJ3, hnx.trans hk3⟩
        case measure => simp [intOf]
      · gi_wp2
        refine bodyPost_ret (results_none rfl _ _ _) rfl ?_
        exact ⟨⟨_, rfl⟩, .inr ⟨_, ⟨k + 1, by omega, HS.out⟩, hJx3⟩⟩
    · obtain rfl : k = n := by omega
      have e1 : (k : Int) - 1 - (k : Int) = -1 := by omega
      rw [e1]
      gi_wp2
      go_end0
      exact ⟨⟨_, rfl⟩, .inl ⟨_, hpre, hJs⟩⟩
set_option maxRecDepth 100000 in
set_option maxHeartbeats 1000000 in
theorem backward1_nil_in (F0 : Fence) (m : Nat) (h7 : F0.fn 78) (hro : F0.round = none) (l Bs : Nat) (A : Option Addr) (cap n : Nat) (J : List { i : Nat // i < n } → World → Prop) (W : World) (hBs : W.cell? ⟨Bs, 0, none⟩ = some (.slice A 0 cap)) (h0 : J [] W) :
    CallsIn F0 m Tryd.prog 78 #[.func (.yield l) #[] #[], .pointer (some ⟨Bs, 0, none⟩)] W fun e W' => (∃ v, e = .returned v) ∧ J [] W' := by
  refine callsIn_of_wp Tryd.func78 rfl h7 ?_ hro
  simp only [Tryd.ntmps78, List.size_toArray, List.length_cons, List.length_nil, Nat.reduceAdd, Nat.reduceSub, Array.replicate_succ, Array.replicate_zero, List.push_toArray, List.append_toArray, List.nil_append, List.cons_append]
  gi_wp2
  gi_loopw [3] (fun i wr => i = .int .i64 (-1) ∧ J [] wr) (fun _ _ => 0)
  case atStart => exact ⟨rfl, h0⟩
  case round =>
    obtain ⟨rfl, hJs⟩ := hrel
    gi_wp2
    go_end0
    exact ⟨⟨_, rfl⟩, hJs⟩
set_option maxHeartbeats 1000000 in
theorem backward_in (F0 : Fence) (m : Nat) (h5 : F0.fn 67) (hro : F0.round = none) (a : Option Addr) (len cap : Nat) (w : World) :
    CallsIn F0 m Tryd.prog 67 #[.slice a len cap] w fun e w' => e = .returned (.func (.func 78) #[] #[.pointer (some ⟨w.heap.size, 0, none⟩)]) ∧ w' = w.alloc (.cells #[.slice a len cap] 27) := by
  refine callsIn_of_wp Tryd.func67 rfl h5 ?_ hro
  simp only [Tryd.ntmps67, List.size_toArray, List.length_cons, List.length_nil, Nat.reduceAdd, Nat.reduceSub, Array.replicate_succ, Array.replicate_zero, List.push_toArray, List.append_toArray, List.nil_append, List.cons_append]
  gi_wp2
  go_ret
  exact ⟨rfl, rfl⟩
/-- The contract: the wide instructions come from the last one on. -/
theorem backward_stops (F0 : Fence) (m : Nat) (h7 : F0.fn 78) (hro : F0.round = none) (hm : 1 ≤ m) (Bs : Nat) (T : Nat → Prop) (A : Option Addr) (n cap : Nat) (F : Nat → Ins) (hreach : n ≤ 8) (w : World) (hBs : ¬ T Bs) (hBl : Bs < w.heap.size)
    (hc : w.cell? ⟨Bs, 0, none⟩ = some (.slice A n cap)) (hI : Code w A n F) (hA : ∀ b off, A = some ⟨b, off, none⟩ → 0 < n → ¬ T b) :
    SeqStopsK F0 m Tryd.prog 78 #[.pointer (some ⟨Bs, 0, none⟩)] (encI n F) (KeepP T) (fun ys => ys.map Subtype.val = backI n n)
      (fun pre => ∃ k, k ≤ n ∧ pre.map Subtype.val = backI n k) n w := fun l J Jx W hW _ _ hY h0 => by
  have hb : ∀ W', KeepP T W W' → W'.cell? ⟨Bs, 0, none⟩ = some (.slice A n cap) := fun W' h => h.cell (p := ⟨Bs, 0, none⟩) hBs ((hW.cell (p := ⟨Bs, 0, none⟩) hBl).trans hc)
  by_cases hz : n = 0
  · subst hz
    exact (backward1_nil_in F0 m h7 hro l Bs A cap 0 J W (hb W (KeepP.refl _ _)) h0).mono fun e W' ⟨he, hj⟩ => ⟨he, .inl ⟨_, rfl, hj⟩⟩
  · obtain ⟨b, off, rfl, hbl, hcl⟩ := hI.resolve_left hz
    exact backward1_in F0 m h7 hro hm l Bs b off n cap T F hreach (hA b off rfl (by omega)) J Jx hY W hb (.inr ⟨b, off, rfl, Nat.lt_of_lt_of_le hbl hW.size, fun j i hj hi => (hW.cell (p := ⟨b, off + j * 5 + i, none⟩) hbl).trans (hcl j i hj hi)⟩) h0
end Go.Proofs.YtlmjbflnfpccdaaDoor

namespace Go.Proofs.YtlmjbflnfpccdaaDoor
open Go.RowKit
set_option linter.unusedSimpArgs false
set_option maxRecDepth 100000 in
set_option maxHeartbeats 2000000 in
theorem lag_any (c : Ins) (fw : Bool) (w : World) (hg : WT w) :
    Calls Tryd.prog 68 #[IV c.op c.d c.a c.b c.k, .bool fw] w fun e w' => e = .returned (.int .i64 (lg c fw)) ∧ w.grownBy w' none := by
  obtain ⟨op, d, a, b, k⟩ := c
  unfold lg
  dsimp only
  have h5 := word5 op.toList
  have HWO := shade (fun W (hW : WT W) => wordOf_any op W hW)
  have HG := shade hg
  clear hg
  rcases fw with _ | _
  · go_enter Tryd.func68, Tryd.ntmps68
    go_wp2_with fail
    go_ret
    exact ⟨rfl, World.grownBy_alloc _ _ none⟩
  · generalize (op.toList == [108, 100]) = x at *
    generalize wordN op.toList = n at *
    rcases x with _ | _
    all_goals
      go_enter Tryd.func68, Tryd.ntmps68
      go_wp2_with fail
      refine (HWO.out _ (HG.out.alloc _)).mono ?_
      rintro e w1 ⟨rfl, rfl⟩
      go_wp2_with fail
      go_ret
      exact ⟨rfl, World.grownBy_alloc _ _ none⟩
end Go.Proofs.YtlmjbflnfpccdaaDoor
