/- Jumps that lead straight on: plain facts. A copy of a program; where a row of jmps leads. Jumps that lead straight on, by the program. Jumps that lead straight on, by the model. SkipCode and its model answer alike. -/
import Derived.Test.YtjeflaodeafhbaaDoorG600
import Derived.Test.YtjeflaodeafhbaaDoorH400
import Derived.Test.YtjeflaodeafhbaaDoorG605
import Derived.Lib.SliceRun
import Derived.Deep.RegionHeld3
namespace Go.Proofs.YtjeflaodeafhbaaDoor
open Go.RowKit
/-- Is there a jmp? -/
def isJ (F : Nat → Ins) (n x : Nat) : Bool := decide (x < n) && ((F x).op.toList == [106, 109, 112])
/-- Where j jmps lead. -/
def stp (F : Nat → Ins) (n x : Nat) : Nat → Nat
  | 0 => x
  | j + 1 => if isJ F n (stp F n x j) = true then (F (stp F n x j)).k.toNat else stp F n x j
/-- Where a row of jmps leads in the end. -/
def ledN (F : Nat → Ins) (n x : Nat) : Nat := if isJ F n (stp F n x (n + 1)) = true then x else stp F n x (n + 1)
/-- An instruction whose jump leads straight on. -/
def ldF (F : Nat → Ins) (n i : Nat) : Ins := if jmpB (F i).op.toList = true then ⟨(F i).op, (F i).d, (F i).a, (F i).b, ((ledN F n (F i).k.toNat : Nat) : Int)⟩ else F i
/-- Is it no jump to the one behind it? -/
def skG (F : Nat → Ins) (n i : Nat) : Bool := !(jmpB (F i).op.toList && ((ldF F n i).k == (i : Int) + 1))
theorem isJ_parts {F : Nat → Ins} {n x : Nat} (h : isJ F n x = true) : x < n ∧ ((F x).op.toList == [106, 109, 112]) = true := by
  simpa [isJ] using h
theorem stp_yes {F : Nat → Ins} {n x j : Nat} (h : isJ F n (stp F n x j) = true) : stp F n x (j + 1) = (F (stp F n x j)).k.toNat := by
  show (if _ then _ else _) = _
  rw [if_pos h]
theorem stp_no {F : Nat → Ins} {n x j : Nat} (h : isJ F n (stp F n x j) = false) : stp F n x (j + 1) = stp F n x j := by
  show (if _ then _ else _) = _
  rw [h, if_neg (by simp)]
theorem jmp_of {F : Nat → Ins} {x : Nat} (h : ((F x).op.toList == [106, 109, 112]) = true) : jmpB (F x).op.toList = true := by
  unfold jmpB
  rw [h, Bool.or_true]
theorem stp_le {F : Nat → Ins} {n x : Nat} (hv : vcB n F = true) (hx : x ≤ n) : ∀ j, stp F n x j ≤ n := by
  intro j
  induction j with
  | zero => exact hx
  | succ j ih =>
    rcases h : isJ F n (stp F n x j) with _ | _
    · rw [stp_no h]
      exact ih
    · rw [stp_yes h]
      obtain ⟨h1, h2⟩ := isJ_parts h
      have := okI_k hv h1 (jmp_of h2)
      omega
theorem stp_stop {F : Nat → Ins} {n x r : Nat} (h : isJ F n (stp F n x r) = false) : ∀ t, stp F n x (r + t) = stp F n x r := by
  intro t
  induction t with
  | zero => rfl
  | succ t ih =>
    show stp F n x (r + t + 1) = _
    rw [stp_no (by rw [ih]; exact h)]
    exact ih
theorem stp_same {F : Nat → Ins} {n x a b : Nat} (h : stp F n x a = stp F n x b) : ∀ t, stp F n x (a + t) = stp F n x (b + t) := by
  intro t
  induction t with
  | zero => exact h
  | succ t ih =>
    show (if isJ F n (stp F n x (a + t)) = true then (F (stp F n x (a + t))).k.toNat else stp F n x (a + t)) = (if isJ F n (stp F n x (b + t)) = true then (F (stp F n x (b + t))).k.toNat else stp F n x (b + t))
    rw [ih]
/-- More than n numbers below n: two are the same. -/
theorem two_same : ∀ (n : Nat) (f : Nat → Nat), (∀ j, j ≤ n → f j < n) → ∃ a b, a < b ∧ b ≤ n ∧ f a = f b := by
  intro n
  induction n with
  | zero =>
    intro f h
    exact absurd (h 0 (Nat.le_refl _)) (Nat.not_lt_zero _)
  | succ n ih =>
    intro f h
    by_cases hs : ∃ j, j ≤ n ∧ f j = f (n + 1)
    · obtain ⟨j, hj, e⟩ := hs
      exact ⟨j, n + 1, by omega, Nat.le_refl _, e⟩
    · have hne : ∀ j, j ≤ n → f j ≠ f (n + 1) := fun j hj e => hs ⟨j, hj, e⟩
      obtain ⟨a, b, hab, hb, e⟩ := ih (fun j => if f j = n then f (n + 1) else f j) (fun j hj => by
        have h1 := h j (by omega)
        have h2 := h (n + 1) (by omega)
        have h3 := hne j hj
        show (if f j = n then f (n + 1) else f j) < n
        split
        · omega
        · omega)
      refine ⟨a, b, hab, by omega, ?_⟩
      have ha := hne a (by omega)
      have hb2 := hne b hb
      have e2 : (if f a = n then f (n + 1) else f a) = (if f b = n then f (n + 1) else f b) := e
      split at e2
      · split at e2
        · omega
        · exact absurd e2.symm hb2
      · split at e2
        · exact absurd e2 ha
        · exact e2
/-- A row of more jmps than there are instructions goes on in a circle. -/
theorem circle {F : Nat → Ins} {n x : Nat} (h : ∀ j, j ≤ n → isJ F n (stp F n x j) = true) : isJ F n (stp F n x (n + 1)) = true := by
  obtain ⟨a, b, hab, hb, e⟩ := two_same n (stp F n x) (fun j hj => (isJ_parts (h j hj)).1)
  have h1 := stp_same e (n + 1 - b)
  rw [show b + (n + 1 - b) = n + 1 by omega] at h1
  rw [← h1]
  exact h _ (by omega)
theorem led_stop {F : Nat → Ins} {n x r : Nat} (hr : r ≤ n + 1) (h : isJ F n (stp F n x r) = false) : ledN F n x = stp F n x r := by
  have h1 := stp_stop h (n + 1 - r)
  rw [show r + (n + 1 - r) = n + 1 by omega] at h1
  unfold ledN
  rw [h1, h, if_neg (by simp)]
theorem led_circle {F : Nat → Ins} {n x : Nat} (h : ∀ j, j ≤ n → isJ F n (stp F n x j) = true) : ledN F n x = x := by
  unfold ledN
  rw [if_pos (circle h)]
theorem led_le {F : Nat → Ins} {n x : Nat} (hv : vcB n F = true) (hx : x ≤ n) : ledN F n x ≤ n := by
  unfold ledN
  split
  · exact hx
  · exact stp_le hv hx _
theorem ldF_yes {F : Nat → Ins} {n i : Nat} (h : jmpB (F i).op.toList = true) : ldF F n i = ⟨(F i).op, (F i).d, (F i).a, (F i).b, ((ledN F n (F i).k.toNat : Nat) : Int)⟩ := if_pos h
theorem ldF_no {F : Nat → Ins} {n i : Nat} (h : jmpB (F i).op.toList = false) : ldF F n i = F i := if_neg (by rw [h]; simp)
theorem ldF_op (F : Nat → Ins) (n i : Nat) : (ldF F n i).op = (F i).op ∧ (ldF F n i).d = (F i).d ∧ (ldF F n i).a = (F i).a ∧ (ldF F n i).b = (F i).b := by
  unfold ldF
  split <;> exact ⟨rfl, rfl, rfl, rfl⟩
set_option maxHeartbeats 1000000 in
/-- A program whose jumps lead straight on is one. -/
theorem ldF_valid {F : Nat → Ins} {n : Nat} (hv : vcB n F = true) : vcB n (ldF F n) = true := by
  have hn := vcB_40 hv
  rw [vcB_all (n := n) (fun j hj => ?_)]
  · exact decide_eq_true hn
  have h1 := okI_vcB hv hj
  rcases hj2 : jmpB (F j).op.toList with _ | _
  · rw [ldF_no hj2]
    exact h1
  · have hk := okI_k hv hj hj2
    have hw := jmp78 hj2
    have hl := led_le (x := (F j).k.toNat) hv (by omega)
    rw [ldF_yes hj2]
    unfold okI at h1 ⊢
    simp only [Bool.and_eq_true] at h1 ⊢
    have h2 := vB_true.1 h1.1
    refine ⟨vB_true.2 ?_, ?_⟩
    · unfold VI at h2 ⊢
      generalize wordN (F j).op.toList = x at *
      omega
    · rw [decide_eq_false (by omega)]
      simp
end Go.Proofs.YtjeflaodeafhbaaDoor

namespace Go.Proofs.YtjeflaodeafhbaaDoor
open Go.RowKit
set_option linter.unusedSimpArgs false
theorem isJ_end (F : Nat → Ins) (n : Nat) : isJ F n n = false := by
  unfold isJ
  rw [decide_eq_false (Nat.lt_irrefl n), Bool.false_and]
theorem isJ_in {F : Nat → Ins} {n y : Nat} (h : y < n) : isJ F n y = ((F y).op.toList == [106, 109, 112]) := by
  unfold isJ
  rw [decide_eq_true h, Bool.true_and]
theorem stp_row {F : Nat → Ins} {n x r : Nat} (h : ∀ j, j < r → isJ F n (stp F n x j) = true) (hr : isJ F n (stp F n x r) = true) : ∀ j, j < r + 1 → isJ F n (stp F n x j) = true := fun j hj => by
  by_cases e : j = r
  · rw [e]
    exact hr
  · exact h j (by omega)
set_option maxRecDepth 100000 in
set_option maxHeartbeats 4000000 in
theorem straight_any (A : Option Addr) (n c x : Nat) (F : Nat → Ins) (w : World) (hv : vcB n F = true) (hwt : WT w) (h : Code w A n F) (hx : x ≤ n) :
    Calls Tryd.prog 87 #[.slice A n c, .int .i64 (x : Int)] w fun e w' => e = .returned (.int .i64 ((ledN F n x : Nat) : Int)) ∧ w.grownBy w' none := by
  have hn := vcB_40 hv
  have HV := shade hv; have HWT := shade hwt; have HC := shade h
  clear hv hwt h
  go_enter Tryd.func87, Tryd.ntmps87
  go_wp2_with fail
  go_loopw [5, 10] (fun a q wr => ∃ r : Nat, r ≤ n + 1 ∧ a = .int .i64 ((stp F n x r : Nat) : Int) ∧ q = .int .i64 (r : Int) ∧ (∀ j, j < r → isJ F n (stp F n x j) = true) ∧ w.grownBy wr none) (fun _ q _ => n + 1 - (intOf q).toNat)
  case atStart => exact ⟨0, Nat.zero_le _, rfl, rfl, fun j hj => absurd hj (Nat.not_lt_zero j), grown_refl _ _⟩
  case round =>
    obtain ⟨r, hr, rfl, rfl, hj, hgr⟩ := hrel
    have HJ := shade hj; have HG := shade hgr
    clear hj hgr
    by_cases hrn : r < n + 1
    · have hyn := stp_le HV.out hx r
      have HS := shade (fun h => led_stop (x := x) (F := F) hr h)
      have HY := shade (fun h => stp_yes (F := F) (n := n) (x := x) (j := r) h)
      have HR := shade (fun h => stp_row HJ.out h)
      have hri : (r : Int) < (n : Int) + 1 := by omega
      clear HJ
      generalize stp F n x r = y at *
      by_cases hy : y = n
      · subst hy
        have h1 := HS.out (isJ_end F y)
        have hb : ((y : Int) == (y : Int)) = true := by simp
        clear HS HY HR
        go_wp2_with fail
        go_ret
        exact ⟨by rw [h1]; rfl, HG.out⟩
      · have hlt : y < n := by omega
        have hb : ((y : Int) == (n : Int)) = false := beq_eq_false_iff_ne.2 (by omega)
        obtain ⟨cb, co, rfl, -⟩ := HC.out.resolve_left (by omega)
        obtain ⟨q0, q1, q2, q3, q4⟩ := (HC.out.on HG.out).five hlt
        have hI := isJ_in (F := F) hlt
        have hjk := okI_k HV.out hlt
        have hWT := HWT.out.below (below_of_grown HG.out) (wt_lt HWT.out)
        have HWT2 := shade hWT
        clear hWT
        generalize F y = cc at *
        obtain ⟨op, d, a, b', kk⟩ := cc
        simp only [] at q0 q1 q2 q3 q4 hI hjk
        have HW := shade (fun W (hW : WT W) => wordOf_any op W hW)
        have h8 : (wordN op.toList != 8) = !(op.toList == [106, 109, 112]) := by rw [bne, word8]
        rcases e8 : (op.toList == [106, 109, 112]) with _ | _
        · rw [e8] at h8 hI
          have h1 := HS.out hI
          clear e8 HS HY HR hjk hI
          generalize wordN op.toList = u at *
          go_wp2_with fail
          refine (HW.out _ HWT2.out).mono ?_
          rintro e w2 ⟨rfl, rfl⟩
          go_wp2_with fail
          go_ret
          exact ⟨by rw [h1]; rfl, HG.out⟩
        · rw [e8] at h8 hI
          have h1 := HY.out hI
          have HRR := shade (HR.out hI)
          obtain ⟨k0, -⟩ := hjk (by unfold jmpB; rw [e8, Bool.or_true])
          obtain ⟨kn, rfl⟩ := Int.eq_ofNat_of_zero_le k0
          have HK := shade (show stp F n x (r + 1) = kn from by rw [h1]; exact Int.toNat_natCast kn)
          clear e8 HS HY HR hjk hI h1
          generalize wordN op.toList = u at *
          go_wp2_with fail
          refine (HW.out _ HWT2.out).mono ?_
          rintro e w2 ⟨rfl, rfl⟩
          go_wp2_with fail
          go_roundw
          case rel => exact ⟨r + 1, by omega, by rw [HK.out], by go_num, HRR.out, HG.out⟩
          case measure => simp [intOf]; omega
    · obtain rfl : r = n + 1 := by omega
      have h1 : ledN F n x = x := led_circle (fun j hj => HJ.out j (by omega))
      go_wp2_with fail
      go_ret
      exact ⟨by rw [h1]; rfl, HG.out⟩
set_option maxRecDepth 100000 in
set_option maxHeartbeats 4000000 in
theorem endOf_any (A : Option Addr) (n c x : Nat) (F : Nat → Ins) (w : World) (hv : vcB n F = true) (h : Code w A n F) (hx : x ≤ n) :
    Calls Tryd.prog 89 #[.slice A n c, .int .i64 (x : Int)] w fun e w' => e = .returned (.int .i64 ((stp F n x (n + 1) : Nat) : Int)) ∧ w.grownBy w' none := by
  have hn := vcB_40 hv
  have HV := shade hv; have HC := shade h
  clear hv h
  go_enter Tryd.func89, Tryd.ntmps89
  go_wp2_with fail
  go_loopw [1, 5] (fun a q wr => ∃ r : Nat, r ≤ n + 1 ∧ a = .int .i64 ((stp F n x r : Nat) : Int) ∧ q = .int .i64 (r : Int) ∧ w.grownBy wr none) (fun _ q _ => n + 1 - (intOf q).toNat)
  case atStart => exact ⟨0, Nat.zero_le _, rfl, rfl, grown_refl _ _⟩
  case round =>
    obtain ⟨r, hr, rfl, rfl, hgr⟩ := hrel
    have HG := shade hgr
    clear hgr
    by_cases hrn : r ≤ n
    · have hyn := stp_le HV.out hx r
      have HS := shade (show isJ F n (stp F n x r) = false → stp F n x (n + 1) = stp F n x r from fun h => by
        have h1 := stp_stop h (n + 1 - r)
        rw [show r + (n + 1 - r) = n + 1 by omega] at h1
        exact h1)
      have HY := shade (fun h => stp_yes (F := F) (n := n) (x := x) (j := r) h)
      have hri : (r : Int) ≤ (n : Int) := by omega
      generalize stp F n x r = y at *
      by_cases hlt : y < n
      · obtain ⟨cb, co, rfl, -⟩ := HC.out.resolve_left (by omega)
        obtain ⟨q0, q1, q2, q3, q4⟩ := (HC.out.on HG.out).five hlt
        have hI := isJ_in (F := F) hlt
        have hjk := okI_k HV.out hlt
        have hlti : (y : Int) < (n : Int) := by omega
        generalize F y = cc at *
        obtain ⟨op, d, a, b', kk⟩ := cc
        simp only [] at q0 q1 q2 q3 q4 hI hjk
        rcases e8 : (op.toList == [106, 109, 112]) with _ | _
        · rw [e8] at hI
          have h1 := HS.out hI
          clear HS HY hjk hI
          go_wp2_with fail
          go_ret
          exact ⟨by rw [h1]; rfl, HG.out⟩
        · rw [e8] at hI
          have h1 := HY.out hI
          obtain ⟨k0, -⟩ := hjk (by unfold jmpB; rw [e8, Bool.or_true])
          obtain ⟨kn, rfl⟩ := Int.eq_ofNat_of_zero_le k0
          have HK := shade (show stp F n x (r + 1) = kn from by rw [h1]; exact Int.toNat_natCast kn)
          clear HS HY hjk hI h1
          go_wp2_with fail
          go_roundw
          case rel => exact ⟨r + 1, by omega, by rw [HK.out], by go_num, HG.out⟩
          case measure => simp [intOf]; omega
      · obtain rfl : y = n := by omega
        have h1 := HS.out (isJ_end F y)
        have hlti : decide ((y : Int) < (y : Int)) = false := decide_eq_false (by omega)
        clear HS HY
        go_wp2_with fail
        go_ret
        exact ⟨by rw [h1]; rfl, HG.out⟩
    · obtain rfl : r = n + 1 := by omega
      go_wp2_with fail
      go_ret
      exact ⟨rfl, HG.out⟩
theorem code_cells {W : World} {ad : Addr} {n : Nat} {F : Nat → Ins} (h : Code W (some ad) n F) : ∀ j u, (codeL n F)[j]? = some u → W.cell? (ad.add j) = some u := by
  intro j u hu
  have hj : j < n * 5 := by
    have := (List.getElem?_eq_some_iff.1 hu).1
    rw [codeL_len] at this
    exact this
  obtain ⟨b, off, e, _, hc⟩ := h.resolve_left (by omega)
  injection e with e
  subst e
  have h1 := codeL_get n F (j / 5) (j % 5) (by omega) (by omega)
  have h2 := hc (j / 5) (j % 5) (by omega) (by omega)
  rw [show j / 5 * 5 + j % 5 = j by omega] at h1
  rw [show off + j / 5 * 5 + j % 5 = off + j by omega] at h2
  rw [Addr.add_lit, h2, ← h1]
  exact hu
theorem codeL_one (n : Nat) (F : Nat → Ins) : ∀ u ∈ codeL n F, u.oneCell' = true := by
  intro u hu
  unfold codeL rowL at hu
  obtain ⟨i, _, rfl⟩ := List.mem_map.1 hu
  generalize F (i / 5) = cc
  rcases (show i % 5 = 0 ∨ i % 5 = 1 ∨ i % 5 = 2 ∨ i % 5 = 3 ∨ i % 5 = 4 by omega) with e | e | e | e | e <;> rw [e] <;> rfl
set_option maxRecDepth 100000 in
set_option maxHeartbeats 4000000 in
theorem clone_any (A : Option Addr) (n c : Nat) (F : Nat → Ins) (w : World) (hn : n ≤ 40) (h : Code w A n F) :
    Calls Tryd.prog 86 #[.slice A n c] w (CodeRes n F w) := by
  have HC := shade h
  clear h
  rcases A with _ | ad
  · obtain rfl : n = 0 := by
      rcases HC.out with h | ⟨b, off, e, _⟩
      · exact h
      · cases e
    have hq : ∀ W : World, (binOp .eql 46 (.slice none 0 c) (.slice none 0 0)).run Tryd.prog W = .ok (.bool true) W := fun W => Go.Lib.run_eql_slice_nil W _ _ none 0 c 0 0 Tryd.underlying46
    go_enter Tryd.func86, Tryd.ntmps86
    go_wp2_with fail
    go_ret
    exact CodeRes.nil _ _ _ (grown_refl _ _)
  · have hq : ∀ W : World, (binOp .eql 46 (.slice (some ad) n c) (.slice none 0 0)).run Tryd.prog W = .ok (.bool false) W := fun W => Go.Lib.run_eql_slice_nil W _ _ (some ad) n c 0 0 Tryd.underlying46
    obtain ⟨i0, hi0, hz0, hz1, hz2⟩ := info_parts info24
    have HO := shade (show (w.alloc (.cells #[] 61)).ownsRow w.heap.size 61 5 (.slice (some ⟨w.heap.size, 0, none⟩) 0 0) 0 [] from World.ownsRow_lit (base := w.heap.size) (e := 61) (size := 5) w #[] 0 (by omega) (by decide) rfl)
    have hcc := code_cells (HC.out.alloc (.cells #[] 61))
    have hcl := codeL_len n F
    have hc1 := codeL_one n F
    have HCC := shade hcc; have HCL := shade hcl; have HC1 := shade hc1
    clear hcc hcl hc1
    go_enter Tryd.func86, Tryd.ntmps86
    go_wp2_with (first
      | (at_builtin; refine wpList_append_own _ rfl _ _ 46 rfl w.heap.size 61 i0 (.agg #[.string ⟨#[]⟩, .int .i64 0, .int .i64 0, .int .i64 0, .int .i64 0]) 5 48 Tryd.underlying46 hi0 hz0 hz1 hz2 rfl (by decide) _ _ _ rfl HO.out ad n c (codeL n F) rfl HCL.out HCC.out HC1.out (by unfold maxLen; omega) (by omega) (by simp) ?_)
      | go_in)
    intro v' w8 hown8 hgr8 hnil8
    have hown9 : w8.ownsRow w.heap.size 61 5 v' n (codeL n F) := by simpa using hown8
    have HR := shade (show CodeRes n F w (.returned v') w8 from ⟨v', rfl, hown9, grown_then (World.grownBy_alloc w _ none) hgr8 (Nat.le_refl _)⟩)
    clear hown8 hown9 hgr8 hnil8 hi0 hz0 hz1 hz2
    go_wp2_with fail
    go_ret
    exact HR.out
end Go.Proofs.YtjeflaodeafhbaaDoor

namespace Go.Proofs.YtjeflaodeafhbaaDoor
open Go.RowKit
set_option linter.unusedSimpArgs false
theorem own_besideS {W : World} {B : Nat} {e : TypeId} {z : Nat} {v : Value} {n : Nat} {xs : List Value} {b : Nat} {t : TypeId} {cs : Array Value} (h : W.ownsRow B e z v n xs) (hb : Holds5 W b t cs) (ht : t ≠ e) : v.ownBlock ≠ some b := by
  intro e0
  rcases h.2 with ⟨e', h0⟩ | ⟨g', c', cur, e', hB, hw, _⟩
  · rw [e'] at e0
    cases e0
  · rw [e'] at e0
    have e1 : g' = b := by injection e0
    subst e1
    have h1 : W.heap[g']? = some (.cells cs t (0, 0)) := hb
    rw [hw] at h1
    injection h1 with h1
    injection h1 with h3 h4
    exact ht h4.symm
theorem Holds5.moreS {w w' : World} {g : Nat} {t : TypeId} {cs : Array Value} (h : Holds5 w g t cs) (hg : w.grownBy w' none) : Holds5 w' g t cs := h.grown hg (by intro e; cases e)
/-- The jumps of the first q lead straight on. -/
structure Led (w wr : World) (bl : Nat) (A : Option Addr) (n c : Nat) (F : Nat → Ins) (q : Nat) : Prop where
  low : w.grownBy wr none
  box : Holds5 wr bl 46 #[.slice A n c]
  own : wr.ownsRow w.heap.size 61 5 (.slice A n c) n (codeL n (fun j => if j < q then ldF F n j else F j))
section
variable {w wr w2 : World} {bl n c q b : Nat} {A : Option Addr} {F : Nat → Ins}
theorem Led.on (h : Led w wr bl A n c F q) (hg : wr.grownBy w2 none) : Led w w2 bl A n c F q := ⟨grown_same h.low hg, h.box.moreS hg, World.ownsRow.kept h.own hg (Classical.em _)⟩
theorem Led.code (h : Led w wr bl A n c F q) : Code wr A n (fun j => if j < q then ldF F n j else F j) := by
  rcases h.own.2 with ⟨e, h0⟩ | ⟨g', c', cur, e, hb, _⟩
  · exact .inl h0
  · have ho := h.own
    injection e with e1 e2 e3
    subst e1
    exact OwnC.code ho
theorem Led.at0 (h : Led w wr bl A n c F q) (hn : 0 < n) : ∃ g, A = some ⟨g, 0, none⟩ ∧ w.heap.size ≤ g ∧ g ≠ bl := by
  rcases h.own.2 with ⟨e, h0⟩ | ⟨g', c', cur, e, hb, _⟩
  · omega
  · injection e with e1 e2 e3
    subst e1
    exact ⟨g', rfl, hb, fun e => own_besideS h.own h.box (by decide) (by rw [← e]; rfl)⟩
theorem Led.stay (h : Led w wr bl A n c F q) (hs : ldF F n q = F q) : Led w wr bl A n c F (q + 1) := by
  refine ⟨h.low, h.box, ?_⟩
  rw [codeL_congr n _ (fun j => if j < q then ldF F n j else F j) (fun j _ => ?_)]
  · exact h.own
  · by_cases e : j < q
    · rw [if_pos e, if_pos (by omega)]
    · by_cases e2 : j = q
      · rw [if_pos (by omega), if_neg e, e2, hs]
      · rw [if_neg (by omega), if_neg e]
theorem Led.move (h : Led w wr bl (some ⟨b, 0, none⟩) n c F q) (hs : jmpB (F q).op.toList = true) (hb : w.heap.size ≤ b) (hne : b ≠ bl) :
    Led w (wr.setCell ⟨b, q * 5 + 4, none⟩ (.int .i64 ((ledN F n (F q).k.toNat : Nat) : Int))) bl (some ⟨b, 0, none⟩) n c F (q + 1) := by
  have h1 := (World.ownsRow.stored h.own (q * 5 + 4) (.int .i64 ((ledN F n (F q).k.toNat : Nat) : Int))).1
  rw [codeL_setK] at h1
  refine ⟨grown_then h.low (grown_set b _ _) hb, h.box.other (p := ⟨b, q * 5 + 4, none⟩) (fun e => hne e.symm) _, ?_⟩
  rw [codeL_congr n _ _ (fun j _ => ?_)]
  · exact h1
  · by_cases e2 : j = q
    · subst e2
      rw [if_pos (Nat.lt_succ_self j), if_pos rfl, ldF_yes hs, if_neg (Nat.lt_irrefl j)]
    · rw [if_neg e2]
      by_cases e : j < q
      · rw [if_pos e, if_pos (by omega)]
      · rw [if_neg e, if_neg (by omega)]
end
theorem grown_of_drew {w w2 : World} (h : w.drew.grownBy w2 none) : w.grownBy w2 none := ⟨h.os, h.tape, h.output, h.size, h.block⟩
theorem first_grown {w w2 : World} (h : w.grownBy w2 none) : w.grownBy w2.drew none := ⟨h.os, h.tape, h.output, h.size, h.block⟩
theorem low_holdsS {W : World} {b : Nat} {t : TypeId} {cs : Array Value} (hb : Holds5 W b t cs) : Low W.heap.size (fun W' => Holds5 W' b t cs) := fun _ _ hu _ hk => hk b _ hb.inside hu rfl
set_option maxRecDepth 100000 in
set_option maxHeartbeats 4000000 in
theorem skip_cl (A2 : Option Addr) (n c2 bl x : Nat) (F : Nat → Ins) (W : World) (hwt : WT W) (hC : Code W A2 n (ldF F n)) (hx : x < n) (hx40 : n ≤ 40) (hp : Holds5 W bl 46 #[.slice A2 n c2]) :
    Calls Tryd.prog 88 #[.int .i64 (x : Int), .pointer (some ⟨bl, 0, none⟩)] W fun e w' => e = .returned (.bool (!skG F n x)) ∧ W.grownBy w' none := by
  obtain ⟨cb, co, rfl, -⟩ := hC.resolve_left (by omega)
  have HC := shade hC; have HP := shade hp
  obtain ⟨q0, q1, q2, q3, q4⟩ := hC.five hx
  have p0 := hp.look 0
  simp at p0
  obtain ⟨k, hk⟩ : ∃ k, (!skG F n x) = k := ⟨_, rfl⟩
  rw [hk]
  unfold skG at hk
  rw [Bool.not_not, ← (ldF_op F n x).1] at hk
  have HJ := shade (fun W hW => isJump_any (ldF F n x).op (ldF F n x).d (ldF F n x).a (ldF F n x).b (ldF F n x).k W hW)
  have HWT := shade hwt
  clear hC hp hwt
  generalize hcc : ldF F n x = cc at *
  obtain ⟨op, d, a, b', kk⟩ := cc
  simp only [] at q0 q1 q2 q3 q4 hk HJ
  have HK := shade hk; have HCC := shade hcc
  clear hk hcc
  rcases hj : jmpB op.toList with _ | _
  · rw [hj] at HJ
    have hk : k = false := by rw [← HK.out, hj, Bool.false_and]
    subst hk
    clear hj HK
    go_enter Tryd.func88, Tryd.ntmps88
    go_wp2_with fail
    refine (HJ.out _ HWT.out).mono ?_
    rintro e w1 ⟨rfl, hg⟩
    have HG := shade hg
    clear hg
    go_wp2_with fail
    go_ret
    exact ⟨rfl, HG.out⟩
  · rw [hj] at HJ
    have hk := HK.out
    rw [hj, Bool.true_and] at hk
    have HK2 := shade hk
    clear hj HK hk
    go_enter Tryd.func88, Tryd.ntmps88
    go_wp2_with fail
    refine (HJ.out _ HWT.out).mono ?_
    rintro e w1 ⟨rfl, hg⟩
    have HG := shade hg
    have p1 := (HP.out.moreS hg).look 0
    simp at p1
    have r4 := ((HC.out.on hg).five hx).2.2.2.2
    rw [HCC.out] at r4
    simp only [] at r4
    clear hg q0 q1 q2 q3 q4 p0
    go_wp2_with fail
    go_ret
    exact ⟨ret_b HK2.out, HG.out⟩
set_option maxRecDepth 100000 in
set_option maxHeartbeats 8000000 in
theorem skip_any (A : Option Addr) (n c : Nat) (F : Nat → Ins) (w : World) (hv : vcB n F = true) (hwt : WT w) (h : Code w A n F) :
    Calls Tryd.prog 54 #[.slice A n c] w (CodeRes (ctK (skG F n) n) (koP (ldF F n) (skG F n) n) w) := by
  have hn := vcB_40 hv
  have HV := shade hv; have HWT := shade hwt; have HC := shade h
  clear hv hwt h
  go_enter Tryd.func54, Tryd.ntmps54
  go_wp2_with fail
  refine (clone_any A n c F _ hn HC.out).mono ?_
  rintro e w1 ⟨v1, rfl, ho1, hg1⟩
  obtain ⟨A1, c1, rfl⟩ : ∃ A1 c1, v1 = .slice A1 n c1 := by
    rcases ho1.2 with ⟨e, h0⟩ | ⟨g', c', cur, e, hb, _⟩
    · exact ⟨none, 0, by rw [e, h0]⟩
    · exact ⟨some ⟨g', 0, none⟩, c', e⟩
  have hg2 := World.grownBy_alloc w1 (.cells #[.slice A1 n c1] 46) none
  have L0 := shade (show Led w (w1.alloc (.cells #[.slice A1 n c1] 46)) w1.heap.size A1 n c1 F 0 from ⟨grown_same hg1 hg2, Holds5.fresh _ _ _, by
    rw [codeL_congr n _ F (fun j _ => if_neg (Nat.not_lt_zero j))]
    exact World.ownsRow.kept ho1 hg2 (Classical.em _)⟩)
  clear ho1 hg1 hg2
  obtain ⟨bl, hbl⟩ : ∃ bl, w1.heap.size = bl := ⟨_, rfl⟩
  rw [hbl] at L0
  go_wp2_with fail
  clear hbl
  go_loopw [10] (fun qq wr => ∃ q : Nat, q ≤ n ∧ qq = .int .i64 (q : Int) ∧ Led w wr bl A1 n c1 F q) (fun qq _ => n - (intOf qq).toNat)
  case atStart => exact ⟨0, Nat.zero_le _, rfl, L0.out⟩
  case round =>
    clear L0
    obtain ⟨q, hq, rfl, hp⟩ := hrel
    have HP := shade hp
    clear hp
    by_cases hqn : q < n
    · obtain ⟨cb, co, rfl, -⟩ := HC.out.resolve_left (by omega)
      obtain ⟨q0, q1, q2, q3, q4⟩ := (HC.out.on HP.out.low).five hqn
      obtain ⟨g, rfl, hgs, hgb⟩ := HP.out.at0 (by omega)
      have hgx : wr.heap.size ≠ g := by
        have := (World.ownsRow.lt HP.out.own g rfl).2
        omega
      have hjk := okI_k HV.out hqn
      have HSL := shade (show F q = F q from rfl)
      generalize hcc : F q = cc at q0 q1 q2 q3 q4 hjk
      obtain ⟨op, d, a, b', kk⟩ := cc
      simp only [] at q0 q1 q2 q3 q4 hjk
      have HJK := shade hjk; have HCC := shade hcc
      have HX := shade (Holds5.fresh wr 61 #[.string op, .int .i64 d, .int .i64 a, .int .i64 b', .int .i64 kk])
      have HP1 := shade (HP.out.on (World.grownBy_alloc wr (.cells #[.string op, .int .i64 d, .int .i64 a, .int .i64 b', .int .i64 kk] 61) none))
      have HJ := shade (fun W hW => isJump_any op d a b' kk W hW)
      clear hjk hcc HP HSL
      rcases hj : jmpB op.toList with _ | _
      · rw [hj] at HJ
        have HN := shade (show ldF F n q = F q from ldF_no (by rw [HCC.out]; exact hj))
        clear hj
        go_wp2_with fail
        refine (HJ.out _ (HWT.out.below (below_of_grown HP1.out.low) (wt_lt HWT.out))).mono ?_
        rintro e w3 ⟨rfl, hg3⟩
        have HP3 := shade ((HP1.out.on hg3).stay HN.out)
        clear hg3
        go_wp2_with fail
        go_roundw
        case rel => exact ⟨q + 1, by omega, by go_num, HP3.out⟩
        case measure => simp [intOf]; omega
      · rw [hj] at HJ
        obtain ⟨k0, k1⟩ := HJK.out hj
        obtain ⟨kn, rfl⟩ := Int.eq_ofNat_of_zero_le k0
        have HH := shade (show jmpB (F q).op.toList = true from by rw [HCC.out]; exact hj)
        have HE := shade (show (F q).k.toNat = kn from by rw [HCC.out]; exact Int.toNat_natCast kn)
        clear hj
        go_wp2_with fail
        refine (HJ.out _ (HWT.out.below (below_of_grown HP1.out.low) (wt_lt HWT.out))).mono ?_
        rintro e w3 ⟨rfl, hg3⟩
        have HP3 := shade (HP1.out.on hg3)
        have HX3 := shade (HX.out.moreS hg3)
        have HSTR := shade (fun W (hW : WT W) hC => straight_any (some ⟨cb, co, none⟩) n c kn F W HV.out hW hC (by omega))
        have HWG := shade (fun W (hg : w.grownBy W none) => HWT.out.below (below_of_grown hg) (wt_lt HWT.out))
        have HCG := shade (fun W (hg : w.grownBy W none) => HC.out.on hg)
        have HMV := shade (fun W (hW : Led w W bl (some ⟨g, 0, none⟩) n c1 F q) => hW.move HH.out hgs hgb)
        rw [HE.out] at HMV
        clear hg3 q0 q1 q2 q3 q4 HP1 HX
        have z0 := HP3.out.box.look 0
        have z1 := HX3.out.look 4
        simp at z0 z1
        go_upto_region 6 with (fail)
        go_region_held3 (fun w' => w'.cell? ⟨bl, 0, none⟩ = some (.slice (some ⟨g, 0, none⟩) n c1) ∧ w'.cell? ⟨wr.heap.size, 4, none⟩ = some (.int .i64 (kn : Int)))
          (first | with_reducible exact ⟨z0, z1⟩ | with_reducible exact ⟨y0, y1⟩ | (exact y5.out _) | (exact ⟨((HP3.out.on (grown_drew1 _)).box.look 0).trans rfl, (HX3.out.drew.look 4).trans rfl⟩))
          (first | (go_at_call 87; refine (HSTR.out _ (HWG.out _ (first_grown HP3.out.low)) (HCG.out _ (first_grown HP3.out.low))).mono ?_; rintro e w4 ⟨rfl, hg4⟩; have HP4 := shade (HP3.out.on (grown_of_drew hg4)); have HX4 := shade (HX3.out.moreS (grown_of_drew hg4)); have y0 : w4.cell? ⟨bl, 0, none⟩ = some (.slice (some ⟨g, 0, none⟩) n c1) := (HP4.out.box.look 0).trans rfl; have y1 : w4.cell? ⟨wr.heap.size, 4, none⟩ = some (.int .i64 (kn : Int)) := (HX4.out.look 4).trans rfl; have y5 := shade (fun (u : Value) => And.intro (((HP4.out.box.other (p := ⟨g, q * 5 + 4, none⟩) (fun e => hgb e.symm) u).look 0).trans rfl) (((HX4.out.other (p := ⟨g, q * 5 + 4, none⟩) hgx u).look 4).trans rfl)); have t0 := (HP4.out.code.five hqn).2.2.2.2; rw [Nat.zero_add] at t0; have t1 := World.ownsRow.frozenAt HP4.out.own (q * 5 + 4); clear hg4))
        all_goals (go_wp2_with fail)
        all_goals (refine ⟨⟨q + 1, by omega, by go_num, HMV.out _ HP4.out⟩, ?_⟩; simp [intOf]; omega)
    · obtain rfl : q = n := by omega
      have hco : Code wr A1 q (ldF F q) := HP.out.code.congr (fun j hj => if_pos hj)
      have HCO := shade hco
      have hvl := ldF_valid HV.out
      have HVL := shade hvl
      have p0 := HP.out.box.look 0
      simp at p0
      have HLO := shade (low_holdsS (W := wr) (b := bl) (t := 46) (cs := #[.slice A1 q c1]) HP.out.box)
      have hWT := HWT.out.below (below_of_grown HP.out.low) (wt_lt HWT.out)
      have HWT2 := shade hWT
      clear hco hWT hvl
      go_wp2_with fail
      refine (without_any A1 q c1 88 #[.pointer (some ⟨bl, 0, none⟩)] (ldF F q) (skG F q) _ wr HVL.out HWT2.out HCO.out HP.out.box HLO.out (enters_of Tryd.func88 (by kernel_rfl) rfl) (fun x W hu hwt hco hx => skip_cl A1 q c1 bl x F W hwt hco hx hn hu)).mono ?_
      rintro e w5 ⟨v5, rfl, ho5, hg5⟩
      have HO := shade (CodeRes.after HP.out.low (show CodeRes (ctK (skG F q) q) (koP (ldF F q) (skG F q) q) wr (.returned v5) w5 from ⟨v5, rfl, ho5, hg5⟩))
      clear ho5 hg5
      go_wp2_with fail
      go_ret
      exact HO.out
end Go.Proofs.YtjeflaodeafhbaaDoor

namespace Go.Proofs.YtjeflaodeafhbaaDoor
open Go.RowKit
set_option linter.unusedSimpArgs false
theorem bolL_snoc (k : Nat) (f : Nat → Bool) : bolL k f ++ [.bool (f k)] = bolL (k + 1) f := by
  unfold bolL
  rw [List.range_succ, List.map_append]
  rfl
theorem codeL_put (k : Nat) (f : Nat → Ins) (x : Ins) (h : f k = x) : codeL (k + 1) (fun j => if j = k then x else f j) = codeL (k + 1) f :=
  codeL_congr _ _ _ (fun j _ => by
    show (if j = k then x else f j) = f j
    by_cases e : j = k
    · rw [if_pos e, e, h]
    · rw [if_neg e])
theorem bool_new (w : World) (t : TypeId) (x : Bool) : ∀ j u, ([.bool x] : List Value)[j]? = some u → (w.alloc (.cells #[.bool x] t)).cell? ((⟨w.heap.size, 0, none⟩ : Addr).add j) = some u := by
  intro j u h
  rw [Addr.add_lit, Nat.zero_add, World.cell?_alloc_new]
  simpa using h
theorem bool_one (x : Bool) : ∀ u ∈ ([.bool x] : List Value), u.oneCell' = true := by
  intro u hu
  simp only [List.mem_cons, List.not_mem_nil, or_false] at hu
  rw [hu]
  rfl
theorem rows_apart {W : World} {B B' : Nat} {e e' : TypeId} {z z' : Nat} {v v' : Value} {n n' : Nat} {xs xs' : List Value} (h : W.ownsRow B e z v n xs) (h' : W.ownsRow B' e' z' v' n' xs') (ht : e ≠ e') {b : Nat} (hb : v.ownBlock = some b) : v'.ownBlock ≠ some b := by
  intro hb'
  rcases h.2 with ⟨e1, h0⟩ | ⟨g, c, cur, e1, _, hw, _⟩
  · rw [e1] at hb
    cases hb
  · rcases h'.2 with ⟨e2, h0⟩ | ⟨g', c', cur', e2, _, hw', _⟩
    · rw [e2] at hb'
      cases hb'
    · rw [e1] at hb
      rw [e2] at hb'
      have a1 : g = b := by injection hb
      have a2 : g' = b := by injection hb'
      subst a1
      subst a2
      rw [hw] at hw'
      injection hw' with h1
      injection h1 with h2 h3
      exact ht h3
/-- What is made so far: the instructions, and whether they are kept. -/
structure Skp (w wr : World) (v1 v2 : Value) (i1 i2 : Nat) (G : Nat → Ins) (K : Nat → Bool) : Prop where
  low : w.grownBy wr none
  own1 : wr.ownsRow w.heap.size 61 5 v1 i1 (codeL i1 G)
  own2 : wr.ownsRow w.heap.size 4 1 v2 i2 (bolL i2 K)
section
variable {w wr w2 w3 : World} {v1 v2 v' : Value} {i1 i2 : Nat} {G : Nat → Ins} {K : Nat → Bool}
theorem Skp.on (h : Skp w wr v1 v2 i1 i2 G K) (hg : wr.grownBy w2 none) : Skp w w2 v1 v2 i1 i2 G K := ⟨grown_same h.low hg, World.ownsRow.kept h.own1 hg (Classical.em _), World.ownsRow.kept h.own2 hg (Classical.em _)⟩
theorem Skp.far (h : Skp w wr v1 v2 i1 i2 G K) {b : Nat} (o : Nat) (u : Value) (hb : w.heap.size ≤ b) (h1 : v1.ownBlock ≠ some b) (h2 : v2.ownBlock ≠ some b) : Skp w (wr.setCell ⟨b, o, none⟩ u) v1 v2 i1 i2 G K :=
  ⟨grown_then h.low (grown_set b o u) hb, World.ownsRow.kept h.own1 (grown_set b o u) (.inr h1), World.ownsRow.kept h.own2 (grown_set b o u) (.inr h2)⟩
theorem Skp.snoc1 (h : Skp w wr v1 v2 i1 i2 G K) (hG : wr.grownBy w2 none) (ho : w3.ownsRow w.heap.size 61 5 v' (i1 + 1) (codeL (i1 + 1) G)) (hG' : w2.grownBy w3 v1.ownBlock) : Skp w w3 v' v2 (i1 + 1) i2 G K := by
  have h2 := h.on hG
  refine ⟨grown_row h2.low hG' (fun j e => (World.ownsRow.lt h2.own1 j e).1), ho, ?_⟩
  rcases e : v1.ownBlock with _ | b
  · rw [e] at hG'
    exact World.ownsRow.kept h2.own2 hG' (Classical.em _)
  · exact World.ownsRow.kept h2.own2 hG' (.inr (by rw [e]; exact rows_apart h2.own1 h2.own2 (by decide) e))
theorem Skp.snoc2 (h : Skp w wr v1 v2 i1 i2 G K) (hG : wr.grownBy w2 none) (ho : w3.ownsRow w.heap.size 4 1 v' (i2 + 1) (bolL (i2 + 1) K)) (hG' : w2.grownBy w3 v2.ownBlock) : Skp w w3 v1 v' i1 (i2 + 1) G K := by
  have h2 := h.on hG
  refine ⟨grown_row h2.low hG' (fun j e => (World.ownsRow.lt h2.own2 j e).1), ?_, ho⟩
  rcases e : v2.ownBlock with _ | b
  · rw [e] at hG'
    exact World.ownsRow.kept h2.own1 hG' (Classical.em _)
  · exact World.ownsRow.kept h2.own1 hG' (.inr (by rw [e]; exact rows_apart h2.own2 h2.own1 (by decide) e))
end
theorem Holds5.off1 {w w2 w3 : World} {g : Nat} {t : TypeId} {cs : Array Value} {row : Option Nat} (h : Holds5 w g t cs) (hG : w.grownBy w2 none) (hG' : w2.grownBy w3 row) (hne : row = some g → False) : Holds5 w3 g t cs :=
  (h.moreS hG).grown hG' (fun e => hne e.symm)
theorem Skp.shape1 {w wr : World} {v1 v2 : Value} {i1 i2 : Nat} {G : Nat → Ins} {K : Nat → Bool} (h : Skp w wr v1 v2 i1 i2 G K) : (∃ A c, v1 = .slice A i1 c ∧ Code wr A i1 G) ∧ ∃ A c, v2 = .slice A i2 c ∧ Bols wr A i2 K := by
  constructor
  · rcases h.own1.2 with ⟨e, h0⟩ | ⟨g', c', cur, e, hb, _⟩
    · exact ⟨none, 0, by rw [e, h0], .inl h0⟩
    · have ho := h.own1
      rw [e] at ho
      exact ⟨some ⟨g', 0, none⟩, c', e, OwnC.code ho⟩
  · rcases h.own2.2 with ⟨e, h0⟩ | ⟨g', c', cur, e, hb, _⟩
    · exact ⟨none, 0, by rw [e, h0], .inl h0⟩
    · have ho := h.own2
      rw [e] at ho
      exact ⟨some ⟨g', 0, none⟩, c', e, OwnB.bols ho⟩
set_option maxRecDepth 100000 in
set_option maxHeartbeats 16000000 in
theorem specSkip_any (A : Option Addr) (n c : Nat) (F : Nat → Ins) (w : World) (hv : vcB n F = true) (h : Code w A n F) :
    Calls Tryd.prog 55 #[.slice A n c] w (CodeRes (ctK (skG F n) n) (koP (ldF F n) (skG F n) n) w) := by
  have hn := vcB_40 hv
  have HV := shade hv; have HC := shade h
  have hg0 := grown_same (World.grownBy_alloc w (.cells #[] 61) none) (World.grownBy_alloc _ (.cells #[] 4) none)
  have L0 := shade (show Skp w ((w.alloc (.cells #[] 61)).alloc (.cells #[] 4)) (.slice (some ⟨w.heap.size, 0, none⟩) 0 0) (.slice (some ⟨w.heap.size + 1, 0, none⟩) 0 0) 0 0 (ldF F n) (skG F n) from
    ⟨hg0, by
      have h := World.ownsRow_lit (base := w.heap.size) (e := 61) (size := 5) w #[] 0 (by omega) (by decide) rfl
      exact World.ownsRow.alloc h _, by
      have h := World.ownsRow_lit (base := w.heap.size) (e := 4) (size := 1) (w.alloc (.cells #[] 61)) #[] 0 (by simp) (by decide) rfl
      rw [World.size_alloc] at h
      exact h⟩)
  clear hv h hg0
  go_enter Tryd.func55, Tryd.ntmps55
  go_wp2_with fail
  go_loopw [3, 4, 5] (fun v1 v2 qq wr => ∃ q : Nat, q ≤ n ∧ qq = .int .i64 (q : Int) ∧ Skp w wr v1 v2 q q (ldF F n) (skG F n)) (fun _ _ qq _ => n - (intOf qq).toNat)
  case atStart => exact ⟨0, Nat.zero_le _, rfl, L0.out⟩
  case round =>
    clear L0
    obtain ⟨q, hq, rfl, hp⟩ := hrel
    have HP := shade hp
    obtain ⟨⟨A1, c1, rfl, hc1⟩, A2, c2, rfl, hb2⟩ := hp.shape1
    have HC1 := shade hc1; have HB2 := shade hb2
    clear hp hc1 hb2
    by_cases hqn : q < n
    · clear HC1 HB2
      obtain ⟨cb, co, rfl, -⟩ := HC.out.resolve_left (by omega)
      obtain ⟨q0, q1, q2, q3, q4⟩ := (HC.out.on HP.out.low).five hqn
      have hjk := okI_k HV.out hqn
      generalize hcc : F q = cc at q0 q1 q2 q3 q4 hjk
      obtain ⟨op, d, a, b', kk⟩ := cc
      simp only [] at q0 q1 q2 q3 q4 hjk
      have HJK := shade hjk; have HCC := shade hcc
      have HX := shade (Holds5.fresh wr 61 #[.string op, .int .i64 d, .int .i64 a, .int .i64 b', .int .i64 kk])
      have HP1 := shade (HP.out.on (World.grownBy_alloc wr (.cells #[.string op, .int .i64 d, .int .i64 a, .int .i64 b', .int .i64 kk] 61) none))
      have HO1 := shade (fun b (e : (Value.slice A1 q c1).ownBlock = some b) => (World.ownsRow.lt HP.out.own1 b e).2)
      have HO2 := shade (fun b (e : (Value.slice A2 q c2).ownBlock = some b) => (World.ownsRow.lt HP.out.own2 b e).2)
      have hsz := HP.out.low.size
      clear hjk hcc
      go_upto_region 7 with (fail)
      obtain ⟨wc, hwc⟩ : ∃ wc, wr.alloc (.cells #[.string op, .int .i64 d, .int .i64 a, .int .i64 b', .int .i64 kk] 61) = wc := ⟨_, rfl⟩
      rw [hwc] at HP1 HX ⊢
      clear hwc q0 q1 q2 q3 q4
      have x0 := HX.out.look 0; have x1 := HX.out.look 1; have x2 := HX.out.look 2; have x3 := HX.out.look 3; have x4 := HX.out.look 4; have xf := HX.out.free 4
      simp at x0 x1 x2 x3 x4
      rcases e8 : (op.toList == [106, 109, 112]) with _ | _
      · rcases e7 : (op.toList == [98, 122]) with _ | _
        · have HP2 := HP1; have HX2 := HX
          have hj0 : jmpB (F q).op.toList = false := by rw [HCC.out]; show jmpB op.toList = false; unfold jmpB; rw [e7, e8]; rfl
          have HLD := shade (show ldF F n q = ⟨op, d, a, b', kk⟩ from by rw [ldF_no hj0]; exact HCC.out)
          have HSK := shade (show skG F n q = true from by unfold skG; rw [hj0]; rfl)
          clear hj0 xf x0 x1 x2 x3 x4 HP1 HX
          obtain ⟨i0, hi0, hz0, hz1, hz2⟩ := info_parts info24
          have hwz := HP2.out.low.size
          have x0 := HX2.out.look 0; have x1 := HX2.out.look 1; have x2 := HX2.out.look 2; have x3 := HX2.out.look 3; have x4 := HX2.out.look 4
          simp at x0 x1 x2 x3 x4
          have hxz := HX2.out.inside
          go_wp2_with (first
            | (at_builtin; refine wpList_append_own _ rfl _ _ 23 rfl w.heap.size 61 i0 (.agg #[.string ⟨#[]⟩, .int .i64 0, .int .i64 0, .int .i64 0, .int .i64 0]) 5 48 Tryd.underlying23 hi0 hz0 hz1 hz2 rfl (by decide) _ _ _ rfl (World.ownsRow.alloc HP2.out.own1 _) ⟨wc.heap.size, 0, none⟩ 1 1 [.string op, .int .i64 d, .int .i64 a, .int .i64 b', .int .i64 kk] rfl rfl (cells_new _ _ _ _ _ _ _) (one_cells _ _ _ _ _) (by unfold maxLen; omega) (by omega) (by simp at hwz ⊢; omega) ?_)
            | go_in)
          intro v' w8 hown8 hgr8 hnil8
          rw [codeL_snoc q (ldF F n) ⟨op, d, a, b', kk⟩] at hown8
          have H8 := shade (HP2.out.snoc1 (World.grownBy_alloc _ (.cells #[.string op, .int .i64 d, .int .i64 a, .int .i64 b', .int .i64 kk] 61) none) (by rw [← codeL_put q (ldF F n) _ HLD.out]; exact hown8) hgr8)
          have HX8 := shade (HX2.out.off1 (World.grownBy_alloc _ (.cells #[.string op, .int .i64 d, .int .i64 a, .int .i64 b', .int .i64 kk] 61) none) hgr8 (fun e => by have := HO1.out _ e; omega))
          clear hown8 hgr8 hnil8 hi0 hz0 hz1 hz2 x0 x1 x2 x3 x4 hxz HX2
          obtain ⟨j0, hj0, hy0, hy1, hy2⟩ := info_parts info4b
          have x0 := HX8.out.look 0; have x1 := HX8.out.look 1; have x2 := HX8.out.look 2; have x3 := HX8.out.look 3; have x4 := HX8.out.look 4
          simp at x0 x1 x2 x3 x4
          have hwz8 := H8.out.low.size
          go_wp2_with (first
            | (at_builtin; refine wpList_append_own _ rfl _ _ 82 rfl w.heap.size 4 j0 (.bool false) 1 1 Tryd.underlying82 hj0 hy0 hy1 hy2 rfl (by decide) _ _ _ rfl (World.ownsRow.alloc H8.out.own2 _) ⟨w8.heap.size, 0, none⟩ 1 1 [.bool true] rfl rfl (bool_new _ _ _) (bool_one _) (by unfold maxLen; omega) (by omega) (by simp at hwz8 ⊢; omega) ?_)
            | go_in)
          intro v9 w9 hown9 hgr9 hnil9
          have H9 := shade (H8.out.snoc2 (World.grownBy_alloc _ (.cells #[.bool true] 4) none) (by rw [← bolL_snoc, HSK.out]; exact hown9) hgr9)
          clear hown9 hgr9 hnil9 hj0 hy0 hy1 hy2 x0 x1 x2 x3 x4
          go_wp2_with fail
          go_roundw
          case rel => exact ⟨q + 1, by omega, by go_num, H9.out⟩
          case measure => simp [intOf]; omega
        · skip
          have hjm : jmpB op.toList = true := by unfold jmpB; rw [e7]; rfl
          obtain ⟨k0, k1⟩ := HJK.out hjm
          obtain ⟨kn, rfl⟩ := Int.eq_ofNat_of_zero_le k0
          have hj1 : jmpB (F q).op.toList = true := by rw [HCC.out]; exact hjm
          have HL := shade (show ∀ y : Nat, ledN F n kn = y → ldF F n q = ⟨op, d, a, b', (y : Int)⟩ from fun y e => by rw [ldF_yes hj1, HCC.out, show (⟨op, d, a, b', (kn : Int)⟩ : Ins).k.toNat = kn from Int.toNat_natCast kn, e])
          have HJ1 := shade hj1
          have HEN := shade (endOf_any (some ⟨cb, co, none⟩) n c kn F wc HV.out (HC.out.on HP1.out.low) (by omega))
          have HLE := shade (show ledN F n kn = if isJ F n (stp F n kn (n + 1)) = true then kn else stp F n kn (n + 1) from rfl)
          have hzn := stp_le (x := kn) HV.out (by omega) (n + 1)
          clear hjm hj1 HJK k1
          obtain ⟨z, hz⟩ : ∃ z, stp F n kn (n + 1) = z := ⟨_, rfl⟩
          rw [hz] at HEN HLE hzn
          clear hz
          go_wp2_with fail
          refine HEN.out.mono ?_
          rintro e w3 ⟨rfl, hg3⟩
          have HP3 := shade (HP1.out.on hg3)
          have HX3 := shade (HX.out.moreS hg3)
          clear hg3 HP1 HX HEN x0 x1 x2 x3 x4 xf
          have x0 := HX3.out.look 0; have x1 := HX3.out.look 1; have x2 := HX3.out.look 2; have x3 := HX3.out.look 3; have x4 := HX3.out.look 4; have xf := HX3.out.free 4
          simp at x0 x1 x2 x3 x4
          by_cases hzl : z < n
          · have hb : ((z : Int) == (n : Int)) = false := beq_eq_false_iff_ne.2 (by omega)
            obtain ⟨y0, y1, y2, y3, y4⟩ := (HC.out.on HP3.out.low).five hzl
            have hI := isJ_in (F := F) hzl
            rw [hI] at HLE
            obtain ⟨o2, ho2⟩ : ∃ o2, (F z).op = o2 := ⟨_, rfl⟩
            rw [ho2] at y0 HLE
            clear hI ho2 y1 y2 y3 y4
            rcases e9 : (o2.toList == [106, 109, 112]) with _ | _
            · have hne : (o2.toList != [106, 109, 112]) = true := by rw [bne, e9]; rfl
              have hled : ledN F n kn = z := by rw [HLE.out, e9, if_neg (by simp)]
              have HLD := shade (HL.out _ hled)
              have HSK0 := shade (show skG F n q = ((z : Int) != (q : Int) + 1) from by unfold skG; rw [HJ1.out, HLD.out, Bool.true_and]; rfl)
              clear hled HL HLE hne
              go_upto_region 11 with (fail)
              have h6 := HX3.out.put 4 (.int .i64 (z : Int))
              simp at h6
              have HX2 := shade h6
              have HP2 := shade (HP3.out.far (b := wr.heap.size) 4 (.int .i64 (z : Int)) (by omega) (fun e => by have := HO1.out _ e; omega) (fun e => by have := HO2.out _ e; omega))
              obtain ⟨wd, hwd⟩ : ∃ wd, w3.setCell ⟨wr.heap.size, 4, none⟩ (.int .i64 (z : Int)) = wd := ⟨_, rfl⟩
              rw [hwd] at HP2 HX2 ⊢
              clear hwd h6 x0 x1 x2 x3 x4 xf HP3 HX3
              obtain ⟨kb, hkb⟩ : ∃ kb, ((z : Int) != (q : Int) + 1) = kb := ⟨_, rfl⟩
              have HSK := shade (show skG F n q = kb from HSK0.out.trans hkb)
              clear HSK0
              obtain ⟨i0, hi0, hz0, hz1, hz2⟩ := info_parts info24
              have hwz := HP2.out.low.size
              have x0 := HX2.out.look 0; have x1 := HX2.out.look 1; have x2 := HX2.out.look 2; have x3 := HX2.out.look 3; have x4 := HX2.out.look 4
              simp at x0 x1 x2 x3 x4
              have hxz := HX2.out.inside
              go_wp2_with (first
                | (at_builtin; refine wpList_append_own _ rfl _ _ 23 rfl w.heap.size 61 i0 (.agg #[.string ⟨#[]⟩, .int .i64 0, .int .i64 0, .int .i64 0, .int .i64 0]) 5 48 Tryd.underlying23 hi0 hz0 hz1 hz2 rfl (by decide) _ _ _ rfl (World.ownsRow.alloc HP2.out.own1 _) ⟨wd.heap.size, 0, none⟩ 1 1 [.string op, .int .i64 d, .int .i64 a, .int .i64 b', .int .i64 (z : Int)] rfl rfl (cells_new _ _ _ _ _ _ _) (one_cells _ _ _ _ _) (by unfold maxLen; omega) (by omega) (by simp at hwz ⊢; omega) ?_)
                | go_in)
              intro v' w8 hown8 hgr8 hnil8
              rw [codeL_snoc q (ldF F n) ⟨op, d, a, b', (z : Int)⟩] at hown8
              have H8 := shade (HP2.out.snoc1 (World.grownBy_alloc _ (.cells #[.string op, .int .i64 d, .int .i64 a, .int .i64 b', .int .i64 (z : Int)] 61) none) (by rw [← codeL_put q (ldF F n) _ HLD.out]; exact hown8) hgr8)
              have HX8 := shade (HX2.out.off1 (World.grownBy_alloc _ (.cells #[.string op, .int .i64 d, .int .i64 a, .int .i64 b', .int .i64 (z : Int)] 61) none) hgr8 (fun e => by have := HO1.out _ e; omega))
              clear hown8 hgr8 hnil8 hi0 hz0 hz1 hz2 x0 x1 x2 x3 x4 hxz HX2
              obtain ⟨j0, hj0, hy0, hy1, hy2⟩ := info_parts info4b
              have x0 := HX8.out.look 0; have x1 := HX8.out.look 1; have x2 := HX8.out.look 2; have x3 := HX8.out.look 3; have x4 := HX8.out.look 4
              simp at x0 x1 x2 x3 x4
              have hwz8 := H8.out.low.size
              go_wp2_with (first
                | (at_builtin; refine wpList_append_own _ rfl _ _ 82 rfl w.heap.size 4 j0 (.bool false) 1 1 Tryd.underlying82 hj0 hy0 hy1 hy2 rfl (by decide) _ _ _ rfl (World.ownsRow.alloc H8.out.own2 _) ⟨w8.heap.size, 0, none⟩ 1 1 [.bool kb] rfl rfl (bool_new _ _ _) (bool_one _) (by unfold maxLen; omega) (by omega) (by simp at hwz8 ⊢; omega) ?_)
                | go_in)
              intro v9 w9 hown9 hgr9 hnil9
              have H9 := shade (H8.out.snoc2 (World.grownBy_alloc _ (.cells #[.bool kb] 4) none) (by rw [← bolL_snoc, HSK.out]; exact hown9) hgr9)
              clear hown9 hgr9 hnil9 hj0 hy0 hy1 hy2 x0 x1 x2 x3 x4
              go_wp2_with fail
              go_roundw
              case rel => exact ⟨q + 1, by omega, by go_num, H9.out⟩
              case measure => simp [intOf]; omega
            · have hne : (o2.toList != [106, 109, 112]) = false := by rw [bne, e9]; rfl
              have hled : ledN F n kn = kn := by rw [HLE.out, e9, if_pos rfl]
              have HLD := shade (HL.out _ hled)
              have HSK0 := shade (show skG F n q = ((kn : Int) != (q : Int) + 1) from by unfold skG; rw [HJ1.out, HLD.out, Bool.true_and]; rfl)
              clear hled HL HLE
              have HX2 := HX3; have HP2 := HP3
              clear x0 x1 x2 x3 x4 xf HP3 HX3
              obtain ⟨kb, hkb⟩ : ∃ kb, ((kn : Int) != (q : Int) + 1) = kb := ⟨_, rfl⟩
              have HSK := shade (show skG F n q = kb from HSK0.out.trans hkb)
              clear HSK0
              obtain ⟨i0, hi0, hz0, hz1, hz2⟩ := info_parts info24
              have hwz := HP2.out.low.size
              have x0 := HX2.out.look 0; have x1 := HX2.out.look 1; have x2 := HX2.out.look 2; have x3 := HX2.out.look 3; have x4 := HX2.out.look 4
              simp at x0 x1 x2 x3 x4
              have hxz := HX2.out.inside
              go_wp2_with (first
                | (at_builtin; refine wpList_append_own _ rfl _ _ 23 rfl w.heap.size 61 i0 (.agg #[.string ⟨#[]⟩, .int .i64 0, .int .i64 0, .int .i64 0, .int .i64 0]) 5 48 Tryd.underlying23 hi0 hz0 hz1 hz2 rfl (by decide) _ _ _ rfl (World.ownsRow.alloc HP2.out.own1 _) ⟨w3.heap.size, 0, none⟩ 1 1 [.string op, .int .i64 d, .int .i64 a, .int .i64 b', .int .i64 (kn : Int)] rfl rfl (cells_new _ _ _ _ _ _ _) (one_cells _ _ _ _ _) (by unfold maxLen; omega) (by omega) (by simp at hwz ⊢; omega) ?_)
                | go_in)
              intro v' w8 hown8 hgr8 hnil8
              rw [codeL_snoc q (ldF F n) ⟨op, d, a, b', (kn : Int)⟩] at hown8
              have H8 := shade (HP2.out.snoc1 (World.grownBy_alloc _ (.cells #[.string op, .int .i64 d, .int .i64 a, .int .i64 b', .int .i64 (kn : Int)] 61) none) (by rw [← codeL_put q (ldF F n) _ HLD.out]; exact hown8) hgr8)
              have HX8 := shade (HX2.out.off1 (World.grownBy_alloc _ (.cells #[.string op, .int .i64 d, .int .i64 a, .int .i64 b', .int .i64 (kn : Int)] 61) none) hgr8 (fun e => by have := HO1.out _ e; omega))
              clear hown8 hgr8 hnil8 hi0 hz0 hz1 hz2 x0 x1 x2 x3 x4 hxz HX2
              obtain ⟨j0, hj0, hy0, hy1, hy2⟩ := info_parts info4b
              have x0 := HX8.out.look 0; have x1 := HX8.out.look 1; have x2 := HX8.out.look 2; have x3 := HX8.out.look 3; have x4 := HX8.out.look 4
              simp at x0 x1 x2 x3 x4
              have hwz8 := H8.out.low.size
              go_wp2_with (first
                | (at_builtin; refine wpList_append_own _ rfl _ _ 82 rfl w.heap.size 4 j0 (.bool false) 1 1 Tryd.underlying82 hj0 hy0 hy1 hy2 rfl (by decide) _ _ _ rfl (World.ownsRow.alloc H8.out.own2 _) ⟨w8.heap.size, 0, none⟩ 1 1 [.bool kb] rfl rfl (bool_new _ _ _) (bool_one _) (by unfold maxLen; omega) (by omega) (by simp at hwz8 ⊢; omega) ?_)
                | go_in)
              intro v9 w9 hown9 hgr9 hnil9
              have H9 := shade (H8.out.snoc2 (World.grownBy_alloc _ (.cells #[.bool kb] 4) none) (by rw [← bolL_snoc, HSK.out]; exact hown9) hgr9)
              clear hown9 hgr9 hnil9 hj0 hy0 hy1 hy2 x0 x1 x2 x3 x4
              go_wp2_with fail
              go_roundw
              case rel => exact ⟨q + 1, by omega, by go_num, H9.out⟩
              case measure => simp [intOf]; omega
          · obtain rfl : z = n := by omega
            have hb : ((z : Int) == (z : Int)) = true := by simp
            have hled : ledN F z kn = z := by rw [HLE.out, isJ_end, if_neg (by simp)]
            have HLD := shade (HL.out _ hled)
            have HSK0 := shade (show skG F z q = ((z : Int) != (q : Int) + 1) from by unfold skG; rw [HJ1.out, HLD.out, Bool.true_and]; rfl)
            clear hled HL HLE
            go_upto_region 11 with (fail)
            have h6 := HX3.out.put 4 (.int .i64 (z : Int))
            simp at h6
            have HX2 := shade h6
            have HP2 := shade (HP3.out.far (b := wr.heap.size) 4 (.int .i64 (z : Int)) (by omega) (fun e => by have := HO1.out _ e; omega) (fun e => by have := HO2.out _ e; omega))
            obtain ⟨wd, hwd⟩ : ∃ wd, w3.setCell ⟨wr.heap.size, 4, none⟩ (.int .i64 (z : Int)) = wd := ⟨_, rfl⟩
            rw [hwd] at HP2 HX2 ⊢
            clear hwd h6 x0 x1 x2 x3 x4 xf HP3 HX3
            obtain ⟨kb, hkb⟩ : ∃ kb, ((z : Int) != (q : Int) + 1) = kb := ⟨_, rfl⟩
            have HSK := shade (show skG F z q = kb from HSK0.out.trans hkb)
            clear HSK0
            obtain ⟨i0, hi0, hz0, hz1, hz2⟩ := info_parts info24
            have hwz := HP2.out.low.size
            have x0 := HX2.out.look 0; have x1 := HX2.out.look 1; have x2 := HX2.out.look 2; have x3 := HX2.out.look 3; have x4 := HX2.out.look 4
            simp at x0 x1 x2 x3 x4
            have hxz := HX2.out.inside
            go_wp2_with (first
              | (at_builtin; refine wpList_append_own _ rfl _ _ 23 rfl w.heap.size 61 i0 (.agg #[.string ⟨#[]⟩, .int .i64 0, .int .i64 0, .int .i64 0, .int .i64 0]) 5 48 Tryd.underlying23 hi0 hz0 hz1 hz2 rfl (by decide) _ _ _ rfl (World.ownsRow.alloc HP2.out.own1 _) ⟨wd.heap.size, 0, none⟩ 1 1 [.string op, .int .i64 d, .int .i64 a, .int .i64 b', .int .i64 (z : Int)] rfl rfl (cells_new _ _ _ _ _ _ _) (one_cells _ _ _ _ _) (by unfold maxLen; omega) (by omega) (by simp at hwz ⊢; omega) ?_)
              | go_in)
            intro v' w8 hown8 hgr8 hnil8
            rw [codeL_snoc q (ldF F z) ⟨op, d, a, b', (z : Int)⟩] at hown8
            have H8 := shade (HP2.out.snoc1 (World.grownBy_alloc _ (.cells #[.string op, .int .i64 d, .int .i64 a, .int .i64 b', .int .i64 (z : Int)] 61) none) (by rw [← codeL_put q (ldF F z) _ HLD.out]; exact hown8) hgr8)
            have HX8 := shade (HX2.out.off1 (World.grownBy_alloc _ (.cells #[.string op, .int .i64 d, .int .i64 a, .int .i64 b', .int .i64 (z : Int)] 61) none) hgr8 (fun e => by have := HO1.out _ e; omega))
            clear hown8 hgr8 hnil8 hi0 hz0 hz1 hz2 x0 x1 x2 x3 x4 hxz HX2
            obtain ⟨j0, hj0, hy0, hy1, hy2⟩ := info_parts info4b
            have x0 := HX8.out.look 0; have x1 := HX8.out.look 1; have x2 := HX8.out.look 2; have x3 := HX8.out.look 3; have x4 := HX8.out.look 4
            simp at x0 x1 x2 x3 x4
            have hwz8 := H8.out.low.size
            go_wp2_with (first
              | (at_builtin; refine wpList_append_own _ rfl _ _ 82 rfl w.heap.size 4 j0 (.bool false) 1 1 Tryd.underlying82 hj0 hy0 hy1 hy2 rfl (by decide) _ _ _ rfl (World.ownsRow.alloc H8.out.own2 _) ⟨w8.heap.size, 0, none⟩ 1 1 [.bool kb] rfl rfl (bool_new _ _ _) (bool_one _) (by unfold maxLen; omega) (by omega) (by simp at hwz8 ⊢; omega) ?_)
              | go_in)
            intro v9 w9 hown9 hgr9 hnil9
            have H9 := shade (H8.out.snoc2 (World.grownBy_alloc _ (.cells #[.bool kb] 4) none) (by rw [← bolL_snoc, HSK.out]; exact hown9) hgr9)
            clear hown9 hgr9 hnil9 hj0 hy0 hy1 hy2 x0 x1 x2 x3 x4
            go_wp2_with fail
            go_roundw
            case rel => exact ⟨q + 1, by omega, by go_num, H9.out⟩
            case measure => simp [intOf]; omega
      · skip
        have e7 : (op.toList == [98, 122]) = false := by rw [beq_iff_eq.1 e8]; rfl
        have hjm : jmpB op.toList = true := by unfold jmpB; rw [e8, Bool.or_true]
        obtain ⟨k0, k1⟩ := HJK.out hjm
        obtain ⟨kn, rfl⟩ := Int.eq_ofNat_of_zero_le k0
        have hj1 : jmpB (F q).op.toList = true := by rw [HCC.out]; exact hjm
        have HL := shade (show ∀ y : Nat, ledN F n kn = y → ldF F n q = ⟨op, d, a, b', (y : Int)⟩ from fun y e => by rw [ldF_yes hj1, HCC.out, show (⟨op, d, a, b', (kn : Int)⟩ : Ins).k.toNat = kn from Int.toNat_natCast kn, e])
        have HJ1 := shade hj1
        have HEN := shade (endOf_any (some ⟨cb, co, none⟩) n c kn F wc HV.out (HC.out.on HP1.out.low) (by omega))
        have HLE := shade (show ledN F n kn = if isJ F n (stp F n kn (n + 1)) = true then kn else stp F n kn (n + 1) from rfl)
        have hzn := stp_le (x := kn) HV.out (by omega) (n + 1)
        clear hjm hj1 HJK k1
        obtain ⟨z, hz⟩ : ∃ z, stp F n kn (n + 1) = z := ⟨_, rfl⟩
        rw [hz] at HEN HLE hzn
        clear hz
        go_wp2_with fail
        refine HEN.out.mono ?_
        rintro e w3 ⟨rfl, hg3⟩
        have HP3 := shade (HP1.out.on hg3)
        have HX3 := shade (HX.out.moreS hg3)
        clear hg3 HP1 HX HEN x0 x1 x2 x3 x4 xf
        have x0 := HX3.out.look 0; have x1 := HX3.out.look 1; have x2 := HX3.out.look 2; have x3 := HX3.out.look 3; have x4 := HX3.out.look 4; have xf := HX3.out.free 4
        simp at x0 x1 x2 x3 x4
        by_cases hzl : z < n
        · have hb : ((z : Int) == (n : Int)) = false := beq_eq_false_iff_ne.2 (by omega)
          obtain ⟨y0, y1, y2, y3, y4⟩ := (HC.out.on HP3.out.low).five hzl
          have hI := isJ_in (F := F) hzl
          rw [hI] at HLE
          obtain ⟨o2, ho2⟩ : ∃ o2, (F z).op = o2 := ⟨_, rfl⟩
          rw [ho2] at y0 HLE
          clear hI ho2 y1 y2 y3 y4
          rcases e9 : (o2.toList == [106, 109, 112]) with _ | _
          · have hne : (o2.toList != [106, 109, 112]) = true := by rw [bne, e9]; rfl
            have hled : ledN F n kn = z := by rw [HLE.out, e9, if_neg (by simp)]
            have HLD := shade (HL.out _ hled)
            have HSK0 := shade (show skG F n q = ((z : Int) != (q : Int) + 1) from by unfold skG; rw [HJ1.out, HLD.out, Bool.true_and]; rfl)
            clear hled HL HLE hne
            go_upto_region 11 with (fail)
            have h6 := HX3.out.put 4 (.int .i64 (z : Int))
            simp at h6
            have HX2 := shade h6
            have HP2 := shade (HP3.out.far (b := wr.heap.size) 4 (.int .i64 (z : Int)) (by omega) (fun e => by have := HO1.out _ e; omega) (fun e => by have := HO2.out _ e; omega))
            obtain ⟨wd, hwd⟩ : ∃ wd, w3.setCell ⟨wr.heap.size, 4, none⟩ (.int .i64 (z : Int)) = wd := ⟨_, rfl⟩
            rw [hwd] at HP2 HX2 ⊢
            clear hwd h6 x0 x1 x2 x3 x4 xf HP3 HX3
            obtain ⟨kb, hkb⟩ : ∃ kb, ((z : Int) != (q : Int) + 1) = kb := ⟨_, rfl⟩
            have HSK := shade (show skG F n q = kb from HSK0.out.trans hkb)
            clear HSK0
            obtain ⟨i0, hi0, hz0, hz1, hz2⟩ := info_parts info24
            have hwz := HP2.out.low.size
            have x0 := HX2.out.look 0; have x1 := HX2.out.look 1; have x2 := HX2.out.look 2; have x3 := HX2.out.look 3; have x4 := HX2.out.look 4
            simp at x0 x1 x2 x3 x4
            have hxz := HX2.out.inside
            go_wp2_with (first
              | (at_builtin; refine wpList_append_own _ rfl _ _ 23 rfl w.heap.size 61 i0 (.agg #[.string ⟨#[]⟩, .int .i64 0, .int .i64 0, .int .i64 0, .int .i64 0]) 5 48 Tryd.underlying23 hi0 hz0 hz1 hz2 rfl (by decide) _ _ _ rfl (World.ownsRow.alloc HP2.out.own1 _) ⟨wd.heap.size, 0, none⟩ 1 1 [.string op, .int .i64 d, .int .i64 a, .int .i64 b', .int .i64 (z : Int)] rfl rfl (cells_new _ _ _ _ _ _ _) (one_cells _ _ _ _ _) (by unfold maxLen; omega) (by omega) (by simp at hwz ⊢; omega) ?_)
              | go_in)
            intro v' w8 hown8 hgr8 hnil8
            rw [codeL_snoc q (ldF F n) ⟨op, d, a, b', (z : Int)⟩] at hown8
            have H8 := shade (HP2.out.snoc1 (World.grownBy_alloc _ (.cells #[.string op, .int .i64 d, .int .i64 a, .int .i64 b', .int .i64 (z : Int)] 61) none) (by rw [← codeL_put q (ldF F n) _ HLD.out]; exact hown8) hgr8)
            have HX8 := shade (HX2.out.off1 (World.grownBy_alloc _ (.cells #[.string op, .int .i64 d, .int .i64 a, .int .i64 b', .int .i64 (z : Int)] 61) none) hgr8 (fun e => by have := HO1.out _ e; omega))
            clear hown8 hgr8 hnil8 hi0 hz0 hz1 hz2 x0 x1 x2 x3 x4 hxz HX2
            obtain ⟨j0, hj0, hy0, hy1, hy2⟩ := info_parts info4b
            have x0 := HX8.out.look 0; have x1 := HX8.out.look 1; have x2 := HX8.out.look 2; have x3 := HX8.out.look 3; have x4 := HX8.out.look 4
            simp at x0 x1 x2 x3 x4
            have hwz8 := H8.out.low.size
            go_wp2_with (first
              | (at_builtin; refine wpList_append_own _ rfl _ _ 82 rfl w.heap.size 4 j0 (.bool false) 1 1 Tryd.underlying82 hj0 hy0 hy1 hy2 rfl (by decide) _ _ _ rfl (World.ownsRow.alloc H8.out.own2 _) ⟨w8.heap.size, 0, none⟩ 1 1 [.bool kb] rfl rfl (bool_new _ _ _) (bool_one _) (by unfold maxLen; omega) (by omega) (by simp at hwz8 ⊢; omega) ?_)
              | go_in)
            intro v9 w9 hown9 hgr9 hnil9
            have H9 := shade (H8.out.snoc2 (World.grownBy_alloc _ (.cells #[.bool kb] 4) none) (by rw [← bolL_snoc, HSK.out]; exact hown9) hgr9)
            clear hown9 hgr9 hnil9 hj0 hy0 hy1 hy2 x0 x1 x2 x3 x4
            go_wp2_with fail
            go_roundw
            case rel => exact ⟨q + 1, by omega, by go_num, H9.out⟩
            case measure => simp [intOf]; omega
          · have hne : (o2.toList != [106, 109, 112]) = false := by rw [bne, e9]; rfl
            have hled : ledN F n kn = kn := by rw [HLE.out, e9, if_pos rfl]
            have HLD := shade (HL.out _ hled)
            have HSK0 := shade (show skG F n q = ((kn : Int) != (q : Int) + 1) from by unfold skG; rw [HJ1.out, HLD.out, Bool.true_and]; rfl)
            clear hled HL HLE
            have HX2 := HX3; have HP2 := HP3
            clear x0 x1 x2 x3 x4 xf HP3 HX3
            obtain ⟨kb, hkb⟩ : ∃ kb, ((kn : Int) != (q : Int) + 1) = kb := ⟨_, rfl⟩
            have HSK := shade (show skG F n q = kb from HSK0.out.trans hkb)
            clear HSK0
            obtain ⟨i0, hi0, hz0, hz1, hz2⟩ := info_parts info24
            have hwz := HP2.out.low.size
            have x0 := HX2.out.look 0; have x1 := HX2.out.look 1; have x2 := HX2.out.look 2; have x3 := HX2.out.look 3; have x4 := HX2.out.look 4
            simp at x0 x1 x2 x3 x4
            have hxz := HX2.out.inside
            go_wp2_with (first
              | (at_builtin; refine wpList_append_own _ rfl _ _ 23 rfl w.heap.size 61 i0 (.agg #[.string ⟨#[]⟩, .int .i64 0, .int .i64 0, .int .i64 0, .int .i64 0]) 5 48 Tryd.underlying23 hi0 hz0 hz1 hz2 rfl (by decide) _ _ _ rfl (World.ownsRow.alloc HP2.out.own1 _) ⟨w3.heap.size, 0, none⟩ 1 1 [.string op, .int .i64 d, .int .i64 a, .int .i64 b', .int .i64 (kn : Int)] rfl rfl (cells_new _ _ _ _ _ _ _) (one_cells _ _ _ _ _) (by unfold maxLen; omega) (by omega) (by simp at hwz ⊢; omega) ?_)
              | go_in)
            intro v' w8 hown8 hgr8 hnil8
            rw [codeL_snoc q (ldF F n) ⟨op, d, a, b', (kn : Int)⟩] at hown8
            have H8 := shade (HP2.out.snoc1 (World.grownBy_alloc _ (.cells #[.string op, .int .i64 d, .int .i64 a, .int .i64 b', .int .i64 (kn : Int)] 61) none) (by rw [← codeL_put q (ldF F n) _ HLD.out]; exact hown8) hgr8)
            have HX8 := shade (HX2.out.off1 (World.grownBy_alloc _ (.cells #[.string op, .int .i64 d, .int .i64 a, .int .i64 b', .int .i64 (kn : Int)] 61) none) hgr8 (fun e => by have := HO1.out _ e; omega))
            clear hown8 hgr8 hnil8 hi0 hz0 hz1 hz2 x0 x1 x2 x3 x4 hxz HX2
            obtain ⟨j0, hj0, hy0, hy1, hy2⟩ := info_parts info4b
            have x0 := HX8.out.look 0; have x1 := HX8.out.look 1; have x2 := HX8.out.look 2; have x3 := HX8.out.look 3; have x4 := HX8.out.look 4
            simp at x0 x1 x2 x3 x4
            have hwz8 := H8.out.low.size
            go_wp2_with (first
              | (at_builtin; refine wpList_append_own _ rfl _ _ 82 rfl w.heap.size 4 j0 (.bool false) 1 1 Tryd.underlying82 hj0 hy0 hy1 hy2 rfl (by decide) _ _ _ rfl (World.ownsRow.alloc H8.out.own2 _) ⟨w8.heap.size, 0, none⟩ 1 1 [.bool kb] rfl rfl (bool_new _ _ _) (bool_one _) (by unfold maxLen; omega) (by omega) (by simp at hwz8 ⊢; omega) ?_)
              | go_in)
            intro v9 w9 hown9 hgr9 hnil9
            have H9 := shade (H8.out.snoc2 (World.grownBy_alloc _ (.cells #[.bool kb] 4) none) (by rw [← bolL_snoc, HSK.out]; exact hown9) hgr9)
            clear hown9 hgr9 hnil9 hj0 hy0 hy1 hy2 x0 x1 x2 x3 x4
            go_wp2_with fail
            go_roundw
            case rel => exact ⟨q + 1, by omega, by go_num, H9.out⟩
            case measure => simp [intOf]; omega
        · obtain rfl : z = n := by omega
          have hb : ((z : Int) == (z : Int)) = true := by simp
          have hled : ledN F z kn = z := by rw [HLE.out, isJ_end, if_neg (by simp)]
          have HLD := shade (HL.out _ hled)
          have HSK0 := shade (show skG F z q = ((z : Int) != (q : Int) + 1) from by unfold skG; rw [HJ1.out, HLD.out, Bool.true_and]; rfl)
          clear hled HL HLE
          go_upto_region 11 with (fail)
          have h6 := HX3.out.put 4 (.int .i64 (z : Int))
          simp at h6
          have HX2 := shade h6
          have HP2 := shade (HP3.out.far (b := wr.heap.size) 4 (.int .i64 (z : Int)) (by omega) (fun e => by have := HO1.out _ e; omega) (fun e => by have := HO2.out _ e; omega))
          obtain ⟨wd, hwd⟩ : ∃ wd, w3.setCell ⟨wr.heap.size, 4, none⟩ (.int .i64 (z : Int)) = wd := ⟨_, rfl⟩
          rw [hwd] at HP2 HX2 ⊢
          clear hwd h6 x0 x1 x2 x3 x4 xf HP3 HX3
          obtain ⟨kb, hkb⟩ : ∃ kb, ((z : Int) != (q : Int) + 1) = kb := ⟨_, rfl⟩
          have HSK := shade (show skG F z q = kb from HSK0.out.trans hkb)
          clear HSK0
          obtain ⟨i0, hi0, hz0, hz1, hz2⟩ := info_parts info24
          have hwz := HP2.out.low.size
          have x0 := HX2.out.look 0; have x1 := HX2.out.look 1; have x2 := HX2.out.look 2; have x3 := HX2.out.look 3; have x4 := HX2.out.look 4
          simp at x0 x1 x2 x3 x4
          have hxz := HX2.out.inside
          go_wp2_with (first
            | (at_builtin; refine wpList_append_own _ rfl _ _ 23 rfl w.heap.size 61 i0 (.agg #[.string ⟨#[]⟩, .int .i64 0, .int .i64 0, .int .i64 0, .int .i64 0]) 5 48 Tryd.underlying23 hi0 hz0 hz1 hz2 rfl (by decide) _ _ _ rfl (World.ownsRow.alloc HP2.out.own1 _) ⟨wd.heap.size, 0, none⟩ 1 1 [.string op, .int .i64 d, .int .i64 a, .int .i64 b', .int .i64 (z : Int)] rfl rfl (cells_new _ _ _ _ _ _ _) (one_cells _ _ _ _ _) (by unfold maxLen; omega) (by omega) (by simp at hwz ⊢; omega) ?_)
            | go_in)
          intro v' w8 hown8 hgr8 hnil8
          rw [codeL_snoc q (ldF F z) ⟨op, d, a, b', (z : Int)⟩] at hown8
          have H8 := shade (HP2.out.snoc1 (World.grownBy_alloc _ (.cells #[.string op, .int .i64 d, .int .i64 a, .int .i64 b', .int .i64 (z : Int)] 61) none) (by rw [← codeL_put q (ldF F z) _ HLD.out]; exact hown8) hgr8)
          have HX8 := shade (HX2.out.off1 (World.grownBy_alloc _ (.cells #[.string op, .int .i64 d, .int .i64 a, .int .i64 b', .int .i64 (z : Int)] 61) none) hgr8 (fun e => by have := HO1.out _ e; omega))
          clear hown8 hgr8 hnil8 hi0 hz0 hz1 hz2 x0 x1 x2 x3 x4 hxz HX2
          obtain ⟨j0, hj0, hy0, hy1, hy2⟩ := info_parts info4b
          have x0 := HX8.out.look 0; have x1 := HX8.out.look 1; have x2 := HX8.out.look 2; have x3 := HX8.out.look 3; have x4 := HX8.out.look 4
          simp at x0 x1 x2 x3 x4
          have hwz8 := H8.out.low.size
          go_wp2_with (first
            | (at_builtin; refine wpList_append_own _ rfl _ _ 82 rfl w.heap.size 4 j0 (.bool false) 1 1 Tryd.underlying82 hj0 hy0 hy1 hy2 rfl (by decide) _ _ _ rfl (World.ownsRow.alloc H8.out.own2 _) ⟨w8.heap.size, 0, none⟩ 1 1 [.bool kb] rfl rfl (bool_new _ _ _) (bool_one _) (by unfold maxLen; omega) (by omega) (by simp at hwz8 ⊢; omega) ?_)
            | go_in)
          intro v9 w9 hown9 hgr9 hnil9
          have H9 := shade (H8.out.snoc2 (World.grownBy_alloc _ (.cells #[.bool kb] 4) none) (by rw [← bolL_snoc, HSK.out]; exact hown9) hgr9)
          clear hown9 hgr9 hnil9 hj0 hy0 hy1 hy2 x0 x1 x2 x3 x4
          go_wp2_with fail
          go_roundw
          case rel => exact ⟨q + 1, by omega, by go_num, H9.out⟩
          case measure => simp [intOf]; omega
    · obtain rfl : q = n := by omega
      go_wp2_with fail
      refine (keepOnly_any A1 A2 q _ _ (ldF F q) (skG F q) _ (ldF_valid HV.out) HC1.out HB2.out).mono ?_
      rintro e w5 ⟨v5, rfl, ho5, hg5⟩
      have HO := shade (CodeRes.after HP.out.low (show CodeRes (ctK (skG F q) q) (koP (ldF F q) (skG F q) q) wr (.returned v5) w5 from ⟨v5, rfl, ho5, hg5⟩))
      clear ho5 hg5
      go_wp2_with fail
      go_ret
      exact HO.out
end Go.Proofs.YtjeflaodeafhbaaDoor

namespace Go.Proofs.YtjeflaodeafhbaaDoor
open Go.RowKit
set_option linter.unusedSimpArgs false
set_option maxHeartbeats 4000000 in
theorem skip_both (n : Nat) (F : Nat → Ins) (hn : n ≤ 9223372036854775807) :
    ∃ (K : Nat) (f : Nat → Ins), K ≤ 300 ∧ (∀ (A : Option Addr) (c : Nat) (W : World), Code W A n F → Calls Tryd.prog 28 #[.slice A n c] W (CodeRes K f W)) ∧
      (∀ (A : Option Addr) (c : Nat) (W : World), WT W → Code W A n F → Calls Tryd.prog 27 #[.slice A n c] W (CodeRes K f W)) ∧
      ((vcB n F = false ∧ K = 0) ∨ (vcB n F = true ∧ K = ctK (skG F n) n ∧ f = koP (ldF F n) (skG F n) n)) := by
  rcases hv : vcB n F with _ | _
  · refine ⟨0, fun _ => zIns, by omega, fun A c W hC => ?_, fun A c W hg hC => ?_, .inl ⟨rfl, rfl⟩⟩
    · have HV := shade (validCode_any A n c F W hn hC)
      rw [hv] at HV
      clear hv hC
      go_enter Tryd.func28, Tryd.ntmps28
      go_wp2_with fail
      refine HV.out.mono ?_
      rintro e w1 ⟨rfl, hgr⟩
      have HR := shade hgr
      clear hgr HV
      go_wp2_with fail
      go_ret
      exact CodeRes.nil _ _ _ HR.out
    · have HV := shade (ValidCode_any A n c F W hg hn hC)
      rw [hv] at HV
      clear hv hC hg
      go_enter Tryd.func27, Tryd.ntmps27
      go_wp2_with fail
      refine HV.out.mono ?_
      rintro e w1 ⟨rfl, hgr⟩
      have HR := shade hgr
      clear hgr HV
      go_wp2_with fail
      go_ret
      exact CodeRes.nil _ _ _ HR.out
  · have hn40 := vcB_40 hv
    have HVT := shade hv
    have HPOST : ctK (skG F n) n = ctK (skG F n) n ∧ koP (ldF F n) (skG F n) n = koP (ldF F n) (skG F n) n := ⟨rfl, rfl⟩
    refine ⟨ctK (skG F n) n, koP (ldF F n) (skG F n) n, by have := ctK_le (skG F n) n; omega, fun A c W hC => ?_, fun A c W hg hC => ?_, .inr ⟨rfl, HPOST⟩⟩
    · have HV := shade (validCode_any A n c F W hn hC)
      rw [hv] at HV
      have HC := shade hC
      skip
      clear hv hC
      go_enter Tryd.func28, Tryd.ntmps28
      go_wp2_with fail
      refine HV.out.mono ?_
      rintro e w1 ⟨rfl, hgr⟩
      have HR := shade hgr
      clear hgr HV
      go_wp2_with fail
      refine (specSkip_any A n c F w1 HVT.out (HC.out.on HR.out)).mono ?_
      rintro e w2 ⟨v, rfl, ho, hg2⟩
      have HO := shade (CodeRes.after HR.out (show CodeRes (ctK (skG F n) n) (koP (ldF F n) (skG F n) n) w1 (.returned v) w2 from ⟨v, rfl, ho, hg2⟩))
      clear ho hg2
      go_wp2_with fail
      go_ret
      exact HO.out
    · have HV := shade (ValidCode_any A n c F W hg hn hC)
      rw [hv] at HV
      have HC := shade hC
      have HG := shade hg
      clear hv hC hg
      go_enter Tryd.func27, Tryd.ntmps27
      go_wp2_with fail
      refine HV.out.mono ?_
      rintro e w1 ⟨rfl, hgr⟩
      have HR := shade hgr
      clear hgr HV
      go_wp2_with fail
      refine (skip_any A n c F w1 HVT.out (HG.out.below (below_of_grown HR.out) (wt_lt HG.out)) (HC.out.on HR.out)).mono ?_
      rintro e w2 ⟨v, rfl, ho, hg2⟩
      have HO := shade (CodeRes.after HR.out (show CodeRes (ctK (skG F n) n) (koP (ldF F n) (skG F n) n) w1 (.returned v) w2 from ⟨v, rfl, ho, hg2⟩))
      clear ho hg2
      go_wp2_with fail
      go_ret
      exact HO.out
end Go.Proofs.YtjeflaodeafhbaaDoor
