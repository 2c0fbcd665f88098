/- Sets of four registers as numbers: plain facts. What an instruction reads and writes: the program's own words. Whether a way needs a register, walked. -/
import Derived.Test.YtbjhlilhbeiogaaDoorW440d
import Derived.Test.YtbjhlilhbeiogaaDoorW16
import Derived.Test.YtbjhlilhbeiogaaDoorG443
namespace Go.Proofs.YtbjhlilhbeiogaaDoor
open Go.RowKit
/-- Is a register in a set? -/
def bt (x : Int) (r : Nat) : Bool := x / 2 ^ r % 2 == 1
theorem or_all : ∀ x y : Fin 16, 0 ≤ bits .or .i64 (x.val : Int) (y.val : Int) ∧ bits .or .i64 (x.val : Int) (y.val : Int) < 16 ∧ ∀ r : Fin 4, bt (bits .or .i64 (x.val : Int) (y.val : Int)) r.val = (bt x.val r.val || bt y.val r.val) := by decide +kernel
theorem andNot_all : ∀ x y : Fin 16, 0 ≤ bits .andNot .i64 (x.val : Int) (y.val : Int) ∧ bits .andNot .i64 (x.val : Int) (y.val : Int) < 16 ∧ ∀ r : Fin 4, bt (bits .andNot .i64 (x.val : Int) (y.val : Int)) r.val = (bt x.val r.val && !bt y.val r.val) := by decide +kernel
theorem and_all : ∀ (x : Fin 16) (r : Fin 4), ((bits .and .i64 (x.val : Int) (2 ^ r.val)) != 0) = bt x.val r.val := by decide +kernel
theorem ext_all : ∀ x y : Fin 16, (∀ r : Fin 4, bt x.val r.val = bt y.val r.val) → x = y := by decide +kernel
theorem le_all : ∀ x y : Fin 16, (∀ r : Fin 4, bt x.val r.val = true → bt y.val r.val = true) → x.val ≤ y.val := by decide +kernel
theorem one_all : ∀ r q : Fin 4, bt (2 ^ r.val) q.val = (r == q) := by decide +kernel
/-- It is a set of registers. -/
def S4 (x : Int) : Prop := 0 ≤ x ∧ x < 16
theorem S4.fin {x : Int} (h : S4 x) : ∃ i : Fin 16, x = (i.val : Int) := ⟨⟨x.toNat, by have := h.1; have := h.2; omega⟩, by have := h.1; show x = ((x.toNat : Nat) : Int); omega⟩
theorem S4.or {x y : Int} (hx : S4 x) (hy : S4 y) : S4 (bits .or .i64 x y) ∧ ∀ r, r < 4 → bt (bits .or .i64 x y) r = (bt x r || bt y r) := by
  obtain ⟨i, rfl⟩ := hx.fin
  obtain ⟨j, rfl⟩ := hy.fin
  obtain ⟨h1, h2, h3⟩ := or_all i j
  exact ⟨⟨h1, h2⟩, fun r hr => h3 ⟨r, hr⟩⟩
theorem S4.andNot {x y : Int} (hx : S4 x) (hy : S4 y) : S4 (bits .andNot .i64 x y) ∧ ∀ r, r < 4 → bt (bits .andNot .i64 x y) r = (bt x r && !bt y r) := by
  obtain ⟨i, rfl⟩ := hx.fin
  obtain ⟨j, rfl⟩ := hy.fin
  obtain ⟨h1, h2, h3⟩ := andNot_all i j
  exact ⟨⟨h1, h2⟩, fun r hr => h3 ⟨r, hr⟩⟩
theorem S4.and {x : Int} (hx : S4 x) {r : Nat} (hr : r < 4) : ((bits .and .i64 x (2 ^ r)) != 0) = bt x r := by
  obtain ⟨i, rfl⟩ := hx.fin
  exact and_all i ⟨r, hr⟩
theorem S4.ext {x y : Int} (hx : S4 x) (hy : S4 y) (h : ∀ r, r < 4 → bt x r = bt y r) : x = y := by
  obtain ⟨i, rfl⟩ := hx.fin
  obtain ⟨j, rfl⟩ := hy.fin
  rw [ext_all i j (fun r => h r.val r.isLt)]
theorem S4.le {x y : Int} (hx : S4 x) (hy : S4 y) (h : ∀ r, r < 4 → bt x r = true → bt y r = true) : x ≤ y := by
  obtain ⟨i, rfl⟩ := hx.fin
  obtain ⟨j, rfl⟩ := hy.fin
  have := le_all i j (fun r => h r.val r.isLt)
  omega
theorem S4.zero : S4 0 := ⟨by omega, by omega⟩
theorem bt_zero (r : Nat) : bt 0 r = false := by
  unfold bt
  rw [Int.zero_ediv]
  rfl
theorem S4.one {r : Nat} (hr : r < 4) : S4 (2 ^ r) ∧ ∀ q, q < 4 → bt (2 ^ r) q = (r == q) := by
  refine ⟨?_, fun q hq => ?_⟩
  · rcases (show r = 0 ∨ r = 1 ∨ r = 2 ∨ r = 3 by omega) with rfl | rfl | rfl | rfl <;> exact ⟨by decide, by decide⟩
  · have h := one_all ⟨r, hr⟩ ⟨q, hq⟩
    have e : ((⟨r, hr⟩ : Fin 4) == (⟨q, hq⟩ : Fin 4)) = (r == q) := by
      by_cases e : r = q
      · subst e; simp
      · rw [beq_eq_false_iff_ne.2 e, beq_eq_false_iff_ne.2 (fun h => e (by injection h))]
    rw [e] at h
    exact h
theorem sh_set (d : Int) (h0 : 0 ≤ d) (h1 : d ≤ 3) : S4 (sh d) := by
  rcases (show d = 0 ∨ d = 1 ∨ d = 2 ∨ d = 3 by omega) with rfl | rfl | rfl | rfl <;> exact ⟨by decide +kernel, by decide +kernel⟩
/-- What an instruction of a program reads and writes, none at its end. -/
def urO (F : Nat → Ins) (n x : Nat) : Int := if x < n then usesR (wordN (F x).op.toList).toNat (F x).d (F x).a (F x).b else 0
def uwO (F : Nat → Ins) (n x : Nat) : Int := if x < n then usesW (wordN (F x).op.toList).toNat (F x).d else 0
theorem uses_sets {F : Nat → Ins} {n : Nat} (hv : vcB n F = true) (x : Nat) : S4 (urO F n x) ∧ S4 (uwO F n x) := by
  unfold urO uwO
  by_cases hx : x < n
  · rw [if_pos hx, if_pos hx]
    have h1 := allI_iff.1 (by simp only [vcB, Bool.and_eq_true] at hv; exact hv.1) x hx
    unfold okI at h1
    simp only [Bool.and_eq_true] at h1
    obtain ⟨_, ⟨b1, b1'⟩, ⟨b2, b2'⟩, ⟨b3, b3'⟩, _⟩ := VI_bounds (vB_true.1 h1.1)
    have sd := sh_set _ b1 b1'
    have sa := sh_set _ b2 b2'
    have sb := sh_set _ b3 b3'
    refine ⟨?_, ?_⟩
    · unfold usesR
      split
      · exact S4.zero
      · split
        · exact (S4.or sa sb).1
        · split
          · exact sa
          · split
            · exact (S4.or sd sa).1
            · split
              · exact sa
              · exact S4.zero
    · unfold usesW
      split
      · exact sd
      · exact S4.zero
  · rw [if_neg hx, if_neg hx]
    exact ⟨S4.zero, S4.zero⟩
theorem sh_two (r : Nat) (hr : r < 4) : sh (r : Int) = 2 ^ r := by
  rcases (show r = 0 ∨ r = 1 ∨ r = 2 ∨ r = 3 by omega) with rfl | rfl | rfl | rfl <;> decide +kernel
/-- A register is needed ahead of x: a way from x on reads it before it is written. -/
def Need (F : Nat → Ins) (n r x : Nat) : Prop := ∃ y, y ≤ n ∧ Way F n (fun z => bt (uwO F n z) r) x y ∧ bt (urO F n y) r = true
theorem Way.first {F : Nat → Ins} {n : Nat} {cut : Nat → Bool} {a x y : Nat} (ha : a < n) (hc : cut a = false) (hx : (x : Int) ∈ nxI (F a) a) (h : Way F n cut x y) : Way F n cut a y :=
  fun X h0 hs => h X (hs a x h0 ha hc hx) hs
/-- A way is none, or a step and a way. -/
theorem Way.parts {F : Nat → Ins} {n : Nat} {cut : Nat → Bool} {a y : Nat} (h : Way F n cut a y) : y = a ∨ (a < n ∧ cut a = false ∧ ∃ x : Nat, (x : Int) ∈ nxI (F a) a ∧ Way F n cut x y) := by
  refine h (fun z => z = a ∨ (a < n ∧ cut a = false ∧ ∃ x : Nat, (x : Int) ∈ nxI (F a) a ∧ Way F n cut x z)) (.inl rfl) (fun x z hx hxn hc hz => .inr ?_)
  rcases hx with rfl | ⟨h1, h2, u, hu, hw⟩
  · exact ⟨hxn, hc, z, hz, Way.start _ _ _ _⟩
  · exact ⟨h1, h2, u, hu, hw.step hxn hc hz⟩
theorem need_iff {F : Nat → Ins} {n : Nat} (r x : Nat) (hx : x < n) : Need F n r x ↔ (bt (urO F n x) r = true ∨ (bt (uwO F n x) r = false ∧ ∃ y : Nat, (y : Int) ∈ nxI (F x) x ∧ Need F n r y)) := by
  constructor
  · rintro ⟨y, hy, hw, hr⟩
    rcases hw.parts with rfl | ⟨_, hc, u, hu, hw'⟩
    · exact .inl hr
    · exact .inr ⟨hc, u, hu, y, hy, hw', hr⟩
  · rintro (h | ⟨hc, u, hu, y, hy, hw, hr⟩)
    · exact ⟨x, by omega, Way.start _ _ _ _, h⟩
    · exact ⟨y, hy, hw.first hx hc hu, hr⟩
theorem need_end {F : Nat → Ins} {n : Nat} (r : Nat) : ¬ Need F n r n := by
  rintro ⟨y, hy, hw, hr⟩
  rcases hw.parts with rfl | ⟨h, _⟩
  · unfold urO at hr
    rw [if_neg (Nat.lt_irrefl _), bt_zero] at hr
    cases hr
  · omega
end Go.Proofs.YtbjhlilhbeiogaaDoor

namespace Go.Proofs.YtbjhlilhbeiogaaDoor
open Go.RowKit
set_option linter.unusedSimpArgs false
theorem word_small {n : Nat} {F : Nat → Ins} {x : Nat} (hv : vcB n F = true) (hx : x < n) : vB (F x).op.toList (F x).d (F x).a (F x).b (F x).k = true ∧ 0 ≤ wordN (F x).op.toList ∧ wordN (F x).op.toList < 10 := by
  have h1 := allI_iff.1 (by simp only [vcB, Bool.and_eq_true] at hv; exact hv.1) x hx
  unfold okI at h1
  simp only [Bool.and_eq_true] at h1
  have h2 := vB_true.1 h1.1
  refine ⟨h1.1, ?_⟩
  unfold VI at h2
  omega
set_option maxRecDepth 100000 in
set_option maxHeartbeats 4000000 in
theorem usesAt_any (A : Option Addr) (n c : Nat) (F : Nat → Ins) (x : Nat) (w : World) (hg : WT w) (hv : vcB n F = true) (h : Code w A n F) (hx : x ≤ n) :
    Calls Tryd.prog 63 #[.slice A n c, .int .i64 (x : Int)] w fun e w' => e = .returned (.tuple #[.int .i64 (urO F n x), .int .i64 (uwO F n x)]) ∧ w.grownBy w' none := by
  have hn := vcB_40 hv
  by_cases hxn : x < n
  · obtain ⟨b, off, rfl, -⟩ := h.resolve_left (by omega)
    obtain ⟨q0, q1, q2, q3, q4⟩ := h.five hxn
    obtain ⟨hvb, hw0, hw1⟩ := word_small hv hxn
    have HU := shade (fun W (hW : WT W) => UsesOf_yes (F x).op (F x).d (F x).a (F x).b (F x).k W hW hvb (wordN (F x).op.toList).toNat (by omega) (by omega))
    have HG := shade hg
    have e1 : urO F n x = usesR (wordN (F x).op.toList).toNat (F x).d (F x).a (F x).b := if_pos hxn
    have e2 : uwO F n x = usesW (wordN (F x).op.toList).toNat (F x).d := if_pos hxn
    rw [e1, e2]
    have hne : ((x : Int) == (n : Int)) = false := beq_eq_false_iff_ne.2 (by omega)
    have hne2 : (x == n) = false := beq_eq_false_iff_ne.2 (by omega)
    clear e1 e2 h hg hv hvb hw0 hw1
    generalize F x = cc at *
    obtain ⟨op, d, a, b', kk⟩ := cc
    simp only [] at q0 q1 q2 q3 q4 HU ⊢
    obtain ⟨u, hu⟩ : ∃ u, usesR (wordN op.toList).toNat d a b' = u := ⟨_, rfl⟩
    obtain ⟨v, hv⟩ : ∃ v, usesW (wordN op.toList).toNat d = v := ⟨_, rfl⟩
    rw [hu, hv] at HU ⊢
    clear hu hv
    go_enter Tryd.func63, Tryd.ntmps63
    go_wp2_with fail
    refine (HU.out _ HG.out).mono ?_
    rintro e w1 ⟨rfl, hb⟩
    have HB := shade (grown_of_below hb)
    clear hb
    go_wp2_with fail
    go_ret2
    exact ⟨rfl, HB.out⟩
  · obtain rfl : x = n := by omega
    have e1 : urO F x x = 0 := if_neg hxn
    have e2 : uwO F x x = 0 := if_neg hxn
    rw [e1, e2]
    have hne : ((x : Int) == (x : Int)) = true := by simp
    clear e1 e2
    go_enter Tryd.func63, Tryd.ntmps63
    go_wp2_with fail
    go_ret2
    exact ⟨rfl, grown_refl _ _⟩
set_option maxHeartbeats 4000000 in
theorem written_any (bp bs : Nat) (A : Option Addr) (n c : Nat) (F : Nat → Ins) (r x : Nat) (w : World) (hr : r < 4) (hg : WT w) (hv : vcB n F = true) (h : Code w A n F) (hx : x ≤ n) (hp : Holds5 w bp 40 #[.slice A n c]) (hs : Holds5 w bs 3 #[.int .i64 (sh (r : Int))]) :
    Calls Tryd.prog 96 #[.int .i64 (x : Int), .pointer (some ⟨bp, 0, none⟩), .pointer (some ⟨bs, 0, none⟩)] w fun e w' => e = .returned (.bool (bt (uwO F n x) r)) ∧ w.grownBy w' none := by
  have HU := shade (usesAt_any A n c F x w hg hv h hx)
  have HE := shade (show ((bits .and .i64 (uwO F n x) (sh (r : Int))) != 0) = bt (uwO F n x) r by rw [sh_two r hr]; exact (uses_sets hv x).2.and hr)
  have HS := shade hs
  have q0 := hp.look 0
  simp at q0
  generalize urO F n x = u at *
  generalize uwO F n x = v at *
  generalize sh (r : Int) = s at *
  clear hg hv h hx hs hp
  go_enter Tryd.func96, Tryd.ntmps96
  go_wp2_with fail
  refine HU.out.mono ?_
  rintro e w1 ⟨rfl, hgr⟩
  have q1 := (HS.out.grown hgr (by intro e; cases e)).look 0
  simp at q1
  have HB := shade hgr
  clear hgr
  go_wp2_with fail
  go_ret
  exact ⟨ret_b HE.out, HB.out⟩
end Go.Proofs.YtbjhlilhbeiogaaDoor

namespace Go.Proofs.YtbjhlilhbeiogaaDoor
open Go.RowKit Go.Shelf
set_option linter.unusedSimpArgs false
attribute [local go_sem] Oper.semAt_some
theorem keepC_grown {T : Nat} {W W' : World} (hg : W.grownBy W' none) : KeepC T W W' :=
  ⟨hg.size, fun r o _ ho _ => (hg.block r (Array.getElem?_eq_some_iff.1 ho).1 (by simp)).trans ho⟩
/-- What 'needs' holds while it looks. -/
structure Ndr (w W : World) (A : Option Addr) (n c r : Nat) (b : Bool) : Prop where
  low : w.grownBy W none
  prog : Holds5 W w.heap.size 40 #[.slice A n c]
  res : Holds5 W (w.heap.size + 1) 4 #[.bool b]
  set : Holds5 W (w.heap.size + 1 + 1) 3 #[.int .i64 (sh (r : Int))]
theorem Ndr.lt {w W : World} {A : Option Addr} {n c r : Nat} {b : Bool} (h : Ndr w W A n c r b) : w.heap.size + 2 < W.heap.size := h.set.inside
theorem Ndr.row {w W W' : World} {A : Option Addr} {n c r : Nat} {b : Bool} {row : Option Nat} (h : Ndr w W A n c r b) (hg : W.grownBy W' row) (hr : ∀ j, row = some j → w.heap.size + 2 < j) : Ndr w W' A n c r b := by
  have ne : ∀ k, k ≤ w.heap.size + 2 → some k ≠ row := fun k hk e => by
    have := hr k e.symm
    omega
  exact ⟨⟨hg.os.trans h.low.os, hg.tape.trans h.low.tape, hg.output.trans h.low.output, Nat.le_trans h.low.size hg.size, fun i hi hn => (hg.block i (Nat.lt_of_lt_of_le hi h.low.size) (ne i (by omega))).trans (h.low.block i hi hn)⟩, h.prog.grown hg (ne _ (by omega)), h.res.grown hg (ne _ (by omega)), h.set.grown hg (ne _ (by omega))⟩
theorem Ndr.on {w W W' : World} {A : Option Addr} {n c r : Nat} {b : Bool} (h : Ndr w W A n c r b) (hg : W.grownBy W' none) : Ndr w W' A n c r b := h.row hg (fun j e => by cases e)
theorem Ndr.put {w W : World} {A : Option Addr} {n c r : Nat} {b : Bool} (h : Ndr w W A n c r b) (b' : Bool) : Ndr w (W.setCell ⟨w.heap.size + 1, 0, none⟩ (.bool b')) A n c r b' := by
  refine ⟨grown_put h.low (Nat.le_succ _) _ _, h.prog.other (p := ⟨w.heap.size + 1, 0, none⟩) (by show w.heap.size ≠ w.heap.size + 1; omega) _, h.res.put 0 (.bool b'), h.set.other (p := ⟨w.heap.size + 1, 0, none⟩) (by show w.heap.size + 1 + 1 ≠ w.heap.size + 1; omega) _⟩
set_option maxRecDepth 100000 in
set_option maxHeartbeats 16000000 in
theorem needs_any (A : Option Addr) (n c : Nat) (F : Nat → Ins) (a r : Nat) (w : World) (hv : vcB n F = true) (hwt : WT w) (hcode : Code w A n F) (ha : a ≤ n) (hr4 : r < 4) :
    Calls Tryd.prog 87 #[.slice A n c, .int .i64 (a : Int), .int .i64 (r : Int)] w fun e w' => (∃ b : Bool, e = .returned (.bool b) ∧ (b = true ↔ Need F n r a)) ∧ w.grownBy w' none := by
  have hn := vcB_40 hv
  have HV := shade hv; have HWT := shade hwt; have HCO := shade hcode
  clear hv hwt hcode
  refine (callsIn_wide (n := 6)).1 ?_
  refine callsIn_of_wp_marks Tryd.func87 rfl trivial ?_ rfl
  simp only [Tryd.ntmps87, List.size_toArray, List.length_cons, List.length_nil, Nat.reduceAdd, Nat.reduceSub, Array.replicate_succ, Array.replicate_zero, List.push_toArray, List.append_toArray, List.nil_append, List.cons_append]
  gi_upto_region 2 with (fail)
  have hn2 := shade (show Ndr w (((w.alloc (.cells #[.slice A n c] 40)).alloc (.cells #[.bool false] 4)).alloc (.cells #[.int .i64 (wrap64 (2 ^ r))] 3)) A n c r false from ⟨grown_same (grown_same (World.grownBy_alloc _ _ none) (World.grownBy_alloc _ _ none)) (World.grownBy_alloc _ _ none), ((Holds5.fresh w 40 #[.slice A n c]).alloc (.cells #[.bool false] 4)).alloc (.cells #[.int .i64 (wrap64 (2 ^ r))] 3), by
    have h := (Holds5.fresh (w.alloc (.cells #[.slice A n c] 40)) 4 #[.bool false]).alloc (.cells #[.int .i64 (wrap64 (2 ^ r))] 3)
    rwa [World.size_alloc] at h, by
    have h := Holds5.fresh ((w.alloc (.cells #[.slice A n c] 40)).alloc (.cells #[.bool false] 4)) 3 #[.int .i64 (wrap64 (2 ^ r))]
    rwa [World.size_alloc, World.size_alloc] at h⟩)
  have hz2 : ((((w.alloc (.cells #[.slice A n c] 40)).alloc (.cells #[.bool false] 4)).alloc (.cells #[.int .i64 (wrap64 (2 ^ r))] 3))).heap.size = w.heap.size + 3 := by simp
  obtain ⟨W2, hW2⟩ : ∃ W2, (((w.alloc (.cells #[.slice A n c] 40)).alloc (.cells #[.bool false] 4)).alloc (.cells #[.int .i64 (wrap64 (2 ^ r))] 3)) = W2 := ⟨_, rfl⟩
  rw [hW2] at hn2 hz2 ⊢
  have HZ2 := shade hz2
  have q0 := hn2.out.prog.look 0
  simp at q0
  clear hW2 hz2
  gi_wp2_with (fail)
  refine ⟨trivial, (callsIn_wide.2 (waysFrom_any A n c 96 #[.pointer (some ⟨w.heap.size, 0, none⟩), .pointer (some ⟨w.heap.size + 1 + 1, 0, none⟩)] (a : Int) W2)).mono ?_⟩
  rintro e W3 ⟨rfl, rfl⟩
  gi_wp2_with (fail)
  have e1 := ((Holds5.fresh W2 40 #[.slice A n c]).alloc (.cells #[.int .i64 (a : Int)] 3)).alloc (.cells #[.func (.func 96) #[] #[.pointer (some ⟨w.heap.size, 0, none⟩), .pointer (some ⟨w.heap.size + 1 + 1, 0, none⟩)]] 61)
  have e2 := (Holds5.fresh (W2.alloc (.cells #[.slice A n c] 40)) 3 #[.int .i64 (a : Int)]).alloc (.cells #[.func (.func 96) #[] #[.pointer (some ⟨w.heap.size, 0, none⟩), .pointer (some ⟨w.heap.size + 1 + 1, 0, none⟩)]] 61)
  have e3 := Holds5.fresh ((W2.alloc (.cells #[.slice A n c] 40)).alloc (.cells #[.int .i64 (a : Int)] 3)) 61 #[.func (.func 96) #[] #[.pointer (some ⟨w.heap.size, 0, none⟩), .pointer (some ⟨w.heap.size + 1 + 1, 0, none⟩)]]
  rw [World.size_alloc] at e2
  rw [World.size_alloc, World.size_alloc] at e3
  have hg3 : W2.grownBy (((W2.alloc (.cells #[.slice A n c] 40)).alloc (.cells #[.int .i64 (a : Int)] 3)).alloc (.cells #[.func (.func 96) #[] #[.pointer (some ⟨w.heap.size, 0, none⟩), .pointer (some ⟨w.heap.size + 1 + 1, 0, none⟩)]] 61)) none := grown_same (grown_same (World.grownBy_alloc _ _ none) (World.grownBy_alloc _ _ none)) (World.grownBy_alloc _ _ none)
  have hz3 : ((((W2.alloc (.cells #[.slice A n c] 40)).alloc (.cells #[.int .i64 (a : Int)] 3)).alloc (.cells #[.func (.func 96) #[] #[.pointer (some ⟨w.heap.size, 0, none⟩), .pointer (some ⟨w.heap.size + 1 + 1, 0, none⟩)]] 61))).heap.size = W2.heap.size + 3 := by simp
  obtain ⟨W3, hW3⟩ : ∃ W3, (((W2.alloc (.cells #[.slice A n c] 40)).alloc (.cells #[.int .i64 (a : Int)] 3)).alloc (.cells #[.func (.func 96) #[] #[.pointer (some ⟨w.heap.size, 0, none⟩), .pointer (some ⟨w.heap.size + 1 + 1, 0, none⟩)]] 61)) = W3 := ⟨_, rfl⟩
  rw [hW3] at e1 e2 e3 hg3 hz3 ⊢
  clear hW3 q0
  have hR3 := shade (hn2.out.on hg3)
  have HZ3 := shade hz3
  have hlow := hR3.out.low
  have hzz := HZ2.out
  have hA : ∀ b off, A = some ⟨b, off, none⟩ → n ≠ 0 → b < w.heap.size := fun b off e h0 => by
    obtain ⟨b', off', e', hb, _⟩ := HCO.out.resolve_left h0
    rw [e] at e'
    injection e' with e'
    injection e' with e1 e2
    omega
  have hlc : Low w.heap.size (fun W => Code W A n F) := by
    by_cases h0 : n = 0
    · intro W W' _ _ _
      exact .inl h0
    · exact low_code _ A n F (fun b off e => hA b off e h0)
  have hlw : Low w.heap.size (fun W => WT W ∧ Code W A n F) := (low_wt w.heap.size (wt_lt HWT.out)).and hlc
  have hG := ways_gives 5 (by omega) (W2.heap.size + 1) (W2.heap.size + 1 + 1) W2.heap.size (w.heap.size + 1) a A n c 96 #[.pointer (some ⟨w.heap.size, 0, none⟩), .pointer (some ⟨w.heap.size + 1 + 1, 0, none⟩)] F (fun x => bt (uwO F n x) r)
    (fun W => (WT W ∧ Code W A n F) ∧ (Holds5 W w.heap.size 40 #[.slice A n c] ∧ Holds5 W (w.heap.size + 1 + 1) 3 #[.int .i64 (sh (r : Int))]) ∧ (Holds5 W W2.heap.size 40 #[.slice A n c] ∧ Holds5 W (W2.heap.size + 1) 3 #[.int .i64 (a : Int)] ∧ Holds5 W (W2.heap.size + 1 + 1) 61 #[.func (.func 96) #[] #[.pointer (some ⟨w.heap.size, 0, none⟩), .pointer (some ⟨w.heap.size + 1 + 1, 0, none⟩)]])) W3
    HV.out ha ⟨hlw.on ⟨HWT.out, HCO.out⟩ hlow, ⟨hR3.out.prog, hR3.out.set⟩, e1, e2, e3⟩
    ((hlw.env (by omega) (by omega)).and (((env_box (by omega) (by omega)).and (env_box (by omega) (by omega))).and ((env_box (by omega) (by omega)).and ((env_box (by omega) (by omega)).and (env_box (by omega) (by omega)))))) (by omega)
    (enters_of Tryd.func96 (by kernel_rfl) rfl)
    (fun W h => (h.2.2.2.1.look 0).trans rfl) (fun W h => (h.2.2.2.2.look 0).trans rfl) (fun W h => (h.2.2.1.look 0).trans rfl) (fun W h => h.1.1) (fun W h => h.1.2)
    (fun x W h hx => written_any w.heap.size (w.heap.size + 1 + 1) A n c F r x W hr4 h.1.1 HV.out h.1.2 hx h.2.1.1 h.2.1.2)
  have HG := shade hG
  clear e1 e2 e3 hg3 hz3 hzz hG hA hlc hlw hlow hn2
  refine range_cells (n := 6) (T := w.heap.size + 1) (by omega) (gf := 95) (lb := #[.pointer (some ⟨W2.heap.size + 1, 0, none⟩), .pointer (some ⟨W2.heap.size + 1 + 1, 0, none⟩), .pointer (some ⟨W2.heap.size, 0, none⟩)]) rfl (enters_of Tryd.func95 (by kernel_rfl) rfl) HG.out rfl
    (fun pre W => Ndr w W A n c r false ∧ ∀ y, y ∈ pre → bt (urO F n y) r = false) (fun cc pre W => cc = .ret ∧ Ndr w W A n c r true ∧ ∃ y, y ∈ pre ∧ bt (urO F n y) r = true)
    (fun s X X' row hs hg hr => ⟨hs.1.row hg (fun j e => by have := hr j e; have := HZ3.out; have := HZ2.out; omega), hs.2⟩)
    (fun _ s X X' row hs hg hr => ⟨hs.1, hs.2.1.row hg (fun j e => by have := hr j e; have := HZ3.out; have := HZ2.out; omega), hs.2.2⟩)
    ⟨hR3.out, fun y hy => by cases hy⟩
    (fun x => { tmps := #[.slice A n c, .int .i64 (a : Int), .int .i64 (r : Int), .pointer (some ⟨w.heap.size, 0, none⟩), undef, undef, .pointer (some ⟨w.heap.size + 1, 0, none⟩), .pointer (some ⟨w.heap.size + 1 + 1, 0, none⟩), .func (.func 96) #[] #[.pointer (some ⟨w.heap.size, 0, none⟩), .pointer (some ⟨w.heap.size + 1 + 1, 0, none⟩)], .int .i64 (x : Int), undef, undef, .int .i64 (r : Int), .int .i64 (wrap64 (2 ^ r)), .func (.func 96) #[] #[.pointer (some ⟨w.heap.size, 0, none⟩), .pointer (some ⟨w.heap.size + 1 + 1, 0, none⟩)], .slice A n c, .int .i64 (a : Int), .func (.func 96) #[] #[.pointer (some ⟨w.heap.size, 0, none⟩), .pointer (some ⟨w.heap.size + 1 + 1, 0, none⟩)], .func (.func 95) #[] #[.pointer (some ⟨W2.heap.size + 1, 0, none⟩), .pointer (some ⟨W2.heap.size + 1 + 1, 0, none⟩), .pointer (some ⟨W2.heap.size, 0, none⟩)], .int .i64 (x : Int), undef, undef, undef, undef, undef, undef, undef, undef, undef, undef], defers := [] }) ?assign ?body ?done ?stop
  case assign =>
    intro l x W K hK
    gi_wp2_with (fail)
    exact hK
  case body =>
    rintro l pre x W ⟨hr, hp⟩ hlen hxn
    have HR := shade hr
    have HP := shade hp
    clear hr hp hR3 HG
    have q5 := HR.out.prog.look 0
    simp at q5
    gi_wp2_with (fail)
    have hU := usesAt_any A n c F x W (HWT.out.below (below_of_grown HR.out.low) (wt_lt HWT.out)) HV.out (HCO.out.on HR.out.low) hxn
    refine ⟨trivial, (CallsIn.inRound l (callsIn_wide.2 hU)).mono ?_⟩
    rintro e W4 ⟨rfl, hg4⟩
    have HR4 := shade (HR.out.on hg4)
    have HE := shade (show ((bits .and .i64 (urO F n x) (sh (r : Int))) != 0) = bt (urO F n x) r by rw [sh_two r hr4]; exact (uses_sets HV.out x).1.and hr4)
    have HK := shade (show KeepsOthers W W4 from KeepsOthers.of_grownBy hg4 (fun j o e => by cases e))
    have HC := shade (show KeepC (w.heap.size + 1) W W4 from keepC_grown hg4)
    clear hg4 hU q5
    have q6 := HR4.out.set.look 0
    have q7 := HR4.out.res.look 0
    have q8 := HR4.out.res.free 0
    simp at q6 q7
    generalize sh (r : Int) = s at *
    rcases hb : bt (urO F n x) r with _ | _
    · have HB := shade (show ∀ z, z = x → bt (urO F n z) r = false from fun z e => by rw [e]; exact hb)
      rw [hb] at HE
      have he := HE.out
      clear hb
      generalize urO F n x = u at *
      gi_wp2_with (fail)
      exact ⟨HK.out, HC.out, HR4.out, fun y hy => (List.mem_append.1 hy).elim (HP.out y) (fun e => by
        exact HB.out y (List.mem_singleton.1 e))⟩
    · have HB := shade (show ∀ z, z = x → bt (urO F n z) r = true from fun z e => by rw [e]; exact hb)
      rw [hb] at HE
      have he := HE.out
      clear hb
      generalize urO F n x = u at *
      gi_wp2_with (fail)
      exact ⟨HK.out.trans (KeepsOthers.setCell _ _ _), rfl, HR4.out.put true, x, by simp, HB.out x rfl⟩
  case done =>
    rintro D ys W hD hS ⟨hr, hp⟩ hK
    have HR := shade hr
    have HS := shade hS
    have HP := shade hp
    have q7 := HR.out.res.look 0
    have q8 := HR.out.res.free 0
    simp at q7
    clear hr hS hp hR3 HG
    gi_wp2_with (fail)
    have hK' := (KeepsOthers.setCell W ⟨w.heap.size + 1, 0, none⟩ (.bool false)).same D _ hK rfl
    refine ⟨by simp, .inl ⟨_, _, rfl, run_takeDeferred hK', ?_⟩⟩
    have hN := (HR.out.put false).row (grownBy_putObj' _ D (.deferred none)) (fun j e => by injection e with e; have := HZ3.out; have := HZ2.out; omega)
    have hc5 := hN.res.look 0
    simp at hc5
    refine ⟨.bool false, ?_, ⟨false, rfl, ?_⟩, hN.low⟩
    · simp [results, Tryd.f87, go_sem, hc5]
    · refine ⟨(fun e => by cases e), fun ⟨y, hy, hw, hb⟩ => ?_⟩
      rw [HP.out y ((HS.out y).2 hw)] at hb
      cases hb
  case stop =>
    rintro D cc pre W hD hSp ⟨rfl, hr, y, hy, hb⟩ hK
    have HR := shade hr
    have HB := shade (show Need F n r a from ⟨y, (hSp y hy).1, (hSp y hy).2, hb⟩)
    clear hr hSp hb hR3 HG
    gi_wp2_with (fail)
    refine ⟨by simp, .inl ⟨_, _, rfl, run_takeDeferred hK, ?_⟩⟩
    have hN := HR.out.row (grownBy_putObj' W D (.deferred none)) (fun j e => by injection e with e; have := HZ3.out; have := HZ2.out; omega)
    have hc5 := hN.res.look 0
    simp at hc5
    refine ⟨.bool true, ?_, ⟨true, rfl, ⟨fun _ => HB.out, fun _ => rfl⟩⟩, hN.low⟩
    simp [results, Tryd.f87, go_sem, hc5]
end Go.Proofs.YtbjhlilhbeiogaaDoor
