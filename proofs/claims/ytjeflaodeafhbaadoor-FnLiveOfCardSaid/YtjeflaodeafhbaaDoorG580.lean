/- What is needed: the program and its model. States that agree on what is needed step alike: plain facts. -/
import Derived.Test.YtjeflaodeafhbaaDoorH446
import Derived.Test.YtjeflaodeafhbaaDoorW16
import Derived.Test.YtjeflaodeafhbaaDoorW17
namespace Go.Proofs.YtjeflaodeafhbaaDoor
open Go.RowKit Go.Shelf
set_option linter.unusedSimpArgs false
attribute [local go_sem] Oper.semAt_some

/-- Is a register in a set? -/
def bt (x : Int) (r : Nat) : Bool := x / 2 ^ r % 2 == 1
theorem or_all : ∀ x y : Fin 16, 0 ≤ bits .or .i64 (x.val : Int) (y.val : Int) ∧ bits .or .i64 (x.val : Int) (y.val : Int) < 16 ∧ ∀ r : Fin 4, bt (bits .or .i64 (x.val : Int) (y.val : Int)) r.val = (bt x.val r.val || bt y.val r.val) := by decide +kernel
theorem andNot_all : ∀ x y : Fin 16, 0 ≤ bits .andNot .i64 (x.val : Int) (y.val : Int) ∧ bits .andNot .i64 (x.val : Int) (y.val : Int) < 16 ∧ ∀ r : Fin 4, bt (bits .andNot .i64 (x.val : Int) (y.val : Int)) r.val = (bt x.val r.val && !bt y.val r.val) := by decide +kernel
theorem and_all : ∀ (x : Fin 16) (r : Fin 4), ((bits .and .i64 (x.val : Int) (2 ^ r.val)) != 0) = bt x.val r.val := by decide +kernel
theorem ext_all : ∀ x y : Fin 16, (∀ r : Fin 4, bt x.val r.val = bt y.val r.val) → x = y := by decide +kernel
theorem le_all : ∀ x y : Fin 16, (∀ r : Fin 4, bt x.val r.val = true → bt y.val r.val = true) → x.val ≤ y.val := by decide +kernel
theorem one_all : ∀ r q : Fin 4, bt (2 ^ r.val) q.val = (r == q) := by decide +kernel
/-- It is a set of registers. -/
def S4 (x : Int) : Prop := 0 ≤ x ∧ x < 16
theorem S4.fin {x : Int} (h : S4 x) : ∃ i : Fin 16, x = (i.val : Int) := ⟨⟨x.toNat, by have := h.1; have := h.2; omega⟩, by have := h.1; show x = ((x.toNat : Nat) : Int); omega⟩
theorem S4.or {x y : Int} (hx : S4 x) (hy : S4 y) : S4 (bits .or .i64 x y) ∧ ∀ r, r < 4 → bt (bits .or .i64 x y) r = (bt x r || bt y r) := by
  obtain ⟨i, rfl⟩ := hx.fin
  obtain ⟨j, rfl⟩ := hy.fin
  obtain ⟨h1, h2, h3⟩ := or_all i j
  exact ⟨⟨h1, h2⟩, fun r hr => h3 ⟨r, hr⟩⟩
theorem S4.andNot {x y : Int} (hx : S4 x) (hy : S4 y) : S4 (bits .andNot .i64 x y) ∧ ∀ r, r < 4 → bt (bits .andNot .i64 x y) r = (bt x r && !bt y r) := by
  obtain ⟨i, rfl⟩ := hx.fin
  obtain ⟨j, rfl⟩ := hy.fin
  obtain ⟨h1, h2, h3⟩ := andNot_all i j
  exact ⟨⟨h1, h2⟩, fun r hr => h3 ⟨r, hr⟩⟩
theorem S4.and {x : Int} (hx : S4 x) {r : Nat} (hr : r < 4) : ((bits .and .i64 x (2 ^ r)) != 0) = bt x r := by
  obtain ⟨i, rfl⟩ := hx.fin
  exact and_all i ⟨r, hr⟩
theorem S4.ext {x y : Int} (hx : S4 x) (hy : S4 y) (h : ∀ r, r < 4 → bt x r = bt y r) : x = y := by
  obtain ⟨i, rfl⟩ := hx.fin
  obtain ⟨j, rfl⟩ := hy.fin
  rw [ext_all i j (fun r => h r.val r.isLt)]
theorem S4.le {x y : Int} (hx : S4 x) (hy : S4 y) (h : ∀ r, r < 4 → bt x r = true → bt y r = true) : x ≤ y := by
  obtain ⟨i, rfl⟩ := hx.fin
  obtain ⟨j, rfl⟩ := hy.fin
  have := le_all i j (fun r => h r.val r.isLt)
  omega
theorem S4.zero : S4 0 := ⟨by omega, by omega⟩
theorem bt_zero (r : Nat) : bt 0 r = false := by
  unfold bt
  rw [Int.zero_ediv]
  rfl
theorem S4.one {r : Nat} (hr : r < 4) : S4 (2 ^ r) ∧ ∀ q, q < 4 → bt (2 ^ r) q = (r == q) := by
  refine ⟨?_, fun q hq => ?_⟩
  · rcases (show r = 0 ∨ r = 1 ∨ r = 2 ∨ r = 3 by omega) with rfl | rfl | rfl | rfl <;> exact ⟨by decide, by decide⟩
  · have h := one_all ⟨r, hr⟩ ⟨q, hq⟩
    have e : ((⟨r, hr⟩ : Fin 4) == (⟨q, hq⟩ : Fin 4)) = (r == q) := by
      by_cases e : r = q
      · subst e; simp
      · rw [beq_eq_false_iff_ne.2 e, beq_eq_false_iff_ne.2 (fun h => e (by injection h))]
    rw [e] at h
    exact h
theorem sh_set (d : Int) (h0 : 0 ≤ d) (h1 : d ≤ 3) : S4 (sh d) := by
  rcases (show d = 0 ∨ d = 1 ∨ d = 2 ∨ d = 3 by omega) with rfl | rfl | rfl | rfl <;> exact ⟨by decide +kernel, by decide +kernel⟩
/-- What an instruction of a program reads and writes, none at its end. -/
def urO (F : Nat → Ins) (n x : Nat) : Int := if x < n then usesR (wordN (F x).op.toList).toNat (F x).d (F x).a (F x).b else 0
def uwO (F : Nat → Ins) (n x : Nat) : Int := if x < n then usesW (wordN (F x).op.toList).toNat (F x).d else 0
theorem uses_sets {F : Nat → Ins} {n : Nat} (hv : vcB n F = true) (x : Nat) : S4 (urO F n x) ∧ S4 (uwO F n x) := by
  unfold urO uwO
  by_cases hx : x < n
  · rw [if_pos hx, if_pos hx]
    have h1 := allI_iff.1 (by simp only [vcB, Bool.and_eq_true] at hv; exact hv.1) x hx
    unfold okI at h1
    simp only [Bool.and_eq_true] at h1
    obtain ⟨_, ⟨b1, b1'⟩, ⟨b2, b2'⟩, ⟨b3, b3'⟩, _⟩ := VI_bounds (vB_true.1 h1.1)
    have sd := sh_set _ b1 b1'
    have sa := sh_set _ b2 b2'
    have sb := sh_set _ b3 b3'
    refine ⟨?_, ?_⟩
    · unfold usesR
      split
      · exact S4.zero
      · split
        · exact (S4.or sa sb).1
        · split
          · exact sa
          · split
            · exact (S4.or sd sa).1
            · split
              · exact sa
              · exact S4.zero
    · unfold usesW
      split
      · exact sd
      · exact S4.zero
  · rw [if_neg hx, if_neg hx]
    exact ⟨S4.zero, S4.zero⟩
theorem sh_two (r : Nat) (hr : r < 4) : sh (r : Int) = 2 ^ r := by
  rcases (show r = 0 ∨ r = 1 ∨ r = 2 ∨ r = 3 by omega) with rfl | rfl | rfl | rfl <;> decide +kernel
/-- A register is needed ahead of x: a way from x on reads it before it is written. -/
def Need (F : Nat → Ins) (n r x : Nat) : Prop := ∃ y, y ≤ n ∧ Way F n (fun z => bt (uwO F n z) r) x y ∧ bt (urO F n y) r = true
theorem Way.first {F : Nat → Ins} {n : Nat} {cut : Nat → Bool} {a x y : Nat} (ha : a < n) (hc : cut a = false) (hx : (x : Int) ∈ nxI (F a) a) (h : Way F n cut x y) : Way F n cut a y :=
  fun X h0 hs => h X (hs a x h0 ha hc hx) hs
/-- A way is none, or a step and a way. -/
theorem Way.parts {F : Nat → Ins} {n : Nat} {cut : Nat → Bool} {a y : Nat} (h : Way F n cut a y) : y = a ∨ (a < n ∧ cut a = false ∧ ∃ x : Nat, (x : Int) ∈ nxI (F a) a ∧ Way F n cut x y) := by
  refine h (fun z => z = a ∨ (a < n ∧ cut a = false ∧ ∃ x : Nat, (x : Int) ∈ nxI (F a) a ∧ Way F n cut x z)) (.inl rfl) (fun x z hx hxn hc hz => .inr ?_)
  rcases hx with rfl | ⟨h1, h2, u, hu, hw⟩
  · exact ⟨hxn, hc, z, hz, Way.start _ _ _ _⟩
  · exact ⟨h1, h2, u, hu, hw.step hxn hc hz⟩
theorem need_iff {F : Nat → Ins} {n : Nat} (r x : Nat) (hx : x < n) : Need F n r x ↔ (bt (urO F n x) r = true ∨ (bt (uwO F n x) r = false ∧ ∃ y : Nat, (y : Int) ∈ nxI (F x) x ∧ Need F n r y)) := by
  constructor
  · rintro ⟨y, hy, hw, hr⟩
    rcases hw.parts with rfl | ⟨_, hc, u, hu, hw'⟩
    · exact .inl hr
    · exact .inr ⟨hc, u, hu, y, hy, hw', hr⟩
  · rintro (h | ⟨hc, u, hu, y, hy, hw, hr⟩)
    · exact ⟨x, by omega, Way.start _ _ _ _, h⟩
    · exact ⟨y, hy, hw.first hx hc hu, hr⟩
theorem need_end {F : Nat → Ins} {n : Nat} (r : Nat) : ¬ Need F n r n := by
  rintro ⟨y, hy, hw, hr⟩
  rcases hw.parts with rfl | ⟨h, _⟩
  · unfold urO at hr
    rw [if_neg (Nat.lt_irrefl _), bt_zero] at hr
    cases hr
  · omega

set_option linter.unusedSimpArgs false
theorem word_small {n : Nat} {F : Nat → Ins} {x : Nat} (hv : vcB n F = true) (hx : x < n) : vB (F x).op.toList (F x).d (F x).a (F x).b (F x).k = true ∧ 0 ≤ wordN (F x).op.toList ∧ wordN (F x).op.toList < 10 := by
  have h1 := allI_iff.1 (by simp only [vcB, Bool.and_eq_true] at hv; exact hv.1) x hx
  unfold okI at h1
  simp only [Bool.and_eq_true] at h1
  have h2 := vB_true.1 h1.1
  refine ⟨h1.1, ?_⟩
  unfold VI at h2
  omega
set_option maxRecDepth 100000 in
set_option maxHeartbeats 4000000 in
theorem usesAt_any (A : Option Addr) (n c : Nat) (F : Nat → Ins) (x : Nat) (w : World) (hg : WT w) (hv : vcB n F = true) (h : Code w A n F) (hx : x ≤ n) :
    Calls Tryd.prog 79 #[.slice A n c, .int .i64 (x : Int)] w fun e w' => e = .returned (.tuple #[.int .i64 (urO F n x), .int .i64 (uwO F n x)]) ∧ w.grownBy w' none := by
  have hn := vcB_40 hv
  by_cases hxn : x < n
  · obtain ⟨b, off, rfl, -⟩ := h.resolve_left (by omega)
    obtain ⟨q0, q1, q2, q3, q4⟩ := h.five hxn
    obtain ⟨hvb, hw0, hw1⟩ := word_small hv hxn
    have HU := shade (fun W (hW : WT W) => UsesOf_yes (F x).op (F x).d (F x).a (F x).b (F x).k W hW hvb (wordN (F x).op.toList).toNat (by omega) (by omega))
    have HG := shade hg
    have e1 : urO F n x = usesR (wordN (F x).op.toList).toNat (F x).d (F x).a (F x).b := if_pos hxn
    have e2 : uwO F n x = usesW (wordN (F x).op.toList).toNat (F x).d := if_pos hxn
    rw [e1, e2]
    have hne : ((x : Int) == (n : Int)) = false := beq_eq_false_iff_ne.2 (by omega)
    have hne2 : (x == n) = false := beq_eq_false_iff_ne.2 (by omega)
    clear e1 e2 h hg hv hvb hw0 hw1
    generalize F x = cc at *
    obtain ⟨op, d, a, b', kk⟩ := cc
    simp only [] at q0 q1 q2 q3 q4 HU ⊢
    obtain ⟨u, hu⟩ : ∃ u, usesR (wordN op.toList).toNat d a b' = u := ⟨_, rfl⟩
    obtain ⟨v, hv⟩ : ∃ v, usesW (wordN op.toList).toNat d = v := ⟨_, rfl⟩
    rw [hu, hv] at HU ⊢
    clear hu hv
    go_enter Tryd.func79, Tryd.ntmps79
    go_wp2_with fail
    refine (HU.out _ HG.out).mono ?_
    rintro e w1 ⟨rfl, hb⟩
    have HB := shade (grown_of_below hb)
    clear hb
    go_wp2_with fail
    go_ret2
    exact ⟨rfl, HB.out⟩
  · obtain rfl : x = n := by omega
    have e1 : urO F x x = 0 := if_neg hxn
    have e2 : uwO F x x = 0 := if_neg hxn
    rw [e1, e2]
    have hne : ((x : Int) == (x : Int)) = true := by simp
    clear e1 e2
    go_enter Tryd.func79, Tryd.ntmps79
    go_wp2_with fail
    go_ret2
    exact ⟨rfl, grown_refl _ _⟩
set_option maxHeartbeats 4000000 in
theorem written_any (bp bs : Nat) (A : Option Addr) (n c : Nat) (F : Nat → Ins) (r x : Nat) (w : World) (hr : r < 4) (hg : WT w) (hv : vcB n F = true) (h : Code w A n F) (hx : x ≤ n) (hp : Holds5 w bp 46 #[.slice A n c]) (hs : Holds5 w bs 3 #[.int .i64 (sh (r : Int))]) :
    Calls Tryd.prog 102 #[.int .i64 (x : Int), .pointer (some ⟨bp, 0, none⟩), .pointer (some ⟨bs, 0, none⟩)] w fun e w' => e = .returned (.bool (bt (uwO F n x) r)) ∧ w.grownBy w' none := by
  have HU := shade (usesAt_any A n c F x w hg hv h hx)
  have HE := shade (show ((bits .and .i64 (uwO F n x) (sh (r : Int))) != 0) = bt (uwO F n x) r by rw [sh_two r hr]; exact (uses_sets hv x).2.and hr)
  have HS := shade hs
  have q0 := hp.look 0
  simp at q0
  generalize urO F n x = u at *
  generalize uwO F n x = v at *
  generalize sh (r : Int) = s at *
  clear hg hv h hx hs hp
  go_enter Tryd.func102, Tryd.ntmps102
  go_wp2_with fail
  refine HU.out.mono ?_
  rintro e w1 ⟨rfl, hgr⟩
  have q1 := (HS.out.grown hgr (by intro e; cases e)).look 0
  simp at q1
  have HB := shade hgr
  clear hgr
  go_wp2_with fail
  go_ret
  exact ⟨ret_b HE.out, HB.out⟩

set_option linter.unusedSimpArgs false
attribute [local go_sem] Oper.semAt_some
theorem keepC_grown {T : Nat} {W W' : World} (hg : W.grownBy W' none) : KeepC T W W' :=
  ⟨hg.size, fun r o _ ho _ => (hg.block r (Array.getElem?_eq_some_iff.1 ho).1 (by simp)).trans ho⟩
/-- What 'needs' holds while it looks. -/
structure Ndr (w W : World) (A : Option Addr) (n c r : Nat) (b : Bool) : Prop where
  low : w.grownBy W none
  prog : Holds5 W w.heap.size 46 #[.slice A n c]
  res : Holds5 W (w.heap.size + 1) 4 #[.bool b]
  set : Holds5 W (w.heap.size + 1 + 1) 3 #[.int .i64 (sh (r : Int))]
theorem Ndr.lt {w W : World} {A : Option Addr} {n c r : Nat} {b : Bool} (h : Ndr w W A n c r b) : w.heap.size + 2 < W.heap.size := h.set.inside
theorem Ndr.row {w W W' : World} {A : Option Addr} {n c r : Nat} {b : Bool} {row : Option Nat} (h : Ndr w W A n c r b) (hg : W.grownBy W' row) (hr : ∀ j, row = some j → w.heap.size + 2 < j) : Ndr w W' A n c r b := by
  have ne : ∀ k, k ≤ w.heap.size + 2 → some k ≠ row := fun k hk e => by
    have := hr k e.symm
    omega
  exact ⟨⟨hg.os.trans h.low.os, hg.tape.trans h.low.tape, hg.output.trans h.low.output, Nat.le_trans h.low.size hg.size, fun i hi hn => (hg.block i (Nat.lt_of_lt_of_le hi h.low.size) (ne i (by omega))).trans (h.low.block i hi hn)⟩, h.prog.grown hg (ne _ (by omega)), h.res.grown hg (ne _ (by omega)), h.set.grown hg (ne _ (by omega))⟩
theorem Ndr.on {w W W' : World} {A : Option Addr} {n c r : Nat} {b : Bool} (h : Ndr w W A n c r b) (hg : W.grownBy W' none) : Ndr w W' A n c r b := h.row hg (fun j e => by cases e)
theorem Ndr.put {w W : World} {A : Option Addr} {n c r : Nat} {b : Bool} (h : Ndr w W A n c r b) (b' : Bool) : Ndr w (W.setCell ⟨w.heap.size + 1, 0, none⟩ (.bool b')) A n c r b' := by
  refine ⟨grown_put h.low (Nat.le_succ _) _ _, h.prog.other (p := ⟨w.heap.size + 1, 0, none⟩) (by show w.heap.size ≠ w.heap.size + 1; omega) _, h.res.put 0 (.bool b'), h.set.other (p := ⟨w.heap.size + 1, 0, none⟩) (by show w.heap.size + 1 + 1 ≠ w.heap.size + 1; omega) _⟩
set_option maxRecDepth 100000 in
set_option maxHeartbeats 16000000 in
theorem needs_any (A : Option Addr) (n c : Nat) (F : Nat → Ins) (a r : Nat) (w : World) (hv : vcB n F = true) (hwt : WT w) (hcode : Code w A n F) (ha : a ≤ n) (hr4 : r < 4) :
    Calls Tryd.prog 66 #[.slice A n c, .int .i64 (a : Int), .int .i64 (r : Int)] w fun e w' => (∃ b : Bool, e = .returned (.bool b) ∧ (b = true ↔ Need F n r a)) ∧ w.grownBy w' none := by
  have hn := vcB_40 hv
  have HV := shade hv; have HWT := shade hwt; have HCO := shade hcode
  clear hv hwt hcode
  refine (callsIn_wide (n := 6)).1 ?_
  refine callsIn_of_wp_marks Tryd.func66 rfl trivial ?_ rfl
  simp only [Tryd.ntmps66, List.size_toArray, List.length_cons, List.length_nil, Nat.reduceAdd, Nat.reduceSub, Array.replicate_succ, Array.replicate_zero, List.push_toArray, List.append_toArray, List.nil_append, List.cons_append]
  gi_upto_region 2 with (fail)
  have hn2 := shade (show Ndr w (((w.alloc (.cells #[.slice A n c] 46)).alloc (.cells #[.bool false] 4)).alloc (.cells #[.int .i64 (wrap64 (2 ^ r))] 3)) A n c r false from ⟨grown_same (grown_same (World.grownBy_alloc _ _ none) (World.grownBy_alloc _ _ none)) (World.grownBy_alloc _ _ none), ((Holds5.fresh w 46 #[.slice A n c]).alloc (.cells #[.bool false] 4)).alloc (.cells #[.int .i64 (wrap64 (2 ^ r))] 3), by
    have h := (Holds5.fresh (w.alloc (.cells #[.slice A n c] 46)) 4 #[.bool false]).alloc (.cells #[.int .i64 (wrap64 (2 ^ r))] 3)
    rwa [World.size_alloc] at h, by
    have h := Holds5.fresh ((w.alloc (.cells #[.slice A n c] 46)).alloc (.cells #[.bool false] 4)) 3 #[.int .i64 (wrap64 (2 ^ r))]
    rwa [World.size_alloc, World.size_alloc] at h⟩)
  have hz2 : ((((w.alloc (.cells #[.slice A n c] 46)).alloc (.cells #[.bool false] 4)).alloc (.cells #[.int .i64 (wrap64 (2 ^ r))] 3))).heap.size = w.heap.size + 3 := by simp
  obtain ⟨W2, hW2⟩ : ∃ W2, (((w.alloc (.cells #[.slice A n c] 46)).alloc (.cells #[.bool false] 4)).alloc (.cells #[.int .i64 (wrap64 (2 ^ r))] 3)) = W2 := ⟨_, rfl⟩
  rw [hW2] at hn2 hz2 ⊢
  have HZ2 := shade hz2
  have q0 := hn2.out.prog.look 0
  simp at q0
  clear hW2 hz2
  gi_wp2_with (fail)
  refine ⟨trivial, (callsIn_wide.2 (waysFrom_any A n c 102 #[.pointer (some ⟨w.heap.size, 0, none⟩), .pointer (some ⟨w.heap.size + 1 + 1, 0, none⟩)] (a : Int) W2)).mono ?_⟩
  rintro e W3 ⟨rfl, rfl⟩
  gi_wp2_with (fail)
  have e1 := ((Holds5.fresh W2 46 #[.slice A n c]).alloc (.cells #[.int .i64 (a : Int)] 3)).alloc (.cells #[.func (.func 102) #[] #[.pointer (some ⟨w.heap.size, 0, none⟩), .pointer (some ⟨w.heap.size + 1 + 1, 0, none⟩)]] 84)
  have e2 := (Holds5.fresh (W2.alloc (.cells #[.slice A n c] 46)) 3 #[.int .i64 (a : Int)]).alloc (.cells #[.func (.func 102) #[] #[.pointer (some ⟨w.heap.size, 0, none⟩), .pointer (some ⟨w.heap.size + 1 + 1, 0, none⟩)]] 84)
  have e3 := Holds5.fresh ((W2.alloc (.cells #[.slice A n c] 46)).alloc (.cells #[.int .i64 (a : Int)] 3)) 84 #[.func (.func 102) #[] #[.pointer (some ⟨w.heap.size, 0, none⟩), .pointer (some ⟨w.heap.size + 1 + 1, 0, none⟩)]]
  rw [World.size_alloc] at e2
  rw [World.size_alloc, World.size_alloc] at e3
  have hg3 : W2.grownBy (((W2.alloc (.cells #[.slice A n c] 46)).alloc (.cells #[.int .i64 (a : Int)] 3)).alloc (.cells #[.func (.func 102) #[] #[.pointer (some ⟨w.heap.size, 0, none⟩), .pointer (some ⟨w.heap.size + 1 + 1, 0, none⟩)]] 84)) none := grown_same (grown_same (World.grownBy_alloc _ _ none) (World.grownBy_alloc _ _ none)) (World.grownBy_alloc _ _ none)
  have hz3 : ((((W2.alloc (.cells #[.slice A n c] 46)).alloc (.cells #[.int .i64 (a : Int)] 3)).alloc (.cells #[.func (.func 102) #[] #[.pointer (some ⟨w.heap.size, 0, none⟩), .pointer (some ⟨w.heap.size + 1 + 1, 0, none⟩)]] 84))).heap.size = W2.heap.size + 3 := by simp
  obtain ⟨W3, hW3⟩ : ∃ W3, (((W2.alloc (.cells #[.slice A n c] 46)).alloc (.cells #[.int .i64 (a : Int)] 3)).alloc (.cells #[.func (.func 102) #[] #[.pointer (some ⟨w.heap.size, 0, none⟩), .pointer (some ⟨w.heap.size + 1 + 1, 0, none⟩)]] 84)) = W3 := ⟨_, rfl⟩
  rw [hW3] at e1 e2 e3 hg3 hz3 ⊢
  clear hW3 q0
  have hR3 := shade (hn2.out.on hg3)
  have HZ3 := shade hz3
  have hlow := hR3.out.low
  have hzz := HZ2.out
  have hA : ∀ b off, A = some ⟨b, off, none⟩ → n ≠ 0 → b < w.heap.size := fun b off e h0 => by
    obtain ⟨b', off', e', hb, _⟩ := HCO.out.resolve_left h0
    rw [e] at e'
    injection e' with e'
    injection e' with e1 e2
    omega
  have hlc : Low w.heap.size (fun W => Code W A n F) := by
    by_cases h0 : n = 0
    · intro W W' _ _ _
      exact .inl h0
    · exact low_code _ A n F (fun b off e => hA b off e h0)
  have hlw : Low w.heap.size (fun W => WT W ∧ Code W A n F) := (low_wt w.heap.size (wt_lt HWT.out)).and hlc
  have hG := ways_gives 5 (by omega) (W2.heap.size + 1) (W2.heap.size + 1 + 1) W2.heap.size (w.heap.size + 1) a A n c 102 #[.pointer (some ⟨w.heap.size, 0, none⟩), .pointer (some ⟨w.heap.size + 1 + 1, 0, none⟩)] F (fun x => bt (uwO F n x) r)
    (fun W => (WT W ∧ Code W A n F) ∧ (Holds5 W w.heap.size 46 #[.slice A n c] ∧ Holds5 W (w.heap.size + 1 + 1) 3 #[.int .i64 (sh (r : Int))]) ∧ (Holds5 W W2.heap.size 46 #[.slice A n c] ∧ Holds5 W (W2.heap.size + 1) 3 #[.int .i64 (a : Int)] ∧ Holds5 W (W2.heap.size + 1 + 1) 84 #[.func (.func 102) #[] #[.pointer (some ⟨w.heap.size, 0, none⟩), .pointer (some ⟨w.heap.size + 1 + 1, 0, none⟩)]])) W3
    HV.out ha ⟨hlw.on ⟨HWT.out, HCO.out⟩ hlow, ⟨hR3.out.prog, hR3.out.set⟩, e1, e2, e3⟩
    ((hlw.env (by omega) (by omega)).and (((env_box (by omega) (by omega)).and (env_box (by omega) (by omega))).and ((env_box (by omega) (by omega)).and ((env_box (by omega) (by omega)).and (env_box (by omega) (by omega)))))) (by omega)
    (enters_of Tryd.func102 (by kernel_rfl) rfl)
    (fun W h => (h.2.2.2.1.look 0).trans rfl) (fun W h => (h.2.2.2.2.look 0).trans rfl) (fun W h => (h.2.2.1.look 0).trans rfl) (fun W h => h.1.1) (fun W h => h.1.2)
    (fun x W h hx => written_any w.heap.size (w.heap.size + 1 + 1) A n c F r x W hr4 h.1.1 HV.out h.1.2 hx h.2.1.1 h.2.1.2)
  have HG := shade hG
  clear e1 e2 e3 hg3 hz3 hzz hG hA hlc hlw hlow hn2
  refine range_cells (n := 6) (T := w.heap.size + 1) (by omega) (gf := 115) (lb := #[.pointer (some ⟨W2.heap.size + 1, 0, none⟩), .pointer (some ⟨W2.heap.size + 1 + 1, 0, none⟩), .pointer (some ⟨W2.heap.size, 0, none⟩)]) rfl (enters_of Tryd.func115 (by kernel_rfl) rfl) HG.out rfl
    (fun pre W => Ndr w W A n c r false ∧ ∀ y, y ∈ pre → bt (urO F n y) r = false) (fun cc pre W => cc = .ret ∧ Ndr w W A n c r true ∧ ∃ y, y ∈ pre ∧ bt (urO F n y) r = true)
    (fun s X X' row hs hg hr => ⟨hs.1.row hg (fun j e => by have := hr j e; have := HZ3.out; have := HZ2.out; omega), hs.2⟩)
    (fun _ s X X' row hs hg hr => ⟨hs.1, hs.2.1.row hg (fun j e => by have := hr j e; have := HZ3.out; have := HZ2.out; omega), hs.2.2⟩)
    ⟨hR3.out, fun y hy => by cases hy⟩
    (fun x => { tmps := #[.slice A n c, .int .i64 (a : Int), .int .i64 (r : Int), .pointer (some ⟨w.heap.size, 0, none⟩), undef, undef, .pointer (some ⟨w.heap.size + 1, 0, none⟩), .pointer (some ⟨w.heap.size + 1 + 1, 0, none⟩), .func (.func 102) #[] #[.pointer (some ⟨w.heap.size, 0, none⟩), .pointer (some ⟨w.heap.size + 1 + 1, 0, none⟩)], .int .i64 (x : Int), undef, undef, .int .i64 (r : Int), .int .i64 (wrap64 (2 ^ r)), .func (.func 102) #[] #[.pointer (some ⟨w.heap.size, 0, none⟩), .pointer (some ⟨w.heap.size + 1 + 1, 0, none⟩)], .slice A n c, .int .i64 (a : Int), .func (.func 102) #[] #[.pointer (some ⟨w.heap.size, 0, none⟩), .pointer (some ⟨w.heap.size + 1 + 1, 0, none⟩)], .func (.func 115) #[] #[.pointer (some ⟨W2.heap.size + 1, 0, none⟩), .pointer (some ⟨W2.heap.size + 1 + 1, 0, none⟩), .pointer (some ⟨W2.heap.size, 0, none⟩)], .int .i64 (x : Int), undef, undef, undef, undef, undef, undef, undef, undef, undef, undef], defers := [] }) ?assign ?body ?done ?stop
  case assign =>
    intro l x W K hK
    gi_wp2_with (fail)
    exact hK
  case body =>
    rintro l pre x W ⟨hr, hp⟩ hlen hxn
    have HR := shade hr
    have HP := shade hp
    clear hr hp hR3 HG
    have q5 := HR.out.prog.look 0
    simp at q5
    gi_wp2_with (fail)
    have hU := usesAt_any A n c F x W (HWT.out.below (below_of_grown HR.out.low) (wt_lt HWT.out)) HV.out (HCO.out.on HR.out.low) hxn
    refine ⟨trivial, (CallsIn.inRound l (callsIn_wide.2 hU)).mono ?_⟩
    rintro e W4 ⟨rfl, hg4⟩
    have HR4 := shade (HR.out.on hg4)
    have HE := shade (show ((bits .and .i64 (urO F n x) (sh (r : Int))) != 0) = bt (urO F n x) r by rw [sh_two r hr4]; exact (uses_sets HV.out x).1.and hr4)
    have HK := shade (show KeepsOthers W W4 from KeepsOthers.of_grownBy hg4 (fun j o e => by cases e))
    have HC := shade (show KeepC (w.heap.size + 1) W W4 from keepC_grown hg4)
    clear hg4 hU q5
    have q6 := HR4.out.set.look 0
    have q7 := HR4.out.res.look 0
    have q8 := HR4.out.res.free 0
    simp at q6 q7
    generalize sh (r : Int) = s at *
    rcases hb : bt (urO F n x) r with _ | _
    · have HB := shade (show ∀ z, z = x → bt (urO F n z) r = false from fun z e => by rw [e]; exact hb)
      rw [hb] at HE
      have he := HE.out
      clear hb
      generalize urO F n x = u at *
      gi_wp2_with (fail)
      exact ⟨HK.out, HC.out, HR4.out, fun y hy => (List.mem_append.1 hy).elim (HP.out y) (fun e => by
        exact HB.out y (List.mem_singleton.1 e))⟩
    · have HB := shade (show ∀ z, z = x → bt (urO F n z) r = true from fun z e => by rw [e]; exact hb)
      rw [hb] at HE
      have he := HE.out
      clear hb
      generalize urO F n x = u at *
      gi_wp2_with (fail)
      exact ⟨HK.out.trans (KeepsOthers.setCell _ _ _), rfl, HR4.out.put true, x, by simp, HB.out x rfl⟩
  case done =>
    rintro D ys W hD hS ⟨hr, hp⟩ hK
    have HR := shade hr
    have HS := shade hS
    have HP := shade hp
    have q7 := HR.out.res.look 0
    have q8 := HR.out.res.free 0
    simp at q7
    clear hr hS hp hR3 HG
    gi_wp2_with (fail)
    have hK' := (KeepsOthers.setCell W ⟨w.heap.size + 1, 0, none⟩ (.bool false)).same D _ hK rfl
    refine ⟨by simp, .inl ⟨_, _, rfl, run_takeDeferred hK', ?_⟩⟩
    have hN := (HR.out.put false).row (grownBy_putObj' _ D (.deferred none)) (fun j e => by injection e with e; have := HZ3.out; have := HZ2.out; omega)
    have hc5 := hN.res.look 0
    simp at hc5
    refine ⟨.bool false, ?_, ⟨false, rfl, ?_⟩, hN.low⟩
    · simp [results, Tryd.f66, go_sem, hc5]
    · refine ⟨(fun e => by cases e), fun ⟨y, hy, hw, hb⟩ => ?_⟩
      rw [HP.out y ((HS.out y).2 hw)] at hb
      cases hb
  case stop =>
    rintro D cc pre W hD hSp ⟨rfl, hr, y, hy, hb⟩ hK
    have HR := shade hr
    have HB := shade (show Need F n r a from ⟨y, (hSp y hy).1, (hSp y hy).2, hb⟩)
    clear hr hSp hb hR3 HG
    gi_wp2_with (fail)
    refine ⟨by simp, .inl ⟨_, _, rfl, run_takeDeferred hK, ?_⟩⟩
    have hN := HR.out.row (grownBy_putObj' W D (.deferred none)) (fun j e => by injection e with e; have := HZ3.out; have := HZ2.out; omega)
    have hc5 := hN.res.look 0
    simp at hc5
    refine ⟨.bool true, ?_, ⟨true, rfl, ⟨fun _ => HB.out, fun _ => rfl⟩⟩, hN.low⟩
    simp [results, Tryd.f66, go_sem, hc5]

set_option linter.unusedSimpArgs false
theorem info3n : (Tryd.prog.info? 3).map (fun i => (i.zero, i.size, i.bytes)) = some (some (.int .i64 0), 1, 8) := by kernel_rfl
theorem made_nums (n : Nat) : (madeCells #[Value.int .i64 0] n).toList = numL n (fun _ => 0) := by
  rw [toList_madeCells_one]
  unfold numL
  rw [List.map_const', List.length_range]
/-- The numbers so far. -/
structure Sts (w wr : World) (n : Nat) (f : Nat → Int) : Prop where
  own : Own wr w.heap.size (some ⟨w.heap.size, 0, none⟩) (n + 1) (n + 1) f
  low : w.grownBy wr none
theorem Sts.on {w wr w2 : World} {n : Nat} {f : Nat → Int} (h : Sts w wr n f) (hg : wr.grownBy w2 none) : Sts w w2 n f := ⟨World.ownsRow.kept h.own hg (.inr (by
  show some w.heap.size ≠ none
  simp)), grown_same h.low hg⟩
theorem Sts.congr {w wr : World} {n : Nat} {f g : Nat → Int} (h : Sts w wr n f) (hf : ∀ j, f j = g j) : Sts w wr n g := ⟨by
  have h1 := h.own
  show World.ownsRow _ _ _ _ _ _ _
  rw [numL_congr (n + 1) g f (fun j _ => (hf j).symm)]
  exact h1, h.low⟩
theorem Sts.set {w wr : World} {n : Nat} {f : Nat → Int} (h : Sts w wr n f) (k : Nat) (x : Int) : Sts w (wr.setCell ⟨w.heap.size, k, none⟩ (.int .i64 x)) n (fun j => if j = k then x else f j) := ⟨by
  have h1 := (World.ownsRow.stored h.own k (.int .i64 x)).1
  rw [numL_set (n + 1) _ (fun j => if j = k then x else f j) k x (by simp) (fun j _ hne => by
    show _ = (if j = k then _ else _)
    rw [if_neg hne])] at h1
  exact h1, grown_then h.low (grown_set w.heap.size k _) (Nat.le_refl _)⟩
theorem Sts.cell {w wr : World} {n : Nat} {f : Nat → Int} (h : Sts w wr n f) (k : Nat) (hk : k ≤ n) : wr.cell? ⟨w.heap.size, k, none⟩ = some (.int .i64 (f k)) := by
  rcases h.own.nums with h0 | ⟨b, off, e, _, hc⟩
  · omega
  · injection e with e
    injection e with e1 e2
    subst e1
    subst e2
    have := hc k (by omega)
    rwa [Nat.zero_add] at this
theorem Sts.free {w wr : World} {n : Nat} {f : Nat → Int} (h : Sts w wr n f) (k : Nat) : wr.frozen? ⟨w.heap.size, k, none⟩ = false := World.ownsRow.frozenAt h.own k
theorem Sts.lt {w wr : World} {n : Nat} {f : Nat → Int} (h : Sts w wr n f) : w.heap.size < wr.heap.size := (World.ownsRow.lt h.own w.heap.size rfl).2
/-- The sets of those that are needed. -/
theorem need_sets (F : Nat → Ins) (n : Nat) : ∃ g : Nat → Int, ∀ x, S4 (g x) ∧ ∀ r, r < 4 → (bt (g x) r = true ↔ Need F n r x) := by
  have h4 : ∀ p0 p1 p2 p3 : Bool, ∃ i : Fin 16, bt i.val 0 = p0 ∧ bt i.val 1 = p1 ∧ bt i.val 2 = p2 ∧ bt i.val 3 = p3 := by decide +kernel
  have hd : ∀ q : Prop, ∃ b : Bool, b = true ↔ q := fun q => ⟨@decide _ (Classical.propDecidable q), @decide_eq_true_iff _ (Classical.propDecidable _)⟩
  have hx : ∀ x, ∃ y : Int, S4 y ∧ ∀ r, r < 4 → (bt y r = true ↔ Need F n r x) := fun x => by
    obtain ⟨p0, h0⟩ := hd (Need F n 0 x)
    obtain ⟨p1, h1⟩ := hd (Need F n 1 x)
    obtain ⟨p2, h2⟩ := hd (Need F n 2 x)
    obtain ⟨p3, h3⟩ := hd (Need F n 3 x)
    obtain ⟨i, e0, e1, e2, e3⟩ := h4 p0 p1 p2 p3
    refine ⟨(i.val : Int), ⟨by omega, by omega⟩, fun r hr => ?_⟩
    rcases (show r = 0 ∨ r = 1 ∨ r = 2 ∨ r = 3 by omega) with rfl | rfl | rfl | rfl
    · rw [e0]; exact h0
    · rw [e1]; exact h1
    · rw [e2]; exact h2
    · rw [e3]; exact h3
  exact ⟨fun x => Classical.choose (hx x), fun x => Classical.choose_spec (hx x)⟩
/-- Of index i the registers below r are laid. -/
structure Lvr (F : Nat → Ins) (n : Nat) (g : Nat → Int) (w wr : World) (i r : Nat) (f : Nat → Int) : Prop where
  sts : Sts w wr n f
  bef : ∀ j, j < i → f j = g j
  aft : ∀ j, i < j → f j = 0
  four : S4 (f i)
  bit : ∀ q, q < 4 → bt (f i) q = (decide (q < r) && bt (g i) q)
section
variable {F : Nat → Ins} {n i r : Nat} {g f : Nat → Int} {w wr wr' : World}
theorem Lvr.on (h : Lvr F n g w wr i r f) (hg : wr.grownBy wr' none) : Lvr F n g w wr' i r f := ⟨h.sts.on hg, h.bef, h.aft, h.four, h.bit⟩
theorem Lvr.miss (h : Lvr F n g w wr i r f) (hb : bt (g i) r = false) : Lvr F n g w wr i (r + 1) f := ⟨h.sts, h.bef, h.aft, h.four, fun q hq => by
  rw [h.bit q hq]
  by_cases e : q = r
  · rw [e, hb]
    simp
  · rw [show decide (q < r + 1) = decide (q < r) from decide_eq_decide.2 (by omega)]⟩
theorem Lvr.hit (h : Lvr F n g w wr i r f) (hr : r < 4) (hb : bt (g i) r = true) : Lvr F n g w (wr.setCell ⟨w.heap.size, i, none⟩ (.int .i64 (bits .or .i64 (f i) (sh (r : Int))))) i (r + 1) (fun j => if j = i then bits .or .i64 (f i) (sh (r : Int)) else f j) := by
  have h1 := h.four.or (S4.one hr).1
  refine ⟨h.sts.set i _, fun j hj => ?_, fun j hj => ?_, ?_, fun q hq => ?_⟩
  · show (if j = i then _ else f j) = _
    rw [if_neg (by omega)]
    exact h.bef j hj
  · show (if j = i then _ else f j) = _
    rw [if_neg (by omega)]
    exact h.aft j hj
  · show S4 (if i = i then _ else _)
    rw [if_pos rfl, sh_two r hr]
    exact h1.1
  · show bt (if i = i then _ else _) q = _
    rw [if_pos rfl, sh_two r hr, h1.2 q hq, h.bit q hq, (S4.one hr).2 q hq]
    by_cases e : q = r
    · rw [e, hb]
      simp
    · rw [show decide (q < r + 1) = decide (q < r) from decide_eq_decide.2 (by omega), beq_eq_false_iff_ne.2 (fun e' => e e'.symm), Bool.or_false]
theorem Lvr.next (h : Lvr F n g w wr i 4 f) (hg : ∀ x, S4 (g x)) : Lvr F n g w wr (i + 1) 0 f := by
  have e : f i = g i := S4.ext h.four (hg i) (fun q hq => by rw [h.bit q hq, decide_eq_true hq, Bool.true_and])
  have e0 := h.aft (i + 1) (Nat.lt_succ_self i)
  refine ⟨h.sts, fun j hj => ?_, fun j hj => h.aft j (by omega), by rw [e0]; exact S4.zero, fun q hq => by rw [e0, bt_zero]; simp⟩
  by_cases e' : j = i
  · rw [e']
    exact e
  · exact h.bef j (by omega)
end
set_option maxRecDepth 100000 in
set_option maxHeartbeats 16000000 in
theorem live_any (A : Option Addr) (n c : Nat) (F : Nat → Ins) (g : Nat → Int) (w : World) (hv : vcB n F = true) (hwt : WT w) (h : Code w A n F) (hgx : ∀ x, S4 (g x) ∧ ∀ r, r < 4 → (bt (g x) r = true ↔ Need F n r x)) :
    Calls Tryd.prog 42 #[.slice A n c] w (NumRes (n + 1) g w) := by
  have hn := vcB_40 hv
  have HV := shade hv
  have H := shade h
  have HWT := shade hwt
  have HGX := shade hgx
  clear h hv hwt hgx
  obtain ⟨i0, hi, hz0, hz1, hz2⟩ := info_parts info3n
  go_enter Tryd.func42, Tryd.ntmps42
  go_wp2_with (first
    | (at_make; refine wpList_make_full _ rfl _ _ 25 rfl w.heap.size 3 i0 (.int .i64 0) 1 Tryd.underlying25 hi hz0 hz1 .i64 .i64 (n + 1) (n + 1) (n + 1) rfl rfl rfl rfl (by rw [hz2]; omega) (by unfold maxLen; omega) (Nat.le_refl _) ?_)
    | go_in)
  intro w1 hown1 hgr1
  simp only [made_nums] at hown1
  have L0 := shade (show Lvr F n g w w1 0 0 (fun _ => 0) from ⟨⟨hown1, hgr1⟩, fun j hj => absurd hj (Nat.not_lt_zero j), fun _ _ => rfl, S4.zero, fun q _ => by rw [bt_zero]; simp⟩)
  clear hown1 hgr1 hi hz0 hz1 hz2
  go_wp2_with fail
  go_loopw [12] (fun q wr => ∃ (i : Nat) (f : Nat → Int), i ≤ n + 1 ∧ q = .int .i64 (i : Int) ∧ Lvr F n g w wr i 0 f) (fun q _ => n + 1 - (intOf q).toNat)
  case atStart => exact ⟨0, _, by omega, rfl, L0.out⟩
  case round =>
    clear L0
    obtain ⟨i, f, hi, rfl, hp⟩ := hrel
    have HP := shade hp
    clear hp
    by_cases hin : i < n + 1
    · have hii : (i : Int) < (n : Int) + 1 := by omega
      obtain ⟨wo, rfl⟩ : ∃ wo : World, wo = wr := ⟨_, rfl⟩
      go_wp2_with fail
      go_loopw [15] (fun q w2 => ∃ (r : Nat) (f2 : Nat → Int), r ≤ 4 ∧ q = .int .i64 (r : Int) ∧ Lvr F n g w w2 i r f2) (fun q _ => 4 - (intOf q).toNat)
      case atStart => exact ⟨0, f, by omega, rfl, HP.out⟩
      case round =>
        clear HP
        obtain ⟨r, f2, hr, rfl, hp⟩ := hrel
        have HP := shade hp
        clear hp
        by_cases hr4 : r < 4
        · have HN := shade (needs_any A n c F i r wr HV.out (HWT.out.below (below_of_grown HP.out.sts.low) (wt_lt HWT.out)) (H.out.on HP.out.sts.low) (by omega) hr4)
          have HB := shade ((HGX.out i).2 r hr4)
          go_wp2_with fail
          refine HN.out.mono ?_
          rintro e w5 ⟨⟨b, rfl, hb⟩, hg5⟩
          have HP5 := shade (HP.out.on hg5)
          have HBB := shade hb
          clear hb hg5 HP HN
          rcases b with _ | _
          · have HM := shade (HP5.out.miss (by
              rw [Bool.eq_false_iff]
              intro e
              have := HBB.out.2 (HB.out.1 e)
              cases this))
            clear HP5 HBB HB
            go_wp2_with fail
            go_roundw
            case rel => exact ⟨r + 1, f2, by omega, by go_num, HM.out⟩
            case measure => simp [intOf]; omega
          · have HM := shade (HP5.out.hit hr4 (HB.out.2 (HBB.out.1 rfl)))
            have s0 := HP5.out.sts.cell i (by omega)
            have s1 := HP5.out.sts.free i
            clear HBB HB
            go_wp2_with fail
            go_region_with (fail)
            go_wp2_with fail
            go_roundw
            case rel => exact ⟨r + 1, _, by omega, by go_num, HM.out.on (grown_drewN (grown_refl _ _) 1)⟩
            case measure => simp [intOf]; omega
        · have hr2 : r = 4 := by omega
          subst hr2
          have HN := shade (HP.out.next (fun x => (HGX.out x).1))
          clear HP
          go_wp2_with fail
          go_roundw
          case rel => exact ⟨i + 1, f2, by omega, by go_num, HN.out⟩
          case measure => simp [intOf]; omega
    · have hin2 : i = n + 1 := by omega
      subst hin2
      go_wp2_with fail
      go_ret
      exact ⟨_, rfl, by
        rw [numL_congr (n + 1) g f (fun j hj => (HP.out.bef j hj).symm)]
        exact HP.out.sts.own, HP.out.sts.low⟩

set_option linter.unusedSimpArgs false
/-- What is needed at x, by what is needed behind it. -/
def Up (F : Nat → Ins) (n : Nat) (f : Nat → Int) (x r : Nat) : Prop := bt (urO F n x) r = true ∨ (bt (uwO F n x) r = false ∧ ∃ y : Nat, (y : Int) ∈ nxI (F x) x ∧ bt (f y) r = true)
/-- How much may still be laid. -/
def lft (f : Nat → Int) : Nat → Nat
  | 0 => 0
  | k + 1 => lft f k + (16 - f k).toNat
theorem lft_congr (f g : Nat → Int) : ∀ k, (∀ x, x < k → f x = g x) → lft f k = lft g k
  | 0, _ => rfl
  | k + 1, h => by
    show lft f k + _ = lft g k + _
    rw [lft_congr f g k (fun x hx => h x (by omega)), h k (Nat.lt_succ_self k)]
theorem lft_set (f : Nat → Int) (y : Nat) (v : Int) (hv : f y < v) (h0 : v < 16) : ∀ k, y < k → lft (fun x => if x = y then v else f x) k < lft f k
  | 0, h => absurd h (Nat.not_lt_zero y)
  | k + 1, h => by
    show lft _ k + (16 - (if k = y then v else f k)).toNat < lft f k + (16 - f k).toNat
    by_cases e : y = k
    · subst e
      rw [lft_congr (fun x => if x = y then v else f x) f y (fun x hx => if_neg (by omega)), if_pos rfl]
      omega
    · have := lft_set f y v hv h0 k (by omega)
      rw [if_neg (fun h => e h.symm)]
      omega
/-- The numbers that lie in a block. -/
def outOf (w : World) (g x : Nat) : Int := match w.cell? ⟨g, x, none⟩ with
  | some (.int _ v) => v
  | _ => 0
/-- The sets within a pass, of which those from index i on are done. -/
structure Psl (F : Nat → Ins) (n : Nat) (f0 : Nat → Int) (w wr : World) (i : Nat) (b : Bool) (f : Nat → Int) : Prop where
  sts : Sts w wr n f
  four : ∀ x, S4 (f x)
  sub : ∀ x r, x ≤ n → r < 4 → bt (f x) r = true → Need F n r x
  inc : ∀ x r, x < n → r < 4 → bt (f x) r = true → Up F n f x r
  low : lft f n ≤ lft f0 n
  dec : b = true → lft f n < lft f0 n
  clo : b = false → ∀ x, i ≤ x → x < n → ∀ r, r < 4 → Up F n f x r → bt (f x) r = true
section
variable {F : Nat → Ins} {n i : Nat} {f0 f : Nat → Int} {w wr wr' : World} {b : Bool}
theorem Psl.on (h : Psl F n f0 w wr i b f) (hg : wr.grownBy wr' none) : Psl F n f0 w wr' i b f := ⟨h.sts.on hg, h.four, h.sub, h.inc, h.low, h.dec, h.clo⟩
theorem Psl.start (h : Psl F n f0 w wr i b f) : Psl F n f w wr n false f := ⟨h.sts, h.four, h.sub, h.inc, Nat.le_refl _, (fun e => by cases e), fun _ x h1 h2 => by omega⟩
theorem Psl.left (h : Psl F n f0 w wr i b f) : lft (outOf wr w.heap.size) n = lft f n := lft_congr _ _ _ (fun x hx => by
  unfold outOf
  rw [h.sts.cell x (by omega)])
theorem Psl.same (h : Psl F n f0 w wr (i + 1) b f) (s : Int) (hb : ∀ r, r < 4 → (bt s r = true ↔ Up F n f i r)) (e : s = f i) : Psl F n f0 w wr i b f := ⟨h.sts, h.four, h.sub, h.inc, h.low, h.dec, fun hb' x hx hxn r hr hu => by
  by_cases e' : x = i
  · subst e'
    rw [← e]
    exact (hb r hr).2 hu
  · exact h.clo hb' x (by omega) hxn r hr hu⟩
theorem Up.mono {F : Nat → Ins} {n : Nat} {f f' : Nat → Int} {x r : Nat} (h : Up F n f x r) (hf : ∀ y, bt (f y) r = true → bt (f' y) r = true) : Up F n f' x r := by
  rcases h with h | ⟨h1, y, h2, h3⟩
  · exact .inl h
  · exact .inr ⟨h1, y, h2, hf y h3⟩
theorem Psl.put (h : Psl F n f0 w wr (i + 1) b f) (hv : vcB n F = true) (hi : i < n) (s : Int) (hs : S4 s) (hb : ∀ r, r < 4 → (bt s r = true ↔ Up F n f i r)) (e : s ≠ f i) : Psl F n f0 w (wr.setCell ⟨w.heap.size, i, none⟩ (.int .i64 s)) i true (fun x => if x = i then s else f x) := by
  have hup : ∀ x r, r < 4 → bt (f x) r = true → bt ((fun x => if x = i then s else f x) x) r = true := fun x r hr hx => by
    show bt (if x = i then s else f x) r = true
    by_cases e' : x = i
    · rw [if_pos e']
      subst e'
      exact (hb r hr).2 (h.inc x r hi hr hx)
    · rw [if_neg e']
      exact hx
  have hle : f i < s := by
    have := (h.four i).le hs (fun r hr hx => (hb r hr).2 (h.inc i r hi hr hx))
    omega
  have h1 := lft_set f i s hle hs.2 n hi
  have h2 := h.low
  refine ⟨h.sts.set i s, fun x => ?_, fun x r hx hr hbx => ?_, fun x r hx hr hbx => ?_, by omega, fun _ => by omega, (fun e => by cases e)⟩
  · show S4 (if x = i then s else f x)
    split
    · exact hs
    · exact h.four x
  · have hbx' : bt (if x = i then s else f x) r = true := hbx
    by_cases e' : x = i
    · rw [if_pos e'] at hbx'
      subst e'
      rw [need_iff r x hi]
      rcases (hb r hr).1 hbx' with hu | ⟨hu, y, hy, hyb⟩
      · exact .inl hu
      · obtain ⟨z, hz, hzn⟩ := nx_in hv hi hy
        obtain rfl : y = z := by omega
        exact .inr ⟨hu, y, hy, h.sub y r hzn hr hyb⟩
    · rw [if_neg e'] at hbx'
      exact h.sub x r hx hr hbx'
  · have hbx' : bt (if x = i then s else f x) r = true := hbx
    by_cases e' : x = i
    · rw [if_pos e'] at hbx'
      subst e'
      exact ((hb r hr).1 hbx').mono (fun y hy => hup y r hr hy)
    · rw [if_neg e'] at hbx'
      exact (h.inc x r hx hr hbx').mono (fun y hy => hup y r hr hy)
theorem Psl.done (h : Psl F n f0 w wr 0 false f) {g : Nat → Int} (hgx : ∀ x, S4 (g x) ∧ ∀ r, r < 4 → (bt (g x) r = true ↔ Need F n r x)) (x : Nat) (hx : x ≤ n) : f x = g x := by
  refine S4.ext (h.four x) (hgx x).1 (fun r hr => ?_)
  rw [Bool.eq_iff_iff, (hgx x).2 r hr]
  refine ⟨h.sub x r hx hr, fun ⟨y, hy, hw, hb⟩ => ?_⟩
  by_cases hfx : bt (f x) r = true
  · exact hfx
  · exfalso
    have h1 := hw (fun z => bt (f z) r = false) (Bool.eq_false_iff.2 hfx) (fun u v hu hun hc hv => by
      refine Bool.eq_false_iff.2 (fun hv1 => ?_)
      have := h.clo rfl u (Nat.zero_le _) hun r hr (.inr ⟨hc, v, hv, hv1⟩)
      rw [hu] at this
      cases this)
    by_cases hyn : y < n
    · have := h.clo rfl y (Nat.zero_le _) hyn r hr (.inl hb)
      rw [h1] at this
      cases this
    · unfold urO at hb
      rw [if_neg hyn, bt_zero] at hb
      cases hb
end

set_option linter.unusedSimpArgs false
/-- The sets between two passes. -/
structure Osl (F : Nat → Ins) (n : Nat) (w wr : World) (b : Bool) (f : Nat → Int) : Prop where
  sts : Sts w wr n f
  four : ∀ x, S4 (f x)
  sub : ∀ x r, x ≤ n → r < 4 → bt (f x) r = true → Need F n r x
  inc : ∀ x r, x < n → r < 4 → bt (f x) r = true → Up F n f x r
  clo : b = false → ∀ x, x < n → ∀ r, r < 4 → Up F n f x r → bt (f x) r = true
section
variable {F : Nat → Ins} {n i : Nat} {f0 f : Nat → Int} {w wr wr' : World} {b : Bool}
theorem Psl.out (h : Psl F n f0 w wr 0 b f) : Osl F n w wr b f := ⟨h.sts, h.four, h.sub, h.inc, fun hb x hx => h.clo hb x (Nat.zero_le x) hx⟩
theorem Osl.start (h : Osl F n w wr b f) : Psl F n f w wr n false f := ⟨h.sts, h.four, h.sub, h.inc, Nat.le_refl _, (fun e => by cases e), fun _ x h1 h2 => by omega⟩
theorem Osl.left (h : Osl F n w wr b f) : lft (outOf wr w.heap.size) n = lft f n := h.start.left
theorem Osl.done (h : Osl F n w wr false f) {g : Nat → Int} (hgx : ∀ x, S4 (g x) ∧ ∀ r, r < 4 → (bt (g x) r = true ↔ Need F n r x)) (x : Nat) (hx : x ≤ n) : f x = g x :=
  Psl.done (F := F) (n := n) (f0 := f) (w := w) (wr := wr) ⟨h.sts, h.four, h.sub, h.inc, Nat.le_refl _, (fun e => by cases e), fun hb x _ hx => h.clo hb x hx⟩ hgx x hx
end
/-- What is laid for an index. -/
theorem up_set {F : Nat → Ins} {n : Nat} {f : Nat → Int} {x : Nat} (hv : vcB n F = true) (s : Int) (hs : S4 s) (h : ∀ r, r < 4 → (bt s r = true ↔ ∃ y : Nat, (y : Int) ∈ nxI (F x) x ∧ bt (f y) r = true)) :
    S4 (bits .or .i64 (bits .andNot .i64 s (uwO F n x)) (urO F n x)) ∧ ∀ r, r < 4 → (bt (bits .or .i64 (bits .andNot .i64 s (uwO F n x)) (urO F n x)) r = true ↔ Up F n f x r) := by
  obtain ⟨hu, hw⟩ := uses_sets hv x
  have h1 := hs.andNot hw
  have h2 := h1.1.or hu
  refine ⟨h2.1, fun r hr => ?_⟩
  rw [h2.2 r hr, h1.2 r hr, Bool.or_eq_true, Bool.and_eq_true, h r hr]
  unfold Up
  constructor
  · rintro (⟨⟨y, hy, hb⟩, hx⟩ | hx)
    · exact .inr ⟨by simpa using hx, y, hy, hb⟩
    · exact .inl hx
  · rintro (hx | ⟨hx, y, hy, hb⟩)
    · exact .inr hx
    · exact .inl ⟨⟨y, hy, hb⟩, by simpa using hx⟩
/-- What comes together of the first k. -/
def Tog (l0 : List Int) (f : Nat → Int) (k : Nat) (s : Int) : Prop := S4 s ∧ ∀ r, r < 4 → (bt s r = true ↔ ∃ j, j < k ∧ ∃ y : Nat, l0.getD j 0 = (y : Int) ∧ bt (f y) r = true)
theorem Tog.start (l0 : List Int) (f : Nat → Int) : Tog l0 f 0 0 := ⟨S4.zero, fun r _ => by
  rw [bt_zero]
  constructor
  · intro e
    cases e
  · rintro ⟨j, hj, _⟩
    omega⟩
theorem Tog.next {l0 : List Int} {f : Nat → Int} {k : Nat} {s : Int} (h : Tog l0 f k s) (y : Nat) (hy : l0.getD k 0 = (y : Int)) (hf : S4 (f y)) : Tog l0 f (k + 1) (bits .or .i64 s (f y)) := by
  have h1 := h.1.or hf
  refine ⟨h1.1, fun r hr => ?_⟩
  rw [h1.2 r hr, Bool.or_eq_true, h.2 r hr]
  constructor
  · rintro (⟨j, hj, z, hz, hb⟩ | hb)
    · exact ⟨j, by omega, z, hz, hb⟩
    · exact ⟨k, by omega, y, hy, hb⟩
  · rintro ⟨j, hj, z, hz, hb⟩
    by_cases e : j = k
    · subst e
      rw [hy] at hz
      obtain rfl : y = z := by omega
      exact .inr hb
    · exact .inl ⟨j, by omega, z, hz, hb⟩
theorem Tog.done {l0 : List Int} {f : Nat → Int} {s : Int} (h : Tog l0 f l0.length s) (r : Nat) (hr : r < 4) : bt s r = true ↔ ∃ y : Nat, (y : Int) ∈ l0 ∧ bt (f y) r = true := by
  rw [h.2 r hr]
  constructor
  · rintro ⟨j, hj, y, hy, hb⟩
    rw [List.getD_eq_getElem?_getD, List.getElem?_eq_getElem hj] at hy
    exact ⟨y, by rw [← hy]; exact List.getElem_mem hj, hb⟩
  · rintro ⟨y, hy, hb⟩
    obtain ⟨j, hj, e⟩ := List.getElem_of_mem hy
    exact ⟨j, hj, y, by rw [List.getD_eq_getElem?_getD, List.getElem?_eq_getElem hj, e]; rfl, hb⟩
set_option maxRecDepth 100000 in
set_option maxHeartbeats 16000000 in
theorem specLive_any (A : Option Addr) (n c : Nat) (F : Nat → Ins) (g : Nat → Int) (w : World) (hv : vcB n F = true) (h : Code w A n F) (hgx : ∀ x, S4 (g x) ∧ ∀ r, r < 4 → (bt (g x) r = true ↔ Need F n r x)) :
    Calls Tryd.prog 44 #[.slice A n c] w (NumRes (n + 1) g w) := by
  have hn := vcB_40 hv
  have HV := shade hv
  have H := shade h
  have HGX := shade hgx
  clear h hv hgx
  obtain ⟨i0, hi, hz0, hz1, hz2⟩ := info_parts info3n
  go_enter Tryd.func44, Tryd.ntmps44
  go_wp2_with (first
    | (at_make; refine wpList_make_full _ rfl _ _ 25 rfl w.heap.size 3 i0 (.int .i64 0) 1 Tryd.underlying25 hi hz0 hz1 .i64 .i64 (n + 1) (n + 1) (n + 1) rfl rfl rfl rfl (by rw [hz2]; omega) (by unfold maxLen; omega) (Nat.le_refl _) ?_)
    | go_in)
  intro w1 hown1 hgr1
  simp only [made_nums] at hown1
  have P1 := shade (show Osl F n w w1 true (fun _ => 0) from ⟨⟨hown1, hgr1⟩, fun _ => S4.zero, (fun x r _ _ hb => by rw [bt_zero] at hb; cases hb), (fun x r _ _ hb => by rw [bt_zero] at hb; cases hb), (fun e => by cases e)⟩)
  clear hown1 hgr1 hi hz0 hz1 hz2
  go_wp2_with fail
  go_loopw [4] (fun ag wr => ∃ (b : Bool) (f : Nat → Int), ag = .bool b ∧ Osl F n w wr b f) (fun ag wr => 2 * lft (outOf wr w.heap.size) n + flagV ag)
  case atStart => exact ⟨true, _, rfl, P1.out⟩
  case round =>
    clear P1
    obtain ⟨b, f, rfl, hp⟩ := hrel
    have HP := shade hp
    clear hp
    rcases b with _ | _
    · go_wp2_with fail
      go_ret
      exact ⟨_, rfl, by
        rw [numL_congr (n + 1) g f (fun j hj => (HP.out.done HGX.out j (by omega)).symm)]
        exact HP.out.sts.own, HP.out.sts.low⟩
    · have HQ := shade HP.out.start
      have HLE := shade HP.out.left
      obtain ⟨wo, rfl⟩ : ∃ wo : World, wo = wr := ⟨_, rfl⟩
      clear HP
      go_wp2_with fail
      go_loopw [4, 5] (fun ag q w2 => ∃ (b : Bool) (f2 : Nat → Int) (m : Nat), m ≤ n ∧ q = .int .i64 ((m : Int) - 1) ∧ ag = .bool b ∧ Psl F n f w w2 m b f2) (fun _ q _ => (intOf q + 1).toNat)
      case atStart => exact ⟨false, f, n, Nat.le_refl _, rfl, rfl, HQ.out⟩
      case round =>
        clear HQ
        obtain ⟨b, f2, m, hm, rfl, rfl, hp⟩ := hrel
        have HP := shade hp
        clear hp
        rcases m with _ | i
        · go_wp2_with fail
          go_roundw
          case rel => exact ⟨b, f2, rfl, HP.out.out⟩
          case measure =>
            have e1 := HP.out.left
            have e2 := HLE.out
            have e3 := HP.out.low
            have e4 := HP.out.dec
            rw [e1, e2]
            rcases b with _ | _
            · simp [flagV]
              omega
            · have := e4 rfl
              simp [flagV]
              omega
        · rw [show ((i + 1 : Nat) : Int) - 1 = (i : Int) by omega]
          have hin : i < n := by omega
          obtain ⟨cb, co, rfl, -⟩ := H.out.resolve_left (by omega)
          obtain ⟨q0, q1, q2, q3, q4⟩ := (H.out.on HP.out.sts.low).five hin
          have HX := shade (word_small HV.out hin)
          have HU := shade (show Calls Tryd.prog 68 #[IV (F i).op (F i).d (F i).a (F i).b (F i).k] wr fun e w' => e = .returned (.tuple #[.int .i64 (urO F n i), .int .i64 (uwO F n i)]) ∧ Below wr.heap.size wr w' from by
            have h := specUsesOf_any (F i).op (F i).d (F i).a (F i).b (F i).k HX.out.1 (wordN (F i).op.toList).toNat (by have := HX.out.2; omega) (by have := HX.out.2; omega) wr
            rw [show urO F n i = _ from if_pos hin, show uwO F n i = _ from if_pos hin]
            exact h)
          have HSET := shade (fun s f => up_set (f := f) (x := i) HV.out s)
          have HNX := shade (fun W (hW : Code W (some ⟨cb, co, none⟩) n F) => nextOf_any cb co n c i F W hn hin hW)
          have HL3 := shade (show ∀ z, z ∈ nxI (F i) i → ∃ y : Nat, z = y ∧ y ≤ n from fun z hz => by
            obtain ⟨y, rfl, hy⟩ := nx_in HV.out hin hz
            exact ⟨y, rfl, hy⟩)
          have hl2 := nxI_le (F i) i
          obtain ⟨l0, hl0⟩ : ∃ l0, nxI (F i) i = l0 := ⟨_, rfl⟩
          rw [hl0] at HNX HL3 hl2 HSET
          obtain ⟨u, hu⟩ : ∃ u, urO F n i = u := ⟨_, rfl⟩
          obtain ⟨v, hv⟩ : ∃ v, uwO F n i = v := ⟨_, rfl⟩
          rw [hu, hv] at HU HSET
          clear hl0 hu hv HX
          generalize (F i).op = op at *
          generalize (F i).d = d at *
          generalize (F i).a = a at *
          generalize (F i).b = b' at *
          generalize (F i).k = kk at *
          go_wp2_with fail
          refine HU.out.mono ?_
          rintro e w4 ⟨rfl, hb4⟩
          have HP4 := shade (HP.out.on (grown_of_below hb4))
          clear hb4 HP HU q0 q1 q2 q3 q4
          go_wp2_with fail
          refine (HNX.out _ (H.out.on HP4.out.sts.low)).mono ?_
          rintro e w5 ⟨v0, rfl, ho, hg5⟩
          obtain ⟨A0, c0, rfl, -⟩ := ownsRow_slice ho
          have HO := shade (World.ownsRow.mono ho (show w.heap.size + 1 ≤ w4.heap.size from HP4.out.sts.lt))
          have HP5 := shade (HP4.out.on hg5)
          clear ho hg5 HNX HP4
          go_wp2_with fail
          go_loopw [8, 10] (fun st q w2 => ∃ (s : Int) (k : Nat), k ≤ l0.length ∧ q = .int .i64 (k : Int) ∧ st = .int .i64 s ∧ Tog l0 f2 k s ∧ Psl F n f w w2 (i + 1) b f2 ∧ w2.ownsRow (w.heap.size + 1) 3 1 (.slice A0 l0.length c0) l0.length (valI l0)) (fun _ q _ => l0.length - (intOf q).toNat)
          case atStart => exact ⟨0, 0, Nat.zero_le _, rfl, rfl, Tog.start _ _, HP5.out, HO.out⟩
          case round =>
            clear HP5 HO
            obtain ⟨s, k, hk, rfl, rfl, htog, hp, hown⟩ := hrel
            have HP := shade hp
            have HO := shade hown
            have HT := shade htog
            clear hp hown htog
            by_cases hkl : k < l0.length
            · obtain ⟨bl, e0, hgb, qc⟩ := Rest.first HO.out (Nat.lt_succ_self _) k (Nat.zero_le _) hkl
              subst e0
              obtain ⟨y, hy, hyn⟩ := HL3.out (l0.getD k 0) (by rw [List.getD_eq_getElem?_getD, List.getElem?_eq_getElem hkl]; exact List.getElem_mem _)
              rw [hy] at qc
              have HN := shade (HT.out.next y hy (HP.out.four y))
              clear hy
              have s0 := HP.out.sts.cell y hyn
              go_wp2_with fail
              try (go_quiet (fail); go_wp2_with fail)
              go_roundw
              case rel => exact ⟨_, k + 1, by omega, by go_num, rfl, HN.out, HP.out, HO.out⟩
              case measure => simp [intOf]; omega
            · have hkl2 : k = l0.length := by omega
              subst hkl2
              have HS := shade (HSET.out s f2 HT.out.1 HT.out.done)
              obtain ⟨s2, hs2⟩ : ∃ s2, bits .or .i64 (bits .andNot .i64 s v) u = s2 := ⟨_, rfl⟩
              rw [hs2] at HS
              have s0 := HP.out.sts.cell i (by omega)
              have s1 := HP.out.sts.free i
              rcases he : s2 == f2 i with _ | _
              · have HN := shade (HP.out.put HV.out hin s2 HS.out.1 HS.out.2 (fun e => by rw [e] at he; simp at he))
                clear HP HT HS HSET
                go_wp2_with fail
                go_roundw
                case rel => exact ⟨true, _, i, by omega, by go_num, rfl, HN.out⟩
                case measure => simp [intOf]
              · have HN := shade (HP.out.same s2 HS.out.2 (beq_iff_eq.1 he))
                clear HP HT HS HSET
                go_wp2_with fail
                go_roundw
                case rel => exact ⟨b, f2, i, by omega, by go_num, rfl, HN.out⟩
                case measure => simp [intOf]

set_option linter.unusedSimpArgs false
theorem NumRes.behind {k : Nat} {f : Nat → Int} {w w1 w2 : World} {e : Ending} (hg : w.grownBy w1 none) (h : NumRes k f w1 e w2) : NumRes k f w e w2 := by
  obtain ⟨v, he, ho, h2⟩ := h
  exact ⟨v, he, World.ownsRow.mono ho hg.size, grown_same hg h2⟩
/-- LiveOf and its model give the same sets. -/
theorem live_told (n : Nat) (F : Nat → Ins) (hn : n ≤ 9223372036854775807) :
    ∃ (K : Nat) (f : Nat → Int), K ≤ 300 ∧ (∀ (A : Option Addr) (c : Nat) (W : World), Code W A n F → Calls Tryd.prog 13 #[.slice A n c] W (NumRes K f W)) ∧
      (∀ (A : Option Addr) (c : Nat) (W : World), WT W → Code W A n F → Calls Tryd.prog 11 #[.slice A n c] W (NumRes K f W)) ∧
      ((vcB n F = false ∧ K = 0) ∨ (vcB n F = true ∧ K = n + 1 ∧ ∀ x, S4 (f x) ∧ ∀ r, r < 4 → (bt (f x) r = true ↔ Need F n r x))) := by
  rcases hv : vcB n F with _ | _
  · refine ⟨0, fun _ => 0, by omega, fun A c W hC => ?_, fun A c W hg hC => ?_, .inl ⟨rfl, rfl⟩⟩
    · have HV := shade (validCode_any A n c F W hn hC)
      rw [hv] at HV
      clear hv hC
      go_enter Tryd.func13, Tryd.ntmps13
      go_wp2_with fail
      refine HV.out.mono ?_
      rintro e w1 ⟨rfl, hgr⟩
      have HR := shade hgr
      clear hgr HV
      go_wp2_with fail
      go_ret
      exact ⟨_, rfl, World.ownsRow_nil _ _ _ _, HR.out⟩
    · have HV := shade (ValidCode_any A n c F W hg hn hC)
      rw [hv] at HV
      clear hv hC hg
      go_enter Tryd.func11, Tryd.ntmps11
      go_wp2_with fail
      refine HV.out.mono ?_
      rintro e w1 ⟨rfl, hgr⟩
      have HR := shade hgr
      clear hgr HV
      go_wp2_with fail
      go_ret
      exact ⟨_, rfl, World.ownsRow_nil _ _ _ _, HR.out⟩
  · have hn40 := vcB_40 hv
    obtain ⟨g, hgx⟩ := need_sets F n
    have HGX := shade hgx
    have HVT := shade hv
    clear hgx
    refine ⟨n + 1, g, by omega, fun A c W hC => ?_, fun A c W hg hC => ?_, .inr ⟨rfl, rfl, HGX.out⟩⟩
    · have HV := shade (validCode_any A n c F W hn hC)
      rw [hv] at HV
      have HC := shade hC
      clear hv hC
      go_enter Tryd.func13, Tryd.ntmps13
      go_wp2_with fail
      refine HV.out.mono ?_
      rintro e w1 ⟨rfl, hgr⟩
      have HR := shade hgr
      clear hgr HV
      go_wp2_with fail
      refine (specLive_any A n c F g w1 HVT.out (HC.out.on HR.out) HGX.out).mono ?_
      rintro e w2 h5
      obtain ⟨v, rfl, ho, hg2⟩ := h5
      have HO := shade (NumRes.behind HR.out (show NumRes (n + 1) g w1 (.returned v) w2 from ⟨v, rfl, ho, hg2⟩))
      clear ho hg2
      go_wp2_with fail
      go_ret
      exact HO.out
    · have HV := shade (ValidCode_any A n c F W hg hn hC)
      rw [hv] at HV
      have HC := shade hC
      have HG := shade hg
      clear hv hC hg
      go_enter Tryd.func11, Tryd.ntmps11
      go_wp2_with fail
      refine HV.out.mono ?_
      rintro e w1 ⟨rfl, hgr⟩
      have HR := shade hgr
      clear hgr HV
      go_wp2_with fail
      refine (live_any A n c F g w1 HVT.out (HG.out.below (below_of_grown HR.out) (wt_lt HG.out)) (HC.out.on HR.out) HGX.out).mono ?_
      rintro e w2 h5
      obtain ⟨v, rfl, ho, hg2⟩ := h5
      have HO := shade (NumRes.behind HR.out (show NumRes (n + 1) g w1 (.returned v) w2 from ⟨v, rfl, ho, hg2⟩))
      clear ho hg2
      go_wp2_with fail
      go_ret
      exact HO.out
end Go.Proofs.YtjeflaodeafhbaaDoor

namespace Go.Proofs.YtjeflaodeafhbaaDoor
open Go.RowKit
set_option linter.unusedSimpArgs false
theorem sh_bit (d : Int) (h0 : 0 ≤ d) (h1 : d ≤ 3) (q : Nat) (hq : q < 4) : bt (sh d) q = (d.toNat == q) := by
  have h := sh_two d.toNat (by omega)
  rw [Int.toNat_of_nonneg h0] at h
  rw [h, (S4.one (by omega)).2 q hq]
/-- What an instruction reads and writes, in bits. -/
theorem uses_bits {n : Nat} {F : Nat → Ins} {at' : Int} (hv : vcB n F = true) (hx : at'.toNat < n) :
    ((1 ≤ nOf F at' ∧ nOf F at' ≤ 7) → bt (urO F n at'.toNat) (raOf F at') = true) ∧ ((1 ≤ nOf F at' ∧ nOf F at' ≤ 4) → bt (urO F n at'.toNat) (rbOf F at') = true) ∧
    (nOf F at' = 6 → bt (urO F n at'.toNat) (rdOf F at') = true) ∧ ∀ r, r < 4 → bt (uwO F n at'.toNat) r = (decide (nOf F at' ≤ 5) && (rdOf F at' == r)) := by
  have h1 := allI_iff.1 (by simp only [vcB, Bool.and_eq_true] at hv; exact hv.1) at'.toNat hx
  unfold okI at h1
  simp only [Bool.and_eq_true] at h1
  obtain ⟨_, ⟨d0, d1⟩, ⟨a0, a1⟩, ⟨b0, b1⟩, _⟩ := VI_bounds (vB_true.1 h1.1)
  obtain ⟨_, ⟨rd, ra, rb⟩, _⟩ := ins_parts hv hx
  have eu : urO F n at'.toNat = usesR (nOf F at') (F at'.toNat).d (F at'.toNat).a (F at'.toNat).b := if_pos hx
  have ew : uwO F n at'.toNat = usesW (nOf F at') (F at'.toNat).d := if_pos hx
  have sd := sh_set _ d0 d1
  have sa := sh_set _ a0 a1
  have sb := sh_set _ b0 b1
  have bd := sh_bit _ d0 d1
  have ba := sh_bit _ a0 a1
  have bb := sh_bit _ b0 b1
  have ed : rdOf F at' = (F at'.toNat).d.toNat := rfl
  have ea : raOf F at' = (F at'.toNat).a.toNat := rfl
  have eb : rbOf F at' = (F at'.toNat).b.toNat := rfl
  rw [eu, ew]
  generalize nOf F at' = N at *
  refine ⟨fun hN => ?_, fun hN => ?_, fun hN => ?_, fun r hr => ?_⟩
  · unfold usesR
    rw [if_neg (by omega)]
    split
    · rw [(sa.or sb).2 _ ra, ba _ ra, ea]; simp
    · split
      · rw [ba _ ra, ea]; simp
      · split
        · rw [(sd.or sa).2 _ ra, ba _ ra, ea]; simp
        · rw [if_pos (by omega), ba _ ra, ea]; simp
  · unfold usesR
    rw [if_neg (by omega), if_pos (by omega), (sa.or sb).2 _ rb, bb _ rb, eb]
    simp
  · subst hN
    unfold usesR
    rw [if_neg (by omega), if_neg (by omega), if_neg (by omega), if_pos rfl, (sd.or sa).2 _ rd, bd _ rd, ed]
    simp
  · unfold usesW
    by_cases h5 : N ≤ 5
    · rw [if_pos h5, decide_eq_true h5, bd r hr, ed, Bool.true_and]
    · rw [if_neg h5, decide_eq_false h5, bt_zero, Bool.false_and]
/-- They agree on what is needed where they are. -/
structure Alike (F : Nat → Ins) (n : Nat) (s s' : Sta) : Prop where
  at_ : s.at' = s'.at'
  mem : s.m = s'.m
  reg : ∀ r, r < 4 → Need F n r s.at'.toNat → s.r r = s'.r r
theorem Alike.halt {F : Nat → Ins} {n : Nat} {s s' : Sta} (h : Alike F n s s') : sHalt n F s' = sHalt n F s := by
  unfold sHalt
  rw [h.at_]
theorem Alike.step {F : Nat → Ins} {n : Nat} {s s' : Sta} (h : Alike F n s s') (hv : vcB n F = true) (hs : OkS s) (hh : sHalt n F s = false) : Alike F n (sNext F s) (sNext F s') := by
  obtain ⟨hlt, h9⟩ := halt_parts hh
  obtain ⟨_, ⟨rd, ra, rb⟩, _, hw, hn9, _⟩ := ins_parts hv hlt
  obtain ⟨ua, ub, ud, uw⟩ := uses_bits hv hlt
  have hin := sNext_in hv hs hh
  obtain ⟨y, hy, hyn⟩ := nx_in hv hlt hin
  have hN9 : nOf F s.at' ≠ 9 := fun e => by
    have := (hlt_word (F s.at'.toNat).op.toList).2 (by rw [hw, e]; rfl)
    rw [h9] at this
    cases this
  have need : ∀ r, r < 4 → bt (urO F n s.at'.toNat) r = true → s.r r = s'.r r := fun r hr hb => h.reg r hr ((need_iff r _ hlt).2 (.inl hb))
  have na : (1 ≤ nOf F s.at' ∧ nOf F s.at' ≤ 7) → s.r (raOf F s.at') = s'.r (raOf F s.at') := fun hN => need _ ra (ua hN)
  have nb : (1 ≤ nOf F s.at' ∧ nOf F s.at' ≤ 4) → s.r (rbOf F s.at') = s'.r (rbOf F s.at') := fun hN => need _ rb (ub hN)
  have nd : nOf F s.at' = 6 → s.r (rdOf F s.at') = s'.r (rdOf F s.at') := fun hN => need _ rd (ud hN)
  have hat : (sNext F s).at' = (sNext F s').at' := by
    show stepAt (nOf F s.at') s.at'.toNat (raOf F s.at') (kOf F s.at') s.r = stepAt (nOf F s'.at') s'.at'.toNat (raOf F s'.at') (kOf F s'.at') s'.r
    rw [← h.at_]
    unfold stepAt
    by_cases e7 : nOf F s.at' = 7
    · rw [if_pos e7, if_pos e7, na (by omega)]
    · rw [if_neg e7, if_neg e7]
  have hpl : (nOf F s.at' = 5 ∨ nOf F s.at' = 6) → placeN s.r (raOf F s.at') (kOf F s.at') = placeN s'.r (raOf F s.at') (kOf F s.at') := fun hN => by
    unfold placeN
    rw [na (by omega)]
  refine ⟨hat, ?_, fun r hr hneed => ?_⟩
  · show stepMem (nOf F s.at') (rdOf F s.at') (raOf F s.at') (kOf F s.at') s.r s.m = stepMem (nOf F s'.at') (rdOf F s'.at') (raOf F s'.at') (kOf F s'.at') s'.r s'.m
    rw [← h.at_, ← h.mem]
    unfold stepMem
    by_cases e6 : nOf F s.at' = 6
    · rw [if_pos e6, if_pos e6, hpl (.inr e6), nd e6]
    · rw [if_neg e6, if_neg e6]
  · show stepRegs (nOf F s.at') (rdOf F s.at') (raOf F s.at') (rbOf F s.at') (kOf F s.at') s.r s.m r = stepRegs (nOf F s'.at') (rdOf F s'.at') (raOf F s'.at') (rbOf F s'.at') (kOf F s'.at') s'.r s'.m r
    rw [← h.at_, ← h.mem]
    have hkeep : bt (uwO F n s.at'.toNat) r = false → s.r r = s'.r r := fun hb => by
      refine h.reg r hr ((need_iff r _ hlt).2 (.inr ⟨hb, y, by rw [← hy]; exact hin, ?_⟩))
      have e : (sNext F s).at'.toNat = y := by rw [hy]; exact Int.toNat_natCast y
      rw [e] at hneed
      exact hneed
    rw [uw r hr] at hkeep
    unfold stepRegs
    by_cases h5 : nOf F s.at' ≤ 5
    · rw [if_pos h5, if_pos h5]
      unfold upd
      by_cases e : r = rdOf F s.at'
      · rw [if_pos e, if_pos e]
        unfold stepVal
        by_cases e0 : nOf F s.at' = 0
        · rw [if_pos e0, if_pos e0]
        · by_cases e4 : nOf F s.at' ≤ 4
          · rw [na (by omega), nb (by omega)]
            rw [if_neg e0, if_neg e0]
            repeat (split; · rfl)
            omega
          · have e5 : nOf F s.at' = 5 := by omega
            rw [hpl (.inl e5), na (by omega)]
            rw [e5]
            rfl
      · rw [if_neg e, if_neg e]
        refine hkeep ?_
        rw [decide_eq_true h5, Bool.true_and]
        exact beq_eq_false_iff_ne.2 (fun h => e h.symm)
    · rw [if_neg h5, if_neg h5]
      refine hkeep ?_
      rw [decide_eq_false h5, Bool.false_and]
/-- As long as one goes, the other goes alike. -/
theorem Alike.run {F : Nat → Ins} {n : Nat} {s s' : Sta} (h : Alike F n s s') (hv : vcB n F = true) (hs : OkS s) : ∀ j, (∀ i, i < j → sHalt n F (sN F s i) = false) → Alike F n (sN F s j) (sN F s' j)
  | 0, _ => h
  | j + 1, hgo => (Alike.run h hv hs j (fun i hi => hgo i (by omega))).step hv (hs.run hv j (fun i hi => hgo i (by omega))) (hgo j (Nat.lt_succ_self j))
/-- They end alike. -/
theorem Alike.stop {F : Nat → Ins} {n fuel K : Nat} {s s' : Sta} (h : Alike F n s s') (hv : vcB n F = true) (hs : OkS s) (hK : RunEnd n F s fuel K) : RunEnd n F s' fuel K ∧ (sN F s' K).m = (sN F s K).m ∧ sHalt n F (sN F s' K) = sHalt n F (sN F s K) := by
  have hr : ∀ i, i ≤ K → Alike F n (sN F s i) (sN F s' i) := fun i hi => h.run hv hs i (fun q hq => hK.go q (by omega))
  refine ⟨⟨hK.le, fun i hi => ?_, ?_⟩, (hr K (Nat.le_refl K)).mem.symm, (hr K (Nat.le_refl K)).halt⟩
  · rw [(hr i (by omega)).halt]
    exact hK.go i hi
  · rw [(hr K (Nat.le_refl K)).halt]
    exact hK.over
end Go.Proofs.YtjeflaodeafhbaaDoor
