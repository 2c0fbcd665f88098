/- The numbers of wide instructions. -/
import Derived.Test.YtjjjgjnhiffpnaaDoorW829
import Derived.Deep.DrawnRows
namespace Go.Proofs.YtjjjgjnhiffpnaaDoor
open Go.RowKit
set_option linter.unusedSimpArgs false
/-- The number that a wide instruction makes of others. -/
def mk (c : Wid) (g : Nat → Int) : Int := if wordN c.op.toList = 0 then c.k else opVal (wordN c.op.toList).toNat (g c.a.toNat) (g c.b.toNat)
/-- The first numbers. -/
def runL (F : Nat → Wid) : Nat → List Int
  | 0 => []
  | n + 1 => runL F n ++ [mk (F n) (fun j => (runL F n).getD j 0)]
/-- The number of an index. -/
def num (F : Nat → Wid) (j : Nat) : Int := (runL F (j + 1)).getD j 0
theorem runL_len (F : Nat → Wid) : ∀ n, (runL F n).length = n
  | 0 => rfl
  | n + 1 => by simp [runL, runL_len F n]
theorem runL_get (F : Nat → Wid) (j : Nat) : ∀ n, j < n → (runL F n).getD j 0 = num F j
  | 0, h => absurd h (by omega)
  | n + 1, h => by
    by_cases e : j = n
    · rw [e]
      rfl
    · have hj : j < (runL F n).length := by rw [runL_len]; omega
      have := runL_get F j n (by omega)
      rw [← this]
      simp only [runL]
      simp [List.getElem?_append_left hj]
theorem mk_congr (c : Wid) (i : Nat) (g h : Nat → Int) (hv : okW i c = true) (e : ∀ j, j < i → g j = h j) : mk c g = mk c h := by
  obtain ⟨op, a, b, k⟩ := c
  have hv := (okW_told op a b k i).symm.trans hv
  rw [decide_eq_true_iff] at hv
  unfold mk
  by_cases h0 : wordN op.toList = 0
  · rw [if_pos h0, if_pos h0]
  · rw [if_neg h0, if_neg h0]
    show opVal _ (g a.toNat) (g b.toNat) = opVal _ (h a.toNat) (h b.toNat)
    rw [e a.toNat (by omega), e b.toNat (by omega)]
theorem num_eq (F : Nat → Wid) (j : Nat) (hv : okW j (F j) = true) : num F j = mk (F j) (num F) := by
  have : num F j = mk (F j) (fun i => (runL F j).getD i 0) := by
    have hl := runL_len F j
    unfold num
    simp only [runL]
    generalize runL F j = l at hl
    subst hl
    simp
  rw [this]
  exact mk_congr _ _ _ _ hv (fun i hi => runL_get F i j hi)
theorem opVal_range (n : Nat) (x y : Int) : 0 ≤ opVal n x y ∧ opVal n x y ≤ 255 := by
  unfold opVal
  repeat' split
  all_goals omega
theorem num_range (F : Nat → Wid) (j : Nat) (hv : okW j (F j) = true) : 0 ≤ num F j ∧ num F j ≤ 255 := by
  rw [num_eq F j hv]
  generalize num F = g
  generalize F j = c at hv
  obtain ⟨op, a, b, k⟩ := c
  have hv := (okW_told op a b k j).symm.trans hv
  rw [decide_eq_true_iff] at hv
  unfold mk
  by_cases h0 : wordN op.toList = 0
  · rw [if_pos h0]
    show 0 ≤ k ∧ k ≤ 255
    omega
  · rw [if_neg h0]
    exact opVal_range _ _ _
theorem num_congr (F G : Nat → Wid) (m : Nat) (h : ∀ j, j < m → F j = G j) (j : Nat) (hj : j < m) : num F j = num G j := by
  have : ∀ n, n ≤ m → runL F n = runL G n := by
    intro n
    induction n with
    | zero => intro _; rfl
    | succ n ih =>
      intro hn
      simp only [runL]
      rw [ih (by omega), h n (by omega)]
  unfold num
  rw [this (j + 1) (by omega)]
theorem compute_any (op : ByteArray) (x y : Int) (w : World) (hm : wordN op.toList = 1 ∨ wordN op.toList = 2 ∨ wordN op.toList = 3 ∨ wordN op.toList = 4) (x0 : 0 ≤ x) (x1 : x ≤ 255) (y0 : 0 ≤ y) (y1 : y ≤ 255) :
    Calls Tryd.prog 84 #[.string op, .int .i64 x, .int .i64 y] w fun e w' => e = .returned (.int .i64 (opVal (wordN op.toList).toNat x y)) ∧ w = w' := by
  rcases hm with h | h | h | h
  · rw [h, op_is op 1 (by omega) h]
    exact compute_1 x y w x0 x1 y0 y1
  · rw [h, op_is op 2 (by omega) h]
    exact compute_2 x y w x0 x1 y0 y1
  · rw [h, op_is op 3 (by omega) h]
    exact compute_3 x y w x0 x1 y0 y1
  · rw [h, op_is op 4 (by omega) h]
    exact compute_4 x y w x0 x1 y0 y1
theorem row_cell {w : World} {B k : Nat} {A : Option Addr} {c : Nat} {f : Nat → Int} (h : w.ownsRow B 3 1 (.slice A k c) k (numL k f)) : Nums w A k f := by
  rcases h.2 with ⟨e, h0⟩ | ⟨g', c', cur, e, hrest⟩
  · exact .inl h0
  · have hh := h
    injection e with e1 e2 e3
    subst e1
    exact Own.nums hh
theorem int_new2 (w : World) (o : Obj) (t : TypeId) (x : Int) : ∀ j u, ([.int .i64 x] : List Value)[j]? = some u → ((w.alloc o).alloc (.cells #[.int .i64 x] t)).cell? ((⟨w.heap.size + 1, 0, none⟩ : Addr).add j) = some u := by
  have := int_new (w.alloc o) t x
  simpa using this
theorem row_more {w : World} {B k : Nat} {v : Value} {f : Nat → Int} {x : Int} (h : w.ownsRow B 3 1 v (k + 1) (numL k f ++ [.int .i64 x])) (hx : f k = x) : w.ownsRow B 3 1 v (k + 1) (numL (k + 1) f) := by
  rw [← numL_snoc, hx]
  exact h
/-- What is read and appended to where a number is made of two. -/
structure RunS (w : World) (p g i c4 : Nat) (op : ByteArray) (a b : Nat) (f : Nat → Int) (W : World) : Prop where
  low : w.grownBy W none
  own : W.ownsRow w.heap.size 3 1 (.slice (some ⟨g, 0, none⟩) i c4) i (numL i f)
  c0 : W.cell? ⟨p, 0, none⟩ = some (.string op)
  c1 : W.cell? ⟨p, 1, none⟩ = some (.int .i64 (a : Int))
  c2 : W.cell? ⟨p, 2, none⟩ = some (.int .i64 (b : Int))
theorem RunS.alloc {w W : World} {p g i c4 a b : Nat} {op : ByteArray} {f : Nat → Int} (h : RunS w p g i c4 op a b f W) (o : Obj) : RunS w p g i c4 op a b f (W.alloc o) :=
  ⟨grown_alloc h.low o, World.ownsRow.alloc h.own o, (World.cell?_alloc_some W _ o (by rw [h.c0]; rfl)).trans h.c0, (World.cell?_alloc_some W _ o (by rw [h.c1]; rfl)).trans h.c1, (World.cell?_alloc_some W _ o (by rw [h.c2]; rfl)).trans h.c2⟩
theorem RunS.drew {w W : World} {p g i c4 a b : Nat} {op : ByteArray} {f : Nat → Int} (h : RunS w p g i c4 op a b f W) : RunS w p g i c4 op a b f W.drew :=
  ⟨grown_same h.low (grown_drew1 _), ownsRow_on h.own (grown_drew1 _), h.c0, h.c1, h.c2⟩
theorem RunS.cells {w W : World} {p g i c4 a b : Nat} {op : ByteArray} {f : Nat → Int} (h : RunS w p g i c4 op a b f W) (ha : a < i) (hb : b < i) :
    W.cell? ⟨p, 0, none⟩ = some (.string op) ∧ W.cell? ⟨p, 1, none⟩ = some (.int .i64 (a : Int)) ∧ W.cell? ⟨p, 2, none⟩ = some (.int .i64 (b : Int)) ∧ W.cell? ⟨g, a, none⟩ = some (.int .i64 (f a)) ∧ W.cell? ⟨g, b, none⟩ = some (.int .i64 (f b)) := by
  have nA := (row_cell h.own).cell ha
  have nB := (row_cell h.own).cell hb
  rw [Nat.zero_add] at nA nB
  exact ⟨h.c0, h.c1, h.c2, nA, nB⟩
theorem row_before {w : World} {B k g c : Nat} {f : Nat → Int} {x : Value} (h : w.ownsRow B 3 1 (.slice (some ⟨g, 0, none⟩) (k + 1) c) (k + 1) (numL k f ++ [x])) {a : Nat} (ha : a < k) : w.cell? ⟨g, a, none⟩ = some (.int .i64 (f a)) := by
  have := World.ownsRow.cellAt h a (by omega)
  rw [this, List.getElem?_append_left (by rw [numL_len]; exact ha)]
  exact numL_get k f a ha
theorem RunS.app {w V w8 : World} {p g i c4 a b g8 c8 : Nat} {op : ByteArray} {f : Nat → Int} {x : Value} (h : RunS w p g i c4 op a b f V) (hpg : p ≠ g) (ha : a < i) (hb : b < i)
    (ho : w8.ownsRow w.heap.size 3 1 (.slice (some ⟨g8, 0, none⟩) (i + 1) c8) (i + 1) (numL i f ++ [x])) (hor : V.grownBy w8 none ∨ (g8 = g ∧ V.grownBy w8 (some g))) :
    w8.cell? ⟨p, 0, none⟩ = some (.string op) ∧ w8.cell? ⟨p, 1, none⟩ = some (.int .i64 (a : Int)) ∧ w8.cell? ⟨p, 2, none⟩ = some (.int .i64 (b : Int)) ∧ w8.cell? ⟨g, a, none⟩ = some (.int .i64 (f a)) ∧ w8.cell? ⟨g, b, none⟩ = some (.int .i64 (f b)) := by
  obtain ⟨h0, h1, h2, h3, h4⟩ := h.cells ha hb
  rcases hor with hg | ⟨rfl, hg⟩
  · exact ⟨hg.cell h0 (by simp), hg.cell h1 (by simp), hg.cell h2 (by simp), hg.cell h3 (by simp), hg.cell h4 (by simp)⟩
  · exact ⟨hg.cell h0 (by simpa using hpg), hg.cell h1 (by simpa using hpg), hg.cell h2 (by simpa using hpg), row_before ho ha, row_before ho hb⟩
theorem RunS.last {w V w8 : World} {p g i c4 a b g8 : Nat} {op : ByteArray} {f : Nat → Int} (h : RunS w p g i c4 op a b f V) (hor : V.grownBy w8 none ∨ (g8 = g ∧ V.grownBy w8 (some g))) : w.grownBy w8 none := by
  rcases hor with hg | ⟨-, hg⟩
  · exact grown_same h.low hg
  · exact grown_row h.low hg (fun j e => by
      injection e with e
      rw [← e]
      exact (World.ownsRow.lt h.own g rfl).1)
attribute [local go_sem ↓] Go.wp_at_zero Go.wp_at_succ
set_option maxRecDepth 100000 in
set_option maxHeartbeats 8000000 in
theorem runWide_at (b off n c : Nat) (F : Nat → Wid) (w : World) (hv : vwB n F = true) (h : Wds w (some ⟨b, off, none⟩) n F) :
    Calls Tryd.prog 55 #[.slice (some ⟨b, off, none⟩) n c] w (NumRes n (num F) w) := by
  have hn := (vwB_iff.1 hv).2
  have H := shade h
  have HV := shade (vwB_iff.1 hv).1
  clear h hv
  obtain ⟨i0, hi0, hz0, hz1, hz2⟩ := info_parts info3
  have HO0 := shade (World.ownsRow_lit (base := w.heap.size) (e := 3) (size := 1) w #[] 0 (by omega) (by decide) rfl)
  go_enter Tryd.func55, Tryd.ntmps55
  go_wp2
  go_loopw [3, 4] (fun v q wr => ∃ i : Nat, i ≤ n ∧ q = .int .i64 i ∧ w.grownBy wr none ∧ wr.ownsRow w.heap.size 3 1 v i (numL i (num F))) (fun _ q _ => n - (intOf q).toNat)
  case atStart => exact ⟨0, Nat.zero_le _, rfl, World.grownBy_alloc _ _ _, HO0.out⟩
  case round =>
    obtain ⟨i, hi, rfl, hgr, hown⟩ := hrel
    obtain ⟨A4, c4, rfl, -⟩ := ownsRow_slice hown
    have HR := shade hgr
    have HO := shade hown
    clear hgr hown HO0
    by_cases hin : i < n
    · obtain ⟨q0, q1, q2, q3⟩ := (H.out.on HR.out).four hin
      have hok := HV.out i hin
      have hnum := num_eq F i hok
      have hgl := HR.out.size
      generalize F i = cc at *
      obtain ⟨op, a, b', kk⟩ := cc
      simp only [] at q0 q1 q2 q3
      have hok2 := (okW_told op a b' kk i).symm.trans hok
      rw [decide_eq_true_iff] at hok2
      clear hok
      by_cases e0 : wordN op.toList = 0
      · have e1 : (op.toList == [115, 101, 116]) = true := (word0 _).2 e0
        have HNM := shade (show num F i = kk by rw [hnum]; exact if_pos e0)
        clear hnum hok2
        have hsz : wr.heap.size ≤ wr.heap.size + 1 := by omega
        go_wp2_with (first
          | (at_builtin; refine wpList_append_own _ rfl _ _ 29 rfl w.heap.size 3 i0 (.int .i64 0) 1 8 Tryd.underlying29 hi0 hz0 hz1 hz2 rfl (by decide) _ _ _ rfl (World.ownsRow.alloc (World.ownsRow.alloc HO.out _) _) ⟨wr.heap.size + 1, 0, none⟩ 1 1 [.int .i64 kk] rfl rfl (int_new2 _ _ _ _) (int_one _) (by unfold maxLen; omega) (by omega) (by simp at hgl ⊢; omega) ?_)
          | go_in)
        intro v8 w8 hown8 hgr8 hnil8
        have HO8 := shade (row_more hown8 HNM.out)
        have HZ8 := shade (grown_row (grown_same HR.out (grown_same (World.grownBy_alloc _ (.cells #[.string op, .int .i64 a, .int .i64 b', .int .i64 kk] 51) none) (World.grownBy_alloc _ (.cells #[.int .i64 kk] 3) none))) hgr8 (fun j e => (World.ownsRow.lt HO.out j e).1))
        clear hown8 hgr8 hnil8 HNM
        go_wp2
        go_roundw
        case rel => exact ⟨i + 1, by omega, by go_num, HZ8.out, HO8.out⟩
        case measure => simp [intOf]; omega
      · have e1 : (op.toList == [115, 101, 116]) = false := by
          rw [Bool.eq_false_iff]
          exact fun h => e0 ((word0 _).1 h)
        have hm : wordN op.toList = 1 ∨ wordN op.toList = 2 ∨ wordN op.toList = 3 ∨ wordN op.toList = 4 := by omega
        obtain ⟨a, rfl⟩ := Int.eq_ofNat_of_zero_le (show 0 ≤ a by omega)
        obtain ⟨b', rfl⟩ := Int.eq_ofNat_of_zero_le (show 0 ≤ b' by omega)
        have ha : a < i := by omega
        have hb : b' < i := by omega
        obtain rfl : kk = 0 := by omega
        have HNM := shade (show num F i = opVal (wordN op.toList).toNat (num F a) (num F b') by rw [hnum]; exact if_neg e0)
        have r1 := num_range F a (HV.out a (by omega))
        have r2 := num_range F b' (HV.out b' (by omega))
        have HCP := shade (fun W => compute_any op (num F a) (num F b') W hm r1.1 r1.2 r2.1 r2.2)
        obtain ⟨g, rfl⟩ : ∃ g, A4 = some ⟨g, 0, none⟩ := by
          rcases HO.out.2 with ⟨e, h0⟩ | ⟨g', c', cur, e, _⟩
          · omega
          · injection e with e
            exact ⟨g', e⟩
        have hc0 := (Holds5.fresh wr 51 #[.string op, .int .i64 (a : Int), .int .i64 (b' : Int), .int .i64 0])
        have hS0 : RunS w wr.heap.size g i c4 op a b' (num F) (wr.alloc (.cells #[.string op, .int .i64 (a : Int), .int .i64 (b' : Int), .int .i64 0] 51)) := ⟨grown_alloc HR.out _, World.ownsRow.alloc HO.out _, hc0.look 0, hc0.look 1, hc0.look 2⟩
        have S0 := shade hS0
        have HSC := shade (fun W (h : RunS w wr.heap.size g i c4 op a b' (num F) W) => h.cells ha hb)
        have hgp : wr.heap.size ≠ g := by
          have := (World.ownsRow.lt HO.out g rfl).2
          omega
        have HAP := shade (fun (V w8 : World) (g8 c8 : Nat) (h : RunS w wr.heap.size g i c4 op a b' (num F) V) (ho : w8.ownsRow w.heap.size 3 1 (.slice (some ⟨g8, 0, none⟩) (i + 1) c8) (i + 1) (numL i (num F) ++ [.int .i64 (num F i)])) hor => h.app hgp ha hb ho hor)
        have hS : ∀ W, RunS w wr.heap.size g i c4 op a b' (num F) W → w.heap.size ≤ W.heap.size := fun W h => h.low.size
        have HSZ := shade hS
        clear hnum hok2 hm r1 r2 e0 hc0 hS0 hS
        have hxa : ∃ xa, num F a = xa := ⟨_, rfl⟩
        obtain ⟨xa, hxa⟩ := hxa
        have hxb : ∃ xb, num F b' = xb := ⟨_, rfl⟩
        obtain ⟨xb, hxb⟩ := hxb
        rw [hxa, hxb] at HSC HCP HNM HAP
        rw [HNM.out] at HAP
        clear hxa hxb
        generalize opVal (wordN op.toList).toNat xa xb = xo at *
        have iA : (a : Int) < (i : Int) := by omega
        have iB : (b' : Int) < (i : Int) := by omega
        have iA0 : (0 : Int) ≤ (a : Int) := by omega
        have iB0 : (0 : Int) ≤ (b' : Int) := by omega
        go_wp2_with fail
        obtain ⟨W0, hW0⟩ : ∃ W0, wr.alloc (.cells #[.string op, .int .i64 (a : Int), .int .i64 (b' : Int), .int .i64 0] 51) = W0 := ⟨_, rfl⟩
        rw [hW0] at S0 ⊢
        clear hW0
        go_region_held3 (fun w' => w'.cell? ⟨wr.heap.size, 0, none⟩ = some (.string op) ∧ w'.cell? ⟨wr.heap.size, 1, none⟩ = some (.int .i64 (a : Int)) ∧ w'.cell? ⟨wr.heap.size, 2, none⟩ = some (.int .i64 (b' : Int)) ∧ w'.cell? ⟨g, a, none⟩ = some (.int .i64 xa) ∧ w'.cell? ⟨g, b', none⟩ = some (.int .i64 xb))
          (first | exact HSC.out _ S0.out | exact HSC.out _ S0.out.drew | exact HSC.out _ (S0.out.alloc _) | exact HSC.out _ (S0.out.alloc _).drew | exact HSC.out _ (S0.out.drew.alloc _) | exact HAP.out _ _ _ _ (by first | exact S0.out.drew.alloc _ | exact (S0.out.alloc _).drew) hown8 hor8)
          (first
            | (go_at_call 84; refine (HCP.out _).mono ?_; rintro e w2 ⟨rfl, rfl⟩)
            | ((with_reducible refine at_append ?_); refine step_append_at (by rfl) (.tmp 25) (.tmp 39) 29 (by rfl) w.heap.size 3 i0 (.int .i64 0) 1 8 Tryd.underlying29 hi0 hz0 hz1 hz2 rfl (by decide) g i c4 (numL i (num F)) (by rfl) (by first | exact ((S0.out.alloc _).drew.own) | exact ((S0.out.drew.alloc _).own)) ⟨W0.heap.size, 0, none⟩ 1 1 [.int .i64 xo] (by rfl) (by rfl) (by first | exact int_new _ _ _ | exact int_new W0.drew _ _) (int_one _) (by omega) (by unfold maxLen; omega) (by omega) (by have := HSZ.out _ S0.out; simp; omega) ?_; intro g8 c8 w8 hown8 hor8))
        rename_i hHeld
        clear hHeld
        have HO8 := shade (row_more hown8 HNM.out)
        have HZ8 := shade ((S0.out.alloc _).drew.last hor8)
        clear hown8 hor8 HNM
        go_wp2
        go_roundw
        case rel => exact ⟨i + 1, by omega, by go_num, HZ8.out, HO8.out⟩
        case measure => simp [intOf]; omega
    · have e : i = n := by omega
      subst e
      go_wp2
      go_ret
      exact ⟨_, rfl, HO.out, HR.out⟩
set_option maxHeartbeats 4000000 in
theorem runWide_zero (A : Option Addr) (c : Nat) (F : Nat → Wid) (w : World) : Calls Tryd.prog 55 #[.slice A 0 c] w (NumRes 0 (num F) w) := by
  have HO0 := shade (World.ownsRow_lit (base := w.heap.size) (e := 3) (size := 1) w #[] 0 (by omega) (by decide) rfl)
  go_enter Tryd.func55, Tryd.ntmps55
  go_wp2
  refine wp_loop_rounds 1 ?_
  rw [rounds_succ]
  go_wp2
  go_ret
  exact ⟨_, rfl, HO0.out, World.grownBy_alloc _ _ _⟩
theorem runWide_any (A : Option Addr) (n c : Nat) (F : Nat → Wid) (w : World) (hv : vwB n F = true) (h : Wds w A n F) :
    Calls Tryd.prog 55 #[.slice A n c] w (NumRes n (num F) w) := by
  by_cases h0 : n = 0
  · subst h0
    exact runWide_zero A c F w
  · obtain ⟨b, off, rfl, _⟩ := h.resolve_left h0
    exact runWide_at b off n c F w hv h
theorem NumRes.nil (f : Nat → Int) (w w' : World) (hg : w.grownBy w' none) : NumRes 0 f w (.returned (.slice none 0 0)) w' := ⟨_, rfl, World.ownsRow_nil _ _ _ _, hg⟩
theorem NumRes.after {k : Nat} {f : Nat → Int} {w w1 w2 : World} {e : Ending} (hg : w.grownBy w1 none) (h : NumRes k f w1 e w2) : NumRes k f w e w2 := by
  obtain ⟨v, he, ho, h2⟩ := h
  exact ⟨v, he, World.ownsRow.mono ho hg.size, grown_same hg h2⟩
/-- How many numbers there are. -/
def nW (n : Nat) (F : Nat → Wid) : Nat := if vwB n F then n else 0
theorem SpecRunWide_any (A : Option Addr) (n c : Nat) (F : Nat → Wid) (w : World) (hn : n ≤ 9223372036854775807) (h : Wds w A n F) :
    Calls Tryd.prog 20 #[.slice A n c] w (NumRes (nW n F) (num F) w) := by
  have HV := shade (validWide_any A n c F w hn h)
  have HR := shade (fun W (hg : w.grownBy W none) (hv : vwB n F = true) => runWide_any A n c F W hv (h.on hg))
  clear h
  unfold nW
  rcases hv : vwB n F with _ | _
  · rw [hv] at HV
    clear hv HR
    go_enter Tryd.func20, Tryd.ntmps20
    go_wp2_with fail
    refine HV.out.mono ?_
    rintro e w2 ⟨rfl, hg⟩
    have HG := shade hg
    clear hg
    go_wp2
    go_ret
    exact NumRes.nil _ _ _ HG.out
  · have HH := shade hv
    rw [hv] at HV
    clear hv
    go_enter Tryd.func20, Tryd.ntmps20
    go_wp2_with fail
    refine HV.out.mono ?_
    rintro e w2 ⟨rfl, hg⟩
    have HG := shade hg
    clear hg
    go_wp2_with fail
    refine (HR.out _ HG.out HH.out).mono ?_
    rintro e w3 h3
    obtain ⟨v, rfl, ho, h2⟩ := NumRes.after HG.out h3
    have HO := shade ho
    have H2 := shade h2
    clear ho h2 h3
    go_wp2
    go_ret
    exact ⟨_, rfl, HO.out, H2.out⟩
end Go.Proofs.YtjjjgjnhiffpnaaDoor
