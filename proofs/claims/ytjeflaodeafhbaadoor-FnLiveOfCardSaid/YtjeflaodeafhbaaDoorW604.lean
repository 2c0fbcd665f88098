/- DropDead and its model answer alike. -/
import Derived.Test.YtjeflaodeafhbaaDoorG605
import Derived.Test.YtjeflaodeafhbaaDoorG580
import Derived.Test.YtjeflaodeafhbaaDoorH446
import Derived.Deep.RegionHeld3
namespace Go.Proofs.YtjeflaodeafhbaaDoor
open Go.RowKit
set_option linter.unusedSimpArgs false
/-- What is kept: what is reached and writes to nothing, or to what is needed behind it. -/
def kpD (F : Nat → Ins) (n : Nat) (f : Nat → Bool) (gx : Nat → Int) (i : Nat) : Bool := f i && !(bits .andNot .i64 (uwO F n i) (gx (i + 1)) != 0)
/-- What the closure reads: the boxes of its three variables, and what lies in them. -/
structure Dcl (w wx : World) (A : Option Addr) (n c : Nat) (F : Nat → Ins) (f : Nat → Bool) (gx : Nat → Int) (bp b3 b4 : Nat) (v1 v2 : Value) : Prop where
  low : w.grownBy wx none
  wt : WT wx
  code : Code wx A n F
  pbox : Holds5 wx bp 46 #[.slice A n c]
  box3 : Holds5 wx b3 82 #[v1]
  box4 : Holds5 wx b4 25 #[v2]
  row1 : wx.ownsRow w.heap.size 4 1 v1 (n + 1) (bolL (n + 1) f)
  row2 : wx.ownsRow w.heap.size 3 1 v2 (n + 1) (numL (n + 1) gx)
theorem Holds5.put1 {w : World} {g : Nat} {t : TypeId} {x : Value} (h : Holds5 w g t #[x]) (u : Value) : Holds5 (w.setCell ⟨g, 0, none⟩ u) g t #[u] := by
  simpa using h.put 0 u
theorem Holds5.other1 {w : World} {g b o : Nat} {t : TypeId} {cs : Array Value} (h : Holds5 w g t cs) (hne : g ≠ b) (u : Value) : Holds5 (w.setCell ⟨b, o, none⟩ u) g t cs := h.other (p := ⟨b, o, none⟩) hne u
theorem Holds5.more {w w' : World} {g : Nat} {t : TypeId} {cs : Array Value} (h : Holds5 w g t cs) (hg : w.grownBy w' none) : Holds5 w' g t cs := h.grown hg (by intro e; cases e)
theorem size_drewD (W : World) : W.drew.heap.size = W.heap.size := rfl
theorem Holds5.apart {w : World} {g g' : Nat} {t t' : TypeId} {cs cs' : Array Value} (h : Holds5 w g t cs) (h' : Holds5 w g' t' cs') (ht : t ≠ t') : g ≠ g' := fun e => by
  subst e
  have h1 : w.heap[g]? = some (.cells cs t (0, 0)) := h
  have h2 : w.heap[g]? = some (.cells cs' t' (0, 0)) := h'
  rw [h1] at h2
  injection h2 with h2
  injection h2 with h3 h4
  exact ht h4
theorem Holds5.beside {w : World} {g g' : Nat} {t t' : TypeId} {x : Value} {cs' : Array Value} (h : Holds5 w g t #[x]) (h' : Holds5 w g' t' cs') (ht : t ≠ t') (u : Value) :
    (w.setCell ⟨g', 0, none⟩ u).cell? ⟨g, 0, none⟩ = some x ∧ (w.setCell ⟨g', 0, none⟩ u).frozen? ⟨g, 0, none⟩ = false := by
  have hh := h.other1 (b := g') (o := 0) (h.apart h' ht) u
  exact ⟨(hh.look 0).trans rfl, hh.free 0⟩
theorem Holds5.freshAt {w : World} {g : Nat} {t : TypeId} {cs : Array Value} (h : g = w.heap.size) : Holds5 (w.alloc (.cells cs t)) g t cs := by
  rw [h]
  exact Holds5.fresh _ _ _
/-- A box of the call's own, with nothing in it. -/
def Bx (w wx : World) (b : Nat) (t : TypeId) : Prop := Holds5 wx b t #[.slice none 0 0] ∧ w.heap.size ≤ b
theorem Bx.more {w W W' : World} {b : Nat} {t : TypeId} (h : Bx w W b t) (hg : W.grownBy W' none) : Bx w W' b t := ⟨h.1.more hg, h.2⟩
theorem Bx.alloc {w W : World} {b : Nat} {t : TypeId} (h : Bx w W b t) (o : Obj) : Bx w (W.alloc o) b t := ⟨h.1.alloc o, h.2⟩
theorem Bx.drew {w W : World} {b : Nat} {t : TypeId} (h : Bx w W b t) : Bx w W.drew b t := ⟨h.1.drew, h.2⟩
theorem own_apart {W : World} {B : Nat} {e : TypeId} {z : Nat} {v : Value} {n : Nat} {xs : List Value} {b : Nat} {t : TypeId} {cs : Array Value} (h : W.ownsRow B e z v n xs) (hb : Holds5 W b t cs) (ht : t ≠ e) : v.ownBlock ≠ some b := by
  intro e0
  rcases h.2 with ⟨e', h0⟩ | ⟨g', c', cur, e', hB, hw, _⟩
  · rw [e'] at e0
    cases e0
  · rw [e'] at e0
    have e1 : g' = b := by injection e0
    subst e1
    have h1 : W.heap[g']? = some (.cells cs t (0, 0)) := hb
    rw [hw] at h1
    injection h1 with h1
    injection h1 with h3 h4
    exact ht h4.symm
theorem own_set {W : World} {B : Nat} {e : TypeId} {z : Nat} {v : Value} {n : Nat} {xs : List Value} {b : Nat} {t : TypeId} {cs : Array Value} (h : W.ownsRow B e z v n xs) (hb : Holds5 W b t cs) (ht : t ≠ e) (u : Value) : (W.setCell ⟨b, 0, none⟩ u).ownsRow B e z v n xs :=
  World.ownsRow.kept h (grown_set b 0 u) (.inr (own_apart h hb ht))
theorem own_bols {W : World} {B K : Nat} {v : Value} {f : Nat → Bool} (h : W.ownsRow B 4 1 v K (bolL K f)) : ∃ A c, v = .slice A K c ∧ Bols W A K f := by
  rcases h.2 with ⟨e', h0⟩ | ⟨g', cap', cur, e', _⟩
  · exact ⟨none, 0, by rw [e', h0], .inl h0⟩
  · have ho := h
    rw [e'] at ho
    exact ⟨some ⟨g', 0, none⟩, cap', e', OwnB.bols ho⟩
theorem own_nums {W : World} {B K : Nat} {v : Value} {f : Nat → Int} (h : W.ownsRow B 3 1 v K (numL K f)) : ∃ A c, v = .slice A K c ∧ Nums W A K f := by
  rcases h.2 with ⟨e', h0⟩ | ⟨g', cap', cur, e', _⟩
  · exact ⟨none, 0, by rw [e', h0], .inl h0⟩
  · have ho := h
    rw [e'] at ho
    exact ⟨some ⟨g', 0, none⟩, cap', e', Own.nums ho⟩
theorem low_holds {B b : Nat} {t : TypeId} {cs : Array Value} (hb : b < B) : Low B (fun W => Holds5 W b t cs) := fun _ _ hu _ hk => hk b _ hb hu rfl
theorem low_bols (B : Nat) (A : Option Addr) (n : Nat) (f : Nat → Bool) (hA : ∀ b off, A = some ⟨b, off, none⟩ → b < B) : Low B (fun W => Bols W A n f) := fun W W' hu hs hk => by
  rcases hu with h | ⟨b, off, e, hb, hc⟩
  · exact .inl h
  · exact .inr ⟨b, off, e, Nat.lt_of_lt_of_le hb hs, fun j hj => cell_of_heap (hc j hj) (fun o ho hc => hk b o (hA b off e) ho hc)⟩
theorem low_nums (B : Nat) (A : Option Addr) (n : Nat) (f : Nat → Int) (hA : ∀ b off, A = some ⟨b, off, none⟩ → b < B) : Low B (fun W => Nums W A n f) := fun W W' hu hs hk => by
  rcases hu with h | ⟨b, off, e, hb, hc⟩
  · exact .inl h
  · exact .inr ⟨b, off, e, Nat.lt_of_lt_of_le hb hs, fun j hj => cell_of_heap (hc j hj) (fun o ho hc => hk b o (hA b off e) ho hc)⟩
theorem bols_lt {W : World} {A : Option Addr} {n : Nat} {f : Nat → Bool} (h : Bols W A (n + 1) f) : ∀ b off, A = some ⟨b, off, none⟩ → b < W.heap.size := fun b off e => by
  rcases h with h | ⟨b', off', e', hb, _⟩
  · cases h
  · rw [e'] at e
    injection e with e
    injection e with e1
    omega
theorem nums_lt {W : World} {A : Option Addr} {n : Nat} {f : Nat → Int} (h : Nums W A (n + 1) f) : ∀ b off, A = some ⟨b, off, none⟩ → b < W.heap.size := fun b off e => by
  rcases h with h | ⟨b', off', e', hb, _⟩
  · cases h
  · rw [e'] at e
    injection e with e
    injection e with e1
    omega
set_option maxRecDepth 100000 in
set_option maxHeartbeats 4000000 in
theorem dropD_cl (A A1 A2 : Option Addr) (n c c1 c2 bp b3 b4 x : Nat) (F : Nat → Ins) (f : Nat → Bool) (gx : Nat → Int) (W : World) (hv : vcB n F = true) (hwt : WT W) (hC : Code W A n F) (hx : x < n)
    (hp : Holds5 W bp 46 #[.slice A n c]) (h3 : Holds5 W b3 82 #[.slice A1 (n + 1) c1]) (h4 : Holds5 W b4 25 #[.slice A2 (n + 1) c2]) (r1 : Bols W A1 (n + 1) f) (r2 : Nums W A2 (n + 1) gx) :
    Calls Tryd.prog 78 #[.int .i64 (x : Int), .pointer (some ⟨bp, 0, none⟩), .pointer (some ⟨b3, 0, none⟩), .pointer (some ⟨b4, 0, none⟩)] W fun e w' => e = .returned (.bool (!kpD F n f gx x)) ∧ W.grownBy w' none := by
  have HU := shade (usesAt_any A n c F x W hwt hv hC (by omega))
  have H3 := shade h3; have H4 := shade h4; have R1 := shade r1; have R2 := shade r2
  have q0 := hp.look 0
  simp at q0
  obtain ⟨a1, o1, rfl, -⟩ := r1.resolve_left (by omega)
  obtain ⟨a2, o2, rfl, -⟩ := r2.resolve_left (by omega)
  have hn := vcB_40 hv
  obtain ⟨k, hk⟩ : ∃ k, kpD F n f gx x = k := ⟨_, rfl⟩
  rw [hk]
  unfold kpD at hk
  generalize urO F n x = u at *
  generalize uwO F n x = v at *
  have HK := shade hk
  clear hwt hv hC hp h3 h4 r1 r2 hk
  go_enter Tryd.func78, Tryd.ntmps78
  go_wp2_with fail
  refine HU.out.mono ?_
  rintro e w1 ⟨rfl, hgr⟩
  have q3 := (H3.out.more hgr).look 0; have q4 := (H4.out.more hgr).look 0
  simp at q3 q4
  have s1 := (R1.out.grown hgr (by intro _ _ _ e; cases e)).cell (j := x) (by omega)
  have s2 := (R2.out.grown hgr (by intro _ _ _ e; cases e)).cell (j := x + 1) (by omega)
  have HB := shade hgr
  clear hgr q0 HU H3 H4 R1 R2
  rcases hf : f x with _ | _
  · rw [hf] at s1
    have hk : k = false := by rw [← HK.out, hf, Bool.false_and]
    subst hk
    clear hf HK
    go_wp2_with fail
    go_ret
    exact ⟨rfl, HB.out⟩
  · rw [hf] at s1
    have hk := HK.out
    rw [hf, Bool.true_and] at hk
    have HK2 := shade hk
    clear hf HK hk
    generalize gx (x + 1) = y at *
    go_wp2_with fail
    go_ret
    exact ⟨ret_b (by rw [← HK2.out, Bool.not_not]), HB.out⟩
theorem dcl_of {w wx : World} {A : Option Addr} {n c : Nat} {F : Nat → Ins} {f : Nat → Bool} {gx : Nat → Int} {bp b3 b4 : Nat} {v1 v2 : Value} (hw : ∀ W : World, w.grownBy W none → WT W) (hc : ∀ W : World, w.grownBy W none → Code W A n F)
    (h1 : w.grownBy wx none) (h2 : Holds5 wx bp 46 #[.slice A n c]) (h3 : Holds5 wx b3 82 #[v1]) (h4 : Holds5 wx b4 25 #[v2]) (h5 : wx.ownsRow w.heap.size 4 1 v1 (n + 1) (bolL (n + 1) f)) (h6 : wx.ownsRow w.heap.size 3 1 v2 (n + 1) (numL (n + 1) gx)) :
    Dcl w wx A n c F f gx bp b3 b4 v1 v2 := ⟨h1, hw wx h1, hc wx h1, h2, h3, h4, h5, h6⟩
theorem end_a {w w4 : World} {A A1 A2 : Option Addr} {n c c1 c2 : Nat} {F : Nat → Ins} {f : Nat → Bool} {gx : Nat → Int} {bp : Nat} (hw : ∀ W : World, w.grownBy W none → WT W) (hc : ∀ W : World, w.grownBy W none → Code W A n F) (h1 : w.grownBy w4 none) (h2 : Holds5 w4 bp 46 #[.slice A n c]) (r1 : w4.ownsRow w.heap.size 4 1 (.slice A1 (n + 1) c1) (n + 1) (bolL (n + 1) f)) (r2 : w4.ownsRow w.heap.size 3 1 (.slice A2 (n + 1) c2) (n + 1) (numL (n + 1) gx)) :
    Dcl w ((w4.alloc (.cells #[(.slice A1 (n + 1) c1)] 82)).alloc (.cells #[(.slice A2 (n + 1) c2)] 25)) A n c F f gx bp w4.heap.size (w4.heap.size + 1) (.slice A1 (n + 1) c1) (.slice A2 (n + 1) c2) := by
  have g := grown_same (World.grownBy_alloc w4 (.cells #[(.slice A1 (n + 1) c1)] 82) none) (World.grownBy_alloc _ (.cells #[(.slice A2 (n + 1) c2)] 25) none)
  exact dcl_of hw hc (grown_same h1 g) (h2.more g) ((Holds5.freshAt rfl).alloc _) (Holds5.freshAt (by simp)) (ownsRow_on r1 g) (ownsRow_on r2 g)
theorem end_b {w w4 : World} {A A1 A2 : Option Addr} {n c c1 c2 : Nat} {F : Nat → Ins} {f : Nat → Bool} {gx : Nat → Int} {bp : Nat} (hw : ∀ W : World, w.grownBy W none → WT W) (hc : ∀ W : World, w.grownBy W none → Code W A n F) (h1 : w.grownBy w4 none) (h2 : Holds5 w4 bp 46 #[.slice A n c]) (r1 : w4.ownsRow w.heap.size 4 1 (.slice A1 (n + 1) c1) (n + 1) (bolL (n + 1) f)) (r2 : w4.ownsRow w.heap.size 3 1 (.slice A2 (n + 1) c2) (n + 1) (numL (n + 1) gx)) :
    Dcl w ((w4.alloc (.cells #[(.slice A2 (n + 1) c2)] 25)).alloc (.cells #[(.slice A1 (n + 1) c1)] 82)) A n c F f gx bp (w4.heap.size + 1) w4.heap.size (.slice A1 (n + 1) c1) (.slice A2 (n + 1) c2) := by
  have g := grown_same (World.grownBy_alloc w4 (.cells #[(.slice A2 (n + 1) c2)] 25) none) (World.grownBy_alloc _ (.cells #[(.slice A1 (n + 1) c1)] 82) none)
  exact dcl_of hw hc (grown_same h1 g) (h2.more g) (Holds5.freshAt (by simp)) ((Holds5.freshAt rfl).alloc _) (ownsRow_on r1 g) (ownsRow_on r2 g)
theorem end_d {w w4 : World} {A A1 A2 : Option Addr} {n c c1 c2 : Nat} {F : Nat → Ins} {f : Nat → Bool} {gx : Nat → Int} {bp b3 b4 : Nat} (hw : ∀ W : World, w.grownBy W none → WT W) (hc : ∀ W : World, w.grownBy W none → Code W A n F) (h1 : w.grownBy w4 none) (h2 : Holds5 w4 bp 46 #[.slice A n c]) (r1 : w4.ownsRow w.heap.size 4 1 (.slice A1 (n + 1) c1) (n + 1) (bolL (n + 1) f)) (r2 : w4.ownsRow w.heap.size 3 1 (.slice A2 (n + 1) c2) (n + 1) (numL (n + 1) gx)) (h3 : Bx w w4 b3 82) (h4 : Bx w w4 b4 25) :
    Dcl w ((w4.setCell ⟨b3, 0, none⟩ (.slice A1 (n + 1) c1)).setCell ⟨b4, 0, none⟩ (.slice A2 (n + 1) c2)) A n c F f gx bp b3 b4 (.slice A1 (n + 1) c1) (.slice A2 (n + 1) c2) := by
  have a34 := h3.1.apart h4.1 (by decide)
  have a3 := h2.apart h3.1 (by decide)
  have a4 := h2.apart h4.1 (by decide)
  have h4' := h4.1.other1 (b := b3) (o := 0) a34.symm (.slice A1 (n + 1) c1)
  exact dcl_of hw hc (grown_then (grown_then h1 (grown_set b3 0 _) h3.2) (grown_set b4 0 _) h4.2) ((h2.other1 a3 _).other1 a4 _) ((h3.1.put1 _).other1 a34 _) (h4'.put1 _)
    (own_set (own_set r1 h3.1 (by decide) _) h4' (by decide) _) (own_set (own_set r2 h3.1 (by decide) _) h4' (by decide) _)
theorem end_c {w w4 : World} {A A1 A2 : Option Addr} {n c c1 c2 : Nat} {F : Nat → Ins} {f : Nat → Bool} {gx : Nat → Int} {bp b3 : Nat} (hw : ∀ W : World, w.grownBy W none → WT W) (hc : ∀ W : World, w.grownBy W none → Code W A n F) (h1 : w.grownBy w4 none) (h2 : Holds5 w4 bp 46 #[.slice A n c]) (r1 : w4.ownsRow w.heap.size 4 1 (.slice A1 (n + 1) c1) (n + 1) (bolL (n + 1) f)) (r2 : w4.ownsRow w.heap.size 3 1 (.slice A2 (n + 1) c2) (n + 1) (numL (n + 1) gx)) (h3 : Bx w w4 b3 82) :
    Dcl w (((w4.alloc (.cells #[.slice none 0 0] 25)).setCell ⟨b3, 0, none⟩ (.slice A1 (n + 1) c1)).setCell ⟨w4.heap.size, 0, none⟩ (.slice A2 (n + 1) c2)) A n c F f gx bp b3 w4.heap.size (.slice A1 (n + 1) c1) (.slice A2 (n + 1) c2) := by
  have g := World.grownBy_alloc w4 (.cells #[.slice none 0 0] 25) none
  exact end_d hw hc (grown_same h1 g) (h2.more g) (ownsRow_on r1 g) (ownsRow_on r2 g) (h3.more g) ⟨Holds5.freshAt rfl, h1.size⟩
theorem end_e {w w4 : World} {A A1 A2 : Option Addr} {n c c1 c2 : Nat} {F : Nat → Ins} {f : Nat → Bool} {gx : Nat → Int} {bp b4 : Nat} (hw : ∀ W : World, w.grownBy W none → WT W) (hc : ∀ W : World, w.grownBy W none → Code W A n F) (h1 : w.grownBy w4 none) (h2 : Holds5 w4 bp 46 #[.slice A n c]) (r1 : w4.ownsRow w.heap.size 4 1 (.slice A1 (n + 1) c1) (n + 1) (bolL (n + 1) f)) (r2 : w4.ownsRow w.heap.size 3 1 (.slice A2 (n + 1) c2) (n + 1) (numL (n + 1) gx)) (h4 : Bx w w4 b4 25) :
    Dcl w ((w4.alloc (.cells #[(.slice A1 (n + 1) c1)] 82)).setCell ⟨b4, 0, none⟩ (.slice A2 (n + 1) c2)) A n c F f gx bp w4.heap.size b4 (.slice A1 (n + 1) c1) (.slice A2 (n + 1) c2) := by
  have g := World.grownBy_alloc w4 (.cells #[(.slice A1 (n + 1) c1)] 82) none
  have f3 : Holds5 (w4.alloc (.cells #[(.slice A1 (n + 1) c1)] 82)) w4.heap.size 82 #[(.slice A1 (n + 1) c1)] := Holds5.freshAt rfl
  have h4' := h4.1.more g
  exact dcl_of hw hc (grown_then (grown_same h1 g) (grown_set b4 0 _) h4.2) ((h2.more g).other1 ((h2.more g).apart h4' (by decide)) _) (f3.other1 (f3.apart h4' (by decide)) _) (h4'.put1 _)
    (own_set (ownsRow_on r1 g) h4' (by decide) _) (own_set (ownsRow_on r2 g) h4' (by decide) _)
set_option maxRecDepth 100000 in
set_option maxHeartbeats 16000000 in
theorem dropDead_any (A : Option Addr) (n c : Nat) (F : Nat → Ins) (f : Nat → Bool) (gx : Nat → Int) (w : World) (hv : vcB n F = true) (hwt : WT w) (h : Code w A n F)
    (hf : ∀ y, f y = true ↔ Way F n noCut 0 y) (hgx : ∀ x, S4 (gx x) ∧ ∀ r, r < 4 → (bt (gx x) r = true ↔ Need F n r x)) :
    Calls Tryd.prog 48 #[.slice A n c] w (CodeRes (ctK (kpD F n f gx) n) (koP F (kpD F n f gx) n) w) := by
  have hn := vcB_40 hv
  have HV := shade hv; have HWT := shade hwt; have HC := shade h; have HF := shade hf; have HGX := shade hgx
  clear hv hwt h hf hgx
  have HR := shade (fun W (hW : WT W) (hC : Code W A n F) => show Calls Tryd.prog 75 #[.slice A n c, .func (.func 76) #[] #[]] W (MarkRes (n + 1) f W) from (reached_no A n c F W HV.out hW hC).mono fun e w' h => by
    obtain ⟨r, hr, hm⟩ := h
    exact hm.congr (fun y hy => by rw [Bool.eq_iff_iff, hr y (by omega), HF.out y]))
  have HL := shade (fun W (hW : WT W) (hC : Code W A n F) => live_any A n c F gx W HV.out hW hC HGX.out)
  have HG0 := shade (World.grownBy_alloc w (.cells #[.slice A n c] 46) none)
  have HX0 := shade (Holds5.fresh w 46 #[.slice A n c])
  have HWG := shade (fun W (hg : w.grownBy W none) => HWT.out.below (below_of_grown hg) (wt_lt HWT.out))
  have HCG := shade (fun W (hg : w.grownBy W none) => HC.out.on hg)
  go_enter Tryd.func48, Tryd.ntmps48
  go_upto_region 1 with (fail)
  obtain ⟨W0, hW0⟩ : ∃ W0, w.alloc (.cells #[.slice A n c] 46) = W0 := ⟨_, rfl⟩
  rw [hW0] at HG0 HX0 ⊢
  have HZ0 := shade (show W0.heap.size = w.heap.size + 1 from by rw [← hW0, World.size_alloc])
  clear hW0
  go_cut [3, 4] (fun s3 s4 wx => ∃ (b3 b4 : Nat) (v1 v2 : Value), s3 = .pointer (some ⟨b3, 0, none⟩) ∧ s4 = .pointer (some ⟨b4, 0, none⟩) ∧ Dcl w wx A n c F f gx w.heap.size b3 b4 v1 v2)
  case first =>
    have hx0 := HX0.out.look 0
    simp at hx0
    have t43 : (25 : TypeId) ≠ 82 := by decide
    have K3 := shade (show Bx w (W0.alloc (.cells #[.slice none 0 0] 82)) W0.heap.size 82 from ⟨Holds5.freshAt rfl, HG0.out.size⟩); have K4 := shade (show Bx w (W0.alloc (.cells #[.slice none 0 0] 25)) W0.heap.size 25 from ⟨Holds5.freshAt rfl, HG0.out.size⟩); have K34 := shade (show Bx w ((W0.alloc (.cells #[.slice none 0 0] 82)).alloc (.cells #[.slice none 0 0] 25)) (W0.heap.size + 1) 25 from ⟨Holds5.freshAt (by simp [size_drewD]), Nat.le_succ_of_le HG0.out.size⟩); have K43 := shade (show Bx w ((W0.alloc (.cells #[.slice none 0 0] 25)).alloc (.cells #[.slice none 0 0] 82)) (W0.heap.size + 1) 82 from ⟨Holds5.freshAt (by simp [size_drewD]), Nat.le_succ_of_le HG0.out.size⟩)
    have J3 := shade (show Bx w (W0.drew.alloc (.cells #[.slice none 0 0] 82)) W0.heap.size 82 from ⟨Holds5.freshAt rfl, HG0.out.size⟩); have J4 := shade (show Bx w (W0.drew.alloc (.cells #[.slice none 0 0] 25)) W0.heap.size 25 from ⟨Holds5.freshAt rfl, HG0.out.size⟩); have J34 := shade (show Bx w ((W0.drew.alloc (.cells #[.slice none 0 0] 82)).alloc (.cells #[.slice none 0 0] 25)) (W0.heap.size + 1) 25 from ⟨Holds5.freshAt (by simp [size_drewD]), Nat.le_succ_of_le HG0.out.size⟩); have J43 := shade (show Bx w ((W0.drew.alloc (.cells #[.slice none 0 0] 25)).alloc (.cells #[.slice none 0 0] 82)) (W0.heap.size + 1) 82 from ⟨Holds5.freshAt (by simp [size_drewD]), Nat.le_succ_of_le HG0.out.size⟩)
    go_region_held3 (fun w' => w'.cell? ⟨w.heap.size, 0, none⟩ = some (.slice A n c))
      (first | with_reducible exact hx0 | (refine (Holds5.look (g := w.heap.size) (cs := #[.slice A n c]) (t := 46) ?_ 0).trans rfl; (repeat' (first | with_reducible exact HX4.out | with_reducible exact HX3.out | with_reducible exact HX0.out | with_reducible refine Holds5.alloc ?_ _ | with_reducible refine Holds5.drew ?_ | refine Holds5.other1 ?_ (by have hz0 := HZ0.out; omega) _)); done))
      (first
        | (go_at_call 75; refine (HR.out _ (HWG.out _ (by (repeat' (first | with_reducible exact HG0.out | with_reducible refine grown_same ?_ (World.grownBy_alloc _ _ none) | with_reducible refine grown_same ?_ (grown_drew1 _))); done)) (HCG.out _ (by (repeat' (first | with_reducible exact HG0.out | with_reducible refine grown_same ?_ (World.grownBy_alloc _ _ none) | with_reducible refine grown_same ?_ (grown_drew1 _))); done))).mono ?_; rintro e w3 ⟨v1, rfl, ho1, hg3⟩; obtain ⟨A1, c1, rfl, -⟩ := ownsRow_slice ho1; have HA3 := shade (show W0.grownBy w3 none from grown_same (by (repeat' (first | with_reducible exact (grown_refl _ _) | with_reducible refine grown_same ?_ (World.grownBy_alloc _ _ none) | with_reducible refine grown_same ?_ (grown_drew1 _))); done) hg3); have HG3 := shade (grown_same HG0.out HA3.out); have HX3 := shade (HX0.out.more HA3.out); have R1 := shade (World.ownsRow.mono ho1 (World.grownBy.size (w := w) (row := none) (by (repeat' (first | with_reducible exact HG0.out | with_reducible refine grown_same ?_ (World.grownBy_alloc _ _ none) | with_reducible refine grown_same ?_ (grown_drew1 _))); done))); (first | (with_reducible have B3 := shade (Bx.more K3.out hg3)) | (with_reducible have B3 := shade (Bx.more (K3.out.drew) hg3)) | (with_reducible have B3 := shade (Bx.more (K3.out.alloc _) hg3)) | (with_reducible have B3 := shade (Bx.more ((K3.out.alloc _).drew) hg3)) | (with_reducible have B3 := shade (Bx.more J3.out hg3)) | (with_reducible have B3 := shade (Bx.more (J3.out.drew) hg3)) | (with_reducible have B3 := shade (Bx.more (J3.out.alloc _) hg3)) | (with_reducible have B3 := shade (Bx.more ((J3.out.alloc _).drew) hg3)) | skip); (try (have B3a := B3.out.1.look 0; have B3b := B3.out.1.free 0; simp at B3a)); (first | (with_reducible have B4 := shade (Bx.more K4.out hg3)) | (with_reducible have B4 := shade (Bx.more (K4.out.drew) hg3)) | (with_reducible have B4 := shade (Bx.more (K4.out.alloc _) hg3)) | (with_reducible have B4 := shade (Bx.more ((K4.out.alloc _).drew) hg3)) | (with_reducible have B4 := shade (Bx.more J4.out hg3)) | (with_reducible have B4 := shade (Bx.more (J4.out.drew) hg3)) | (with_reducible have B4 := shade (Bx.more (J4.out.alloc _) hg3)) | (with_reducible have B4 := shade (Bx.more ((J4.out.alloc _).drew) hg3)) | skip); (try (have B4a := B4.out.1.look 0; have B4b := B4.out.1.free 0; simp at B4a)); (first | (with_reducible have B3p := shade (Bx.more K43.out hg3)) | (with_reducible have B3p := shade (Bx.more (K43.out.drew) hg3)) | (with_reducible have B3p := shade (Bx.more J43.out hg3)) | (with_reducible have B3p := shade (Bx.more (J43.out.drew) hg3)) | skip); (try (have B3pa := B3p.out.1.look 0; have B3pb := B3p.out.1.free 0; simp at B3pa)); (first | (with_reducible have B4p := shade (Bx.more K34.out hg3)) | (with_reducible have B4p := shade (Bx.more (K34.out.drew) hg3)) | (with_reducible have B4p := shade (Bx.more J34.out hg3)) | (with_reducible have B4p := shade (Bx.more (J34.out.drew) hg3)) | skip); (try (have B4pa := B4p.out.1.look 0; have B4pb := B4p.out.1.free 0; simp at B4pa)); have M3 := shade (show Bx w (w3.alloc (.cells #[.slice none 0 0] 82)) w3.heap.size 82 from ⟨Holds5.freshAt rfl, HG3.out.size⟩); have M4 := shade (show Bx w (w3.alloc (.cells #[.slice none 0 0] 25)) w3.heap.size 25 from ⟨Holds5.freshAt rfl, HG3.out.size⟩); have M34 := shade (show Bx w ((w3.alloc (.cells #[.slice none 0 0] 82)).alloc (.cells #[.slice none 0 0] 25)) (w3.heap.size + 1) 25 from ⟨Holds5.freshAt (by simp [size_drewD]), Nat.le_succ_of_le HG3.out.size⟩); have M43 := shade (show Bx w ((w3.alloc (.cells #[.slice none 0 0] 25)).alloc (.cells #[.slice none 0 0] 82)) (w3.heap.size + 1) 82 from ⟨Holds5.freshAt (by simp [size_drewD]), Nat.le_succ_of_le HG3.out.size⟩); have hs3 := hg3.size; (try simp only [size_drewD, World.size_alloc] at hs3); clear ho1 hg3)
        | (go_at_call 42; refine (HL.out _ (HWG.out _ (by (repeat' (first | with_reducible exact HG3.out | with_reducible refine grown_same ?_ (World.grownBy_alloc _ _ none) | with_reducible refine grown_same ?_ (grown_drew1 _))); done)) (HCG.out _ (by (repeat' (first | with_reducible exact HG3.out | with_reducible refine grown_same ?_ (World.grownBy_alloc _ _ none) | with_reducible refine grown_same ?_ (grown_drew1 _))); done))).mono ?_; rintro e w4 ⟨v2, rfl, ho2, hg4⟩; obtain ⟨A2, c2, rfl, -⟩ := ownsRow_slice ho2; have HA34 := shade (show w3.grownBy w4 none from grown_same (by (repeat' (first | with_reducible exact (grown_refl _ _) | with_reducible refine grown_same ?_ (World.grownBy_alloc _ _ none) | with_reducible refine grown_same ?_ (grown_drew1 _))); done) hg4); have HG4 := shade (grown_same HG3.out HA34.out); have HX4 := shade (HX3.out.more HA34.out); have R2 := shade (World.ownsRow.mono ho2 (World.grownBy.size (w := w) (row := none) (by (repeat' (first | with_reducible exact HG3.out | with_reducible refine grown_same ?_ (World.grownBy_alloc _ _ none) | with_reducible refine grown_same ?_ (grown_drew1 _))); done))); have R14 := shade (ownsRow_on R1.out HA34.out); (try (have C3 := shade (B3.out.more HA34.out); have C3a := C3.out.1.look 0; have C3b := C3.out.1.free 0; simp at C3a)); (try (have C3p := shade (B3p.out.more HA34.out); have C3pa := C3p.out.1.look 0; have C3pb := C3p.out.1.free 0; simp at C3pa)); (try (have C4 := shade (B4.out.more HA34.out); have C4a := C4.out.1.look 0; have C4b := C4.out.1.free 0; simp at C4a)); (try (have C4p := shade (B4p.out.more HA34.out); have C4pa := C4p.out.1.look 0; have C4pb := C4p.out.1.free 0; simp at C4pa)); (first | (with_reducible have D3 := shade (Bx.more M3.out hg4)) | (with_reducible have D3 := shade (Bx.more (M3.out.drew) hg4)) | (with_reducible have D3 := shade (Bx.more (M3.out.alloc _) hg4)) | (with_reducible have D3 := shade (Bx.more ((M3.out.alloc _).drew) hg4)) | skip); (try (have D3a := D3.out.1.look 0; have D3b := D3.out.1.free 0; simp at D3a)); (first | (with_reducible have D4 := shade (Bx.more M4.out hg4)) | (with_reducible have D4 := shade (Bx.more (M4.out.drew) hg4)) | (with_reducible have D4 := shade (Bx.more (M4.out.alloc _) hg4)) | (with_reducible have D4 := shade (Bx.more ((M4.out.alloc _).drew) hg4)) | skip); (try (have D4a := D4.out.1.look 0; have D4b := D4.out.1.free 0; simp at D4a)); (first | (with_reducible have D3p := shade (Bx.more M43.out hg4)) | (with_reducible have D3p := shade (Bx.more (M43.out.drew) hg4)) | skip); (try (have D3pa := D3p.out.1.look 0; have D3pb := D3p.out.1.free 0; simp at D3pa)); (first | (with_reducible have D4p := shade (Bx.more M34.out hg4)) | (with_reducible have D4p := shade (Bx.more (M34.out.drew) hg4)) | skip); (try (have D4pa := D4p.out.1.look 0; have D4pb := D4p.out.1.free 0; simp at D4pa)); have N3 := shade (show Bx w (w4.alloc (.cells #[.slice none 0 0] 82)) w4.heap.size 82 from ⟨Holds5.freshAt rfl, HG4.out.size⟩); have N4 := shade (show Bx w (w4.alloc (.cells #[.slice none 0 0] 25)) w4.heap.size 25 from ⟨Holds5.freshAt rfl, HG4.out.size⟩); have N34 := shade (show Bx w ((w4.alloc (.cells #[.slice none 0 0] 82)).alloc (.cells #[.slice none 0 0] 25)) (w4.heap.size + 1) 25 from ⟨Holds5.freshAt (by simp [size_drewD]), Nat.le_succ_of_le HG4.out.size⟩); have N43 := shade (show Bx w ((w4.alloc (.cells #[.slice none 0 0] 25)).alloc (.cells #[.slice none 0 0] 82)) (w4.heap.size + 1) 82 from ⟨Holds5.freshAt (by simp [size_drewD]), Nat.le_succ_of_le HG4.out.size⟩); (try (have C3xa := (C3.out.1.alloc (.cells #[.slice none 0 0] 25)).look 0; have C3xb := (C3.out.1.alloc (.cells #[.slice none 0 0] 25)).free 0; simp at C3xa)); (try (have C3pxa := (C3p.out.1.alloc (.cells #[.slice none 0 0] 25)).look 0; have C3pxb := (C3p.out.1.alloc (.cells #[.slice none 0 0] 25)).free 0; simp at C3pxa)); (try (have D3xa := (D3.out.1.alloc (.cells #[.slice none 0 0] 25)).look 0; have D3xb := (D3.out.1.alloc (.cells #[.slice none 0 0] 25)).free 0; simp at D3xa)); (try (have D3pxa := (D3p.out.1.alloc (.cells #[.slice none 0 0] 25)).look 0; have D3pxb := (D3p.out.1.alloc (.cells #[.slice none 0 0] 25)).free 0; simp at D3pxa)); (try (have N3xa := (N3.out.1.alloc (.cells #[.slice none 0 0] 25)).look 0; have N3xb := (N3.out.1.alloc (.cells #[.slice none 0 0] 25)).free 0; simp at N3xa)); (try (have C4xa := (C4.out.1.alloc (.cells #[.slice none 0 0] 82)).look 0; have C4xb := (C4.out.1.alloc (.cells #[.slice none 0 0] 82)).free 0; simp at C4xa)); (try (have C4pxa := (C4p.out.1.alloc (.cells #[.slice none 0 0] 82)).look 0; have C4pxb := (C4p.out.1.alloc (.cells #[.slice none 0 0] 82)).free 0; simp at C4pxa)); (try (have D4xa := (D4.out.1.alloc (.cells #[.slice none 0 0] 82)).look 0; have D4xb := (D4.out.1.alloc (.cells #[.slice none 0 0] 82)).free 0; simp at D4xa)); (try (have D4pxa := (D4p.out.1.alloc (.cells #[.slice none 0 0] 82)).look 0; have D4pxb := (D4p.out.1.alloc (.cells #[.slice none 0 0] 82)).free 0; simp at D4pxa)); (try (have N4xa := (N4.out.1.alloc (.cells #[.slice none 0 0] 82)).look 0; have N4xb := (N4.out.1.alloc (.cells #[.slice none 0 0] 82)).free 0; simp at N4xa)); (try (have N34ya := N34.out.1.look 0; have N34yb := N34.out.1.free 0; simp at N34ya)); (try (have N43ya := N43.out.1.look 0; have N43yb := N43.out.1.free 0; simp at N43ya)); (try (have z1 := Holds5.beside N34.out.1 (N3.out.1.alloc (.cells #[.slice none 0 0] 25)) t43 (.slice A1 (n + 1) c1); have z1a := z1.1; have z1b := z1.2; have z1c := Holds5.apart N34.out.1 (N3.out.1.alloc (.cells #[.slice none 0 0] 25)) t43; have z1d := z1c.symm; clear z1)); (try (have z2 := Holds5.beside (N4.out.1.alloc (.cells #[.slice none 0 0] 82)) N43.out.1 t43 (.slice A1 (n + 1) c1); have z2a := z2.1; have z2b := z2.2; have z2c := Holds5.apart (N4.out.1.alloc (.cells #[.slice none 0 0] 82)) N43.out.1 t43; have z2d := z2c.symm; clear z2)); (try (have z3 := Holds5.beside N4.out.1 (C3.out.1.alloc (.cells #[.slice none 0 0] 25)) t43 (.slice A1 (n + 1) c1); have z3a := z3.1; have z3b := z3.2; have z3c := Holds5.apart N4.out.1 (C3.out.1.alloc (.cells #[.slice none 0 0] 25)) t43; have z3d := z3c.symm; clear z3)); (try (have z4 := Holds5.beside N4.out.1 (C3p.out.1.alloc (.cells #[.slice none 0 0] 25)) t43 (.slice A1 (n + 1) c1); have z4a := z4.1; have z4b := z4.2; have z4c := Holds5.apart N4.out.1 (C3p.out.1.alloc (.cells #[.slice none 0 0] 25)) t43; have z4d := z4c.symm; clear z4)); (try (have z5 := Holds5.beside N4.out.1 (D3.out.1.alloc (.cells #[.slice none 0 0] 25)) t43 (.slice A1 (n + 1) c1); have z5a := z5.1; have z5b := z5.2; have z5c := Holds5.apart N4.out.1 (D3.out.1.alloc (.cells #[.slice none 0 0] 25)) t43; have z5d := z5c.symm; clear z5)); (try (have z6 := Holds5.beside N4.out.1 (D3p.out.1.alloc (.cells #[.slice none 0 0] 25)) t43 (.slice A1 (n + 1) c1); have z6a := z6.1; have z6b := z6.2; have z6c := Holds5.apart N4.out.1 (D3p.out.1.alloc (.cells #[.slice none 0 0] 25)) t43; have z6d := z6c.symm; clear z6)); (try (have z7 := Holds5.beside (C4.out.1.alloc (.cells #[.slice none 0 0] 82)) N3.out.1 t43 (.slice A1 (n + 1) c1); have z7a := z7.1; have z7b := z7.2; have z7c := Holds5.apart (C4.out.1.alloc (.cells #[.slice none 0 0] 82)) N3.out.1 t43; have z7d := z7c.symm; clear z7)); (try (have z8 := Holds5.beside (C4p.out.1.alloc (.cells #[.slice none 0 0] 82)) N3.out.1 t43 (.slice A1 (n + 1) c1); have z8a := z8.1; have z8b := z8.2; have z8c := Holds5.apart (C4p.out.1.alloc (.cells #[.slice none 0 0] 82)) N3.out.1 t43; have z8d := z8c.symm; clear z8)); (try (have z9 := Holds5.beside (D4.out.1.alloc (.cells #[.slice none 0 0] 82)) N3.out.1 t43 (.slice A1 (n + 1) c1); have z9a := z9.1; have z9b := z9.2; have z9c := Holds5.apart (D4.out.1.alloc (.cells #[.slice none 0 0] 82)) N3.out.1 t43; have z9d := z9c.symm; clear z9)); (try (have z10 := Holds5.beside (D4p.out.1.alloc (.cells #[.slice none 0 0] 82)) N3.out.1 t43 (.slice A1 (n + 1) c1); have z10a := z10.1; have z10b := z10.2; have z10c := Holds5.apart (D4p.out.1.alloc (.cells #[.slice none 0 0] 82)) N3.out.1 t43; have z10d := z10c.symm; clear z10)); (try (have z11 := Holds5.beside C4.out.1 C3.out.1 t43 (.slice A1 (n + 1) c1); have z11a := z11.1; have z11b := z11.2; have z11c := Holds5.apart C4.out.1 C3.out.1 t43; have z11d := z11c.symm; clear z11)); (try (have z12 := Holds5.beside C4p.out.1 C3.out.1 t43 (.slice A1 (n + 1) c1); have z12a := z12.1; have z12b := z12.2; have z12c := Holds5.apart C4p.out.1 C3.out.1 t43; have z12d := z12c.symm; clear z12)); (try (have z13 := Holds5.beside D4.out.1 C3.out.1 t43 (.slice A1 (n + 1) c1); have z13a := z13.1; have z13b := z13.2; have z13c := Holds5.apart D4.out.1 C3.out.1 t43; have z13d := z13c.symm; clear z13)); (try (have z14 := Holds5.beside D4p.out.1 C3.out.1 t43 (.slice A1 (n + 1) c1); have z14a := z14.1; have z14b := z14.2; have z14c := Holds5.apart D4p.out.1 C3.out.1 t43; have z14d := z14c.symm; clear z14)); (try (have z15 := Holds5.beside C4.out.1 C3p.out.1 t43 (.slice A1 (n + 1) c1); have z15a := z15.1; have z15b := z15.2; have z15c := Holds5.apart C4.out.1 C3p.out.1 t43; have z15d := z15c.symm; clear z15)); (try (have z16 := Holds5.beside C4p.out.1 C3p.out.1 t43 (.slice A1 (n + 1) c1); have z16a := z16.1; have z16b := z16.2; have z16c := Holds5.apart C4p.out.1 C3p.out.1 t43; have z16d := z16c.symm; clear z16)); (try (have z17 := Holds5.beside D4.out.1 C3p.out.1 t43 (.slice A1 (n + 1) c1); have z17a := z17.1; have z17b := z17.2; have z17c := Holds5.apart D4.out.1 C3p.out.1 t43; have z17d := z17c.symm; clear z17)); (try (have z18 := Holds5.beside D4p.out.1 C3p.out.1 t43 (.slice A1 (n + 1) c1); have z18a := z18.1; have z18b := z18.2; have z18c := Holds5.apart D4p.out.1 C3p.out.1 t43; have z18d := z18c.symm; clear z18)); (try (have z19 := Holds5.beside C4.out.1 D3.out.1 t43 (.slice A1 (n + 1) c1); have z19a := z19.1; have z19b := z19.2; have z19c := Holds5.apart C4.out.1 D3.out.1 t43; have z19d := z19c.symm; clear z19)); (try (have z20 := Holds5.beside C4p.out.1 D3.out.1 t43 (.slice A1 (n + 1) c1); have z20a := z20.1; have z20b := z20.2; have z20c := Holds5.apart C4p.out.1 D3.out.1 t43; have z20d := z20c.symm; clear z20)); (try (have z21 := Holds5.beside D4.out.1 D3.out.1 t43 (.slice A1 (n + 1) c1); have z21a := z21.1; have z21b := z21.2; have z21c := Holds5.apart D4.out.1 D3.out.1 t43; have z21d := z21c.symm; clear z21)); (try (have z22 := Holds5.beside D4p.out.1 D3.out.1 t43 (.slice A1 (n + 1) c1); have z22a := z22.1; have z22b := z22.2; have z22c := Holds5.apart D4p.out.1 D3.out.1 t43; have z22d := z22c.symm; clear z22)); (try (have z23 := Holds5.beside C4.out.1 D3p.out.1 t43 (.slice A1 (n + 1) c1); have z23a := z23.1; have z23b := z23.2; have z23c := Holds5.apart C4.out.1 D3p.out.1 t43; have z23d := z23c.symm; clear z23)); (try (have z24 := Holds5.beside C4p.out.1 D3p.out.1 t43 (.slice A1 (n + 1) c1); have z24a := z24.1; have z24b := z24.2; have z24c := Holds5.apart C4p.out.1 D3p.out.1 t43; have z24d := z24c.symm; clear z24)); (try (have z25 := Holds5.beside D4.out.1 D3p.out.1 t43 (.slice A1 (n + 1) c1); have z25a := z25.1; have z25b := z25.2; have z25c := Holds5.apart D4.out.1 D3p.out.1 t43; have z25d := z25c.symm; clear z25)); (try (have z26 := Holds5.beside D4p.out.1 D3p.out.1 t43 (.slice A1 (n + 1) c1); have z26a := z26.1; have z26b := z26.2; have z26c := Holds5.apart D4p.out.1 D3p.out.1 t43; have z26d := z26c.symm; clear z26)); (try (have C4wa := (C4.out.1.alloc (.cells #[.slice A1 (n + 1) c1] 82)).look 0; have C4wb := (C4.out.1.alloc (.cells #[.slice A1 (n + 1) c1] 82)).free 0; simp at C4wa)); (try (have C4pwa := (C4p.out.1.alloc (.cells #[.slice A1 (n + 1) c1] 82)).look 0; have C4pwb := (C4p.out.1.alloc (.cells #[.slice A1 (n + 1) c1] 82)).free 0; simp at C4pwa)); (try (have D4wa := (D4.out.1.alloc (.cells #[.slice A1 (n + 1) c1] 82)).look 0; have D4wb := (D4.out.1.alloc (.cells #[.slice A1 (n + 1) c1] 82)).free 0; simp at D4wa)); (try (have D4pwa := (D4p.out.1.alloc (.cells #[.slice A1 (n + 1) c1] 82)).look 0; have D4pwb := (D4p.out.1.alloc (.cells #[.slice A1 (n + 1) c1] 82)).free 0; simp at D4pwa)); have hs4 := hg4.size; (try simp only [size_drewD, World.size_alloc] at hs4); clear ho2 hg4))
    all_goals (go_wp2_with fail; go_meet; (with_reducible first | exact ⟨_, _, _, _, rfl, rfl, end_a HWG.out HCG.out HG4.out HX4.out R14.out R2.out⟩ | exact ⟨_, _, _, _, rfl, rfl, end_b HWG.out HCG.out HG4.out HX4.out R14.out R2.out⟩ | exact ⟨_, _, _, _, rfl, rfl, end_c HWG.out HCG.out HG4.out HX4.out R14.out R2.out C3.out⟩ | exact ⟨_, _, _, _, rfl, rfl, end_c HWG.out HCG.out HG4.out HX4.out R14.out R2.out C3p.out⟩ | exact ⟨_, _, _, _, rfl, rfl, end_c HWG.out HCG.out HG4.out HX4.out R14.out R2.out D3.out⟩ | exact ⟨_, _, _, _, rfl, rfl, end_c HWG.out HCG.out HG4.out HX4.out R14.out R2.out D3p.out⟩ | exact ⟨_, _, _, _, rfl, rfl, end_e HWG.out HCG.out HG4.out HX4.out R14.out R2.out C4.out⟩ | exact ⟨_, _, _, _, rfl, rfl, end_e HWG.out HCG.out HG4.out HX4.out R14.out R2.out C4p.out⟩ | exact ⟨_, _, _, _, rfl, rfl, end_e HWG.out HCG.out HG4.out HX4.out R14.out R2.out D4.out⟩ | exact ⟨_, _, _, _, rfl, rfl, end_e HWG.out HCG.out HG4.out HX4.out R14.out R2.out D4p.out⟩ | exact ⟨_, _, _, _, rfl, rfl, end_d HWG.out HCG.out HG4.out HX4.out R14.out R2.out C3.out C4.out⟩ | exact ⟨_, _, _, _, rfl, rfl, end_d HWG.out HCG.out HG4.out HX4.out R14.out R2.out C3.out C4p.out⟩ | exact ⟨_, _, _, _, rfl, rfl, end_d HWG.out HCG.out HG4.out HX4.out R14.out R2.out C3.out D4.out⟩ | exact ⟨_, _, _, _, rfl, rfl, end_d HWG.out HCG.out HG4.out HX4.out R14.out R2.out C3.out D4p.out⟩ | exact ⟨_, _, _, _, rfl, rfl, end_d HWG.out HCG.out HG4.out HX4.out R14.out R2.out C3p.out C4.out⟩ | exact ⟨_, _, _, _, rfl, rfl, end_d HWG.out HCG.out HG4.out HX4.out R14.out R2.out C3p.out C4p.out⟩ | exact ⟨_, _, _, _, rfl, rfl, end_d HWG.out HCG.out HG4.out HX4.out R14.out R2.out C3p.out D4.out⟩ | exact ⟨_, _, _, _, rfl, rfl, end_d HWG.out HCG.out HG4.out HX4.out R14.out R2.out C3p.out D4p.out⟩ | exact ⟨_, _, _, _, rfl, rfl, end_d HWG.out HCG.out HG4.out HX4.out R14.out R2.out D3.out C4.out⟩ | exact ⟨_, _, _, _, rfl, rfl, end_d HWG.out HCG.out HG4.out HX4.out R14.out R2.out D3.out C4p.out⟩ | exact ⟨_, _, _, _, rfl, rfl, end_d HWG.out HCG.out HG4.out HX4.out R14.out R2.out D3.out D4.out⟩ | exact ⟨_, _, _, _, rfl, rfl, end_d HWG.out HCG.out HG4.out HX4.out R14.out R2.out D3.out D4p.out⟩ | exact ⟨_, _, _, _, rfl, rfl, end_d HWG.out HCG.out HG4.out HX4.out R14.out R2.out D3p.out C4.out⟩ | exact ⟨_, _, _, _, rfl, rfl, end_d HWG.out HCG.out HG4.out HX4.out R14.out R2.out D3p.out C4p.out⟩ | exact ⟨_, _, _, _, rfl, rfl, end_d HWG.out HCG.out HG4.out HX4.out R14.out R2.out D3p.out D4.out⟩ | exact ⟨_, _, _, _, rfl, rfl, end_d HWG.out HCG.out HG4.out HX4.out R14.out R2.out D3p.out D4p.out⟩))
  case rest =>
    obtain ⟨b3, b4, v1, v2, rfl, rfl, hD⟩ := hcut
    have HD := shade hD
    have q0 := hD.pbox.look 0
    simp at q0
    obtain ⟨A1, c1, rfl, hb1⟩ := own_bols hD.row1
    obtain ⟨A2, c2, rfl, hn2⟩ := own_nums hD.row2
    have HU := shade (show (Holds5 wc w.heap.size 46 #[.slice A n c] ∧ Holds5 wc b3 82 #[.slice A1 (n + 1) c1]) ∧ (Holds5 wc b4 25 #[.slice A2 (n + 1) c2] ∧ (Bols wc A1 (n + 1) f ∧ Nums wc A2 (n + 1) gx)) from ⟨⟨hD.pbox, hD.box3⟩, hD.box4, hb1, hn2⟩)
    have HLO := shade (Low.and (Low.and (low_holds (B := wc.heap.size) (t := 46) (cs := #[.slice A n c]) hD.pbox.inside) (low_holds (t := 82) (cs := #[.slice A1 (n + 1) c1]) hD.box3.inside)) (Low.and (low_holds (t := 25) (cs := #[.slice A2 (n + 1) c2]) hD.box4.inside) (Low.and (low_bols _ A1 (n + 1) f (bols_lt hb1)) (low_nums _ A2 (n + 1) gx (nums_lt hn2)))))
    clear hD HR HL HG0 HX0 HZ0 HWG HCG hb1 hn2
    go_wp2_with fail
    refine (without_any A n c 78 #[.pointer (some ⟨w.heap.size, 0, none⟩), .pointer (some ⟨b3, 0, none⟩), .pointer (some ⟨b4, 0, none⟩)] F (kpD F n f gx) _ wc HV.out HD.out.wt HD.out.code HU.out HLO.out (enters_of Tryd.func78 (by kernel_rfl) rfl) (fun x W hu hwt hco hx => dropD_cl A A1 A2 n c c1 c2 w.heap.size b3 b4 x F f gx W HV.out hwt hco hx hu.1.1 hu.1.2 hu.2.1 hu.2.2.1 hu.2.2.2)).mono ?_
    rintro e w5 ⟨v5, rfl, ho5, hg5⟩
    have HO := shade (CodeRes.after HD.out.low (show CodeRes (ctK (kpD F n f gx) n) (koP F (kpD F n f gx) n) wc (.returned v5) w5 from ⟨v5, rfl, ho5, hg5⟩))
    clear ho5 hg5
    go_wp2_with fail
    go_ret
    exact HO.out
end Go.Proofs.YtjeflaodeafhbaaDoor
