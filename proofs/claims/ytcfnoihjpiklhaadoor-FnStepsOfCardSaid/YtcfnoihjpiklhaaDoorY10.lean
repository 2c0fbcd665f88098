/- The model's steps and jumps of a run. -/
import Derived.Test.YtcfnoihjpiklhaaDoorG94
import Derived.Test.YtcfnoihjpiklhaaDoorW110
import Derived.Test.YtcfnoihjpiklhaaDoorG60
import Derived.Test.YtcfnoihjpiklhaaDoorW720d
namespace Go.Proofs.YtcfnoihjpiklhaaDoor
open Go.RowKit
set_option linter.unusedSimpArgs false
theorem info4b : (Tryd.prog.info? 4).map (fun i => (i.zero, i.size, i.bytes)) = some (some (.bool false), 1, 1) := by kernel_rfl
theorem bool_new (w : World) (t : TypeId) (x : Bool) : ∀ j u, ([.bool x] : List Value)[j]? = some u → (w.alloc (.cells #[.bool x] t)).cell? ((⟨w.heap.size, 0, none⟩ : Addr).add j) = some u := by
  intro j u h
  rw [Addr.add_lit, Nat.zero_add, World.cell?_alloc_new]
  simpa using h
theorem bool_one (x : Bool) : ∀ u ∈ ([.bool x] : List Value), u.oneCell' = true := by
  intro u hu
  simp only [List.mem_cons, List.not_mem_nil, or_false] at hu
  rw [hu]
  rfl
theorem bolL_snoc' (k : Nat) (f : Nat → Bool) (x : Bool) (hx : f k = x) : bolL k f ++ [.bool x] = bolL (k + 1) f := by
  rw [← hx]
  unfold bolL
  rw [List.range_succ, List.map_append]
  rfl
theorem codeL_snoc' (k : Nat) (f : Nat → Ins) (c : Ins) (hc : f k = c) : codeL k f ++ [.string c.op, .int .i64 c.d, .int .i64 c.a, .int .i64 c.b, .int .i64 c.k] = codeL (k + 1) f := by
  rw [codeL_snoc k f c]
  refine codeL_congr _ _ _ fun j hj => ?_
  by_cases e : j = k
  · rw [if_pos e, e, hc]
  · rw [if_neg e]
/-- The instruction at a state, and whether it jumps. -/
def insS (F : Nat → Ins) (t : Sta) : Ins := F t.at'.toNat
def jmS (F : Nat → Ins) (t : Sta) : Bool := ((F t.at'.toNat).op.toList == [106, 109, 112]) || (((F t.at'.toNat).op.toList == [98, 122]) && (t.r (raOf F t.at') == 0))
/-- What a call leaves that makes a row of instructions and one of Booleans. -/
def StpRes (k : Nat) (G : Nat → Ins) (J : Nat → Bool) (w : World) (e : Ending) (w' : World) : Prop :=
  ∃ v1 v2, e = .returned (.tuple #[v1, v2]) ∧ w'.ownsRow w.heap.size 37 5 v1 k (codeL k G) ∧ w'.ownsRow w.heap.size 4 1 v2 k (bolL k J) ∧ w.grownBy w' none
/-- What stands while the model's states go on: the machine, and both rows. -/
structure StO (w wr : World) (F : Nat → Ins) (s : Sta) (i : Nat) (v1 v2 : Value) (b1 o1 c1 b2 o2 c2 : Nat) : Prop where
  m1 : MoO w wr (w.heap.size + 1) F s i v1 (codeL i (fun j => insS F (sN F s j))) 37 5 i b1 o1 c1 b2 o2 c2
  o2 : wr.ownsRow (w.heap.size + 1) 4 1 v2 i (bolL i (fun j => jmS F (sN F s j)))
  sv : ∀ j, v2.ownBlock = some j → j ≠ b1 ∧ j ≠ b2
section
variable {w wr w2 w9 w10 w11 : World} {F : Nat → Ins} {s : Sta} {i : Nat} {v1 v2 u1 u2 : Value} {b1 o1 c1 b2 o2 c2 : Nat}
theorem StO.on (h : StO w wr F s i v1 v2 b1 o1 c1 b2 o2 c2) (hg : wr.grownBy w2 none) : StO w w2 F s i v1 v2 b1 o1 c1 b2 o2 c2 := ⟨h.m1.on hg, ownsRow_on h.o2 hg, h.sv⟩
theorem kept_ty {W W' : World} {B B' : Nat} {e e' : TypeId} {z z' : Nat} {v v' : Value} {n n' : Nat} {xs xs' : List Value} (h : W.ownsRow B e z v n xs) (h' : W.ownsRow B' e' z' v' n' xs') (ht : e ≠ e') (hg : W.grownBy W' v.ownBlock) : W'.ownsRow B' e' z' v' n' xs' := by
  rcases eb : v.ownBlock with _ | b
  · rw [eb] at hg
    exact ownsRow_on h' hg
  · exact World.ownsRow.kept h' hg (.inr (by rw [eb]; exact rows_other h h' ht eb))
theorem StO.round (h : StO w wr F s i v1 v2 b1 o1 c1 b2 o2 c2) (hg : wr.grownBy w9 none) {g1 d1 g2 d2 : Nat}
    (a1 : Own w9 wr.heap.size (some ⟨g1, 0, none⟩) 4 d1 (sNext F (sN F s i)).r) (a2 : Own w9 wr.heap.size (some ⟨g2, 0, none⟩) 8 d2 (sNext F (sN F s i)).m)
    (p1 : w10.ownsRow (w.heap.size + 1) 37 5 u1 (i + 1) (codeL (i + 1) (fun j => insS F (sN F s j)))) (q1 : w9.grownBy w10 v1.ownBlock) (r1 : ∀ j, u1.ownBlock = some j → v1.ownBlock = some j ∨ w9.heap.size ≤ j)
    (p2 : w11.ownsRow (w.heap.size + 1) 4 1 u2 (i + 1) (bolL (i + 1) (fun j => jmS F (sN F s j)))) (q2 : w10.grownBy w11 v2.ownBlock) :
    StO w (((w11.setCell ⟨w.heap.size, 0, none⟩ (.int .i64 (sNext F (sN F s i)).at')).setCell ⟨w.heap.size, 1, none⟩ (.slice (some ⟨g1, 0, none⟩) 4 d1)).setCell ⟨w.heap.size, 2, none⟩ (.slice (some ⟨g2, 0, none⟩) 8 d2)) F s (i + 1) u1 u2 g1 0 d1 g2 0 d2 := by
  have m9 := h.m1.on hg
  have o9 := ownsRow_on h.o2 hg
  have m10 := m9.app p1 q1 r1
  have o10 := kept_ty m9.own o9 (by decide) q1
  have a110 : Own w10 wr.heap.size (some ⟨g1, 0, none⟩) 4 d1 (sNext F (sN F s i)).r := kept_ty m9.own a1 (by decide) q1
  have a210 : Own w10 wr.heap.size (some ⟨g2, 0, none⟩) 8 d2 (sNext F (sN F s i)).m := kept_ty m9.own a2 (by decide) q1
  have p111 := kept_ty o10 p1 (by decide) q2
  have a111 : Own w11 wr.heap.size (some ⟨g1, 0, none⟩) 4 d1 (sNext F (sN F s i)).r := kept_ty o10 a110 (by decide) q2
  have a211 : Own w11 wr.heap.size (some ⟨g2, 0, none⟩) 8 d2 (sNext F (sN F s i)).m := kept_ty o10 a210 (by decide) q2
  have hw := h.m1.box.inside
  have hl1 := a111.lt
  have hl2 := a211.lt
  have hB := h.m1.sep
  have b11 := m10.box.grown q2 (fun e => by have := (World.ownsRow.lt o10 _ e.symm).1; omega)
  have low11 := grown_row m10.low q2 (fun j e => by have := (World.ownsRow.lt o10 j e).1; omega)
  have hgs := grown_set3 w11 w.heap.size (.int .i64 (sNext F (sN F s i)).at') (.slice (some ⟨g1, 0, none⟩) 4 d1) (.slice (some ⟨g2, 0, none⟩) 8 d2)
  have hb := ((b11.put 0 (.int .i64 (sNext F (sN F s i)).at')).put 1 (.slice (some ⟨g1, 0, none⟩) 4 d1)).put 2 (.slice (some ⟨g2, 0, none⟩) 8 d2)
  simp at hb
  refine ⟨⟨World.ownsRow.kept p111 hgs (.inr fun e => ?_), hb, a111.nums.grown hgs ?_, a211.nums.grown hgs ?_, ⟨by omega, by omega⟩, fun j hj => ⟨fun e => ?_, fun e => ?_⟩, grown_then low11 hgs (Nat.le_refl _), Nat.le_trans m10.big (Nat.le_trans q2.size hgs.size), hB⟩, World.ownsRow.kept p2 hgs (.inr fun e => ?_), fun j hj => ⟨fun e => ?_, fun e => ?_⟩⟩
  · have := (World.ownsRow.lt p111 _ e).1
    omega
  · intro b off e e'
    injection e with e; injection e with e; injection e' with e'
    omega
  · intro b off e e'
    injection e with e; injection e with e; injection e' with e'
    omega
  · exact rows_other p111 a111 (by decide) hj (by rw [e]; rfl)
  · exact rows_other p111 a211 (by decide) hj (by rw [e]; rfl)
  · have := (World.ownsRow.lt p2 _ e).1
    omega
  · exact rows_other p2 a111 (by decide) hj (by rw [e]; rfl)
  · exact rows_other p2 a211 (by decide) hj (by rw [e]; rfl)
end
set_option maxRecDepth 100000 in
set_option maxHeartbeats 16000000 in
theorem stepsOf_yes (A : Option Addr) (len cap : Nat) (F : Nat → Ins) (s : Sta) (b1 o1 c1 b2 o2 c2 : Nat) (fuel : Nat) (w : World) (hC : Code w A len F) (h1 : Nums w (some ⟨b1, o1, none⟩) 4 s.r) (h2 : Nums w (some ⟨b2, o2, none⟩) 8 s.m) (hv : vcB len F = true) (hm : vmB s.at' 4 8 s.r s.m = true) (hf : fuel ≤ 300) :
    Calls Tryd.prog 31 #[.slice A len cap, MV s.at' (some ⟨b1, o1, none⟩) 4 c1 (some ⟨b2, o2, none⟩) 8 c2, .int .i64 fuel] w (fun e w' => ∃ k, RunEnd len F s fuel k ∧ StpRes k (fun j => insS F (sN F s j)) (fun j => jmS F (sN F s j)) w e w') := by
  have hl1 : b1 < w.heap.size := by
    rcases h1 with e1 | ⟨_, _, e1, l1, _⟩
    · omega
    · injection e1 with e1; injection e1 with e1
      subst e1
      exact l1
  have hl2 : b2 < w.heap.size := by
    rcases h2 with e1 | ⟨_, _, e1, l1, _⟩
    · omega
    · injection e1 with e1; injection e1 with e1
      subst e1
      exact l1
  have hga := World.grownBy_alloc w (.cells #[.int .i64 s.at', .slice (some ⟨b1, o1, none⟩) 4 c1, .slice (some ⟨b2, o2, none⟩) 8 c2] 26) none
  have hE := Holds5.fresh w 26 #[.int .i64 s.at', .slice (some ⟨b1, o1, none⟩) 4 c1, .slice (some ⟨b2, o2, none⟩) 8 c2]
  have hz : (w.alloc (.cells #[.int .i64 s.at', .slice (some ⟨b1, o1, none⟩) 4 c1, .slice (some ⟨b2, o2, none⟩) 8 c2] 26)).heap.size = w.heap.size + 1 := by simp
  have HC0 := shade hC
  have HV := shade hv
  have h40 : len ≤ 40 := by
    have hv2 := hv
    simp only [vcB, Bool.and_eq_true, decide_eq_true_eq] at hv2
    exact hv2.2
  have HOK := shade (okS_of hm)
  have HS := shade (show StO w (((w.alloc (.cells #[.int .i64 s.at', .slice (some ⟨b1, o1, none⟩) 4 c1, .slice (some ⟨b2, o2, none⟩) 8 c2] 26)).alloc (.cells #[] 37)).alloc (.cells #[] 4)) F s 0 (.slice (some ⟨w.heap.size + 1, 0, none⟩) 0 0) (.slice (some ⟨w.heap.size + 1 + 1, 0, none⟩) 0 0) b1 o1 c1 b2 o2 c2 from by
    have hb2 := World.grownBy_alloc (w.alloc (.cells #[.int .i64 s.at', .slice (some ⟨b1, o1, none⟩) 4 c1, .slice (some ⟨b2, o2, none⟩) 8 c2] 26)) (.cells #[] 37) none
    have hb3 := World.grownBy_alloc ((w.alloc (.cells #[.int .i64 s.at', .slice (some ⟨b1, o1, none⟩) 4 c1, .slice (some ⟨b2, o2, none⟩) 8 c2] 26)).alloc (.cells #[] 37)) (.cells #[] 4) none
    have w1 := World.ownsRow_lit (base := w.heap.size + 1) (e := 37) (size := 5) (w.alloc (.cells #[.int .i64 s.at', .slice (some ⟨b1, o1, none⟩) 4 c1, .slice (some ⟨b2, o2, none⟩) 8 c2] 26)) #[] 0 (by omega) (by decide) rfl
    have w2 := World.ownsRow_lit (base := w.heap.size + 1) (e := 4) (size := 1) ((w.alloc (.cells #[.int .i64 s.at', .slice (some ⟨b1, o1, none⟩) 4 c1, .slice (some ⟨b2, o2, none⟩) 8 c2] 26)).alloc (.cells #[] 37)) #[] 0 (by simp) (by decide) rfl
    rw [hz] at w1
    rw [World.size_alloc, hz] at w2
    exact ⟨⟨ownsRow_on w1 hb3, (hE.alloc _).alloc _, (h1.on hga).on (grown_same hb2 hb3), (h2.on hga).on (grown_same hb2 hb3), ⟨by omega, by omega⟩, (fun j e => by
      obtain rfl : w.heap.size + 1 = j := by injection e
      omega), grown_same hga (grown_same hb2 hb3), by simp, Nat.lt_succ_self _⟩, w2, fun j e => by
      obtain rfl : w.heap.size + 1 + 1 = j := by injection e
      omega⟩)
  clear hga hE hC h1 h2 hv hm hl1 hl2
  go_enter Tryd.func31, Tryd.ntmps31
  go_wp2_with fail
  go_loopw [8, 9] (fun v u wr => ∃ (i b1 o1 c1 b2 o2 c2 : Nat), i ≤ fuel ∧ (∀ j, j < i → sHalt len F (sN F s j) = false) ∧ StO w wr F s i v u b1 o1 c1 b2 o2 c2) (fun v _ _ => fuel - lenOf v)
  case atStart => exact ⟨0, b1, o1, c1, b2, o2, c2, Nat.zero_le _, fun j hj => absurd hj (Nat.not_lt_zero j), HS.out⟩
  case round =>
    clear HS
    obtain ⟨i, m1, l1, k1, m2, l2, k2, hi, hgo, hs⟩ := hrel
    obtain ⟨A4, c4, rfl, -⟩ := ownsRow_slice hs.m1.own
    obtain ⟨A5, c5, rfl, -⟩ := ownsRow_slice hs.o2
    have hok := HOK.out.run HV.out i hgo
    have he : (((sN F s i).at'.toNat : Nat) : Int) = (sN F s i).at' := Int.toNat_of_nonneg hok.lo
    have hc2 : Code wr A len F := HC0.out.on hs.m1.low
    have HHA := shade (halted_any A len cap (sN F s i).at'.toNat F wr hc2 h40)
    rw [he] at HHA
    have x0 := hs.m1.box.look 0; have x1 := hs.m1.box.look 1; have x2 := hs.m1.box.look 2
    simp at x0 x1 x2
    have HGO := shade hgo
    have H5 := shade hs
    have HK := shade hok
    clear hs hgo hc2 he
    by_cases hif : i < fuel
    · rcases hh : haltB len F (sN F s i).at'.toNat with _ | _
      · have hh2 : sHalt len F (sN F s i) = false := hh
        have HH := shade hh2
        rw [hh] at HHA
        clear hh
        obtain ⟨tt, ht⟩ : ∃ tt, sN F s i = tt := ⟨_, rfl⟩
        have n1 := H5.out.m1.n1
        rw [ht] at hok hh2 x0 HHA n1
        have HT := shade ht
        obtain ⟨hlt, _⟩ := halt_parts hh2
        obtain ⟨h40', ⟨rr1, rr2, rr3⟩, ⟨kk0, kk1⟩, hw, h9, hF⟩ := ins_parts HV.out hlt
        obtain ⟨ra0, ra1⟩ := hok.r _ rr2
        have hjm : jmS F tt = ((((F tt.at'.toNat).op.toList == [106, 109, 112])) || (((F tt.at'.toNat).op.toList == [98, 122]) && (tt.r (raOf F tt.at') == 0))) := rfl
        have hin : insS F tt = F tt.at'.toNat := rfl
        obtain ⟨m, hm⟩ := Int.eq_ofNat_of_zero_le hok.lo
        rw [hm] at hlt hF rr2 ra0 ra1 kk0 kk1 x0 HHA
        rw [hm] at hjm hin
        rw [Int.toNat_natCast] at hlt hF hjm hin
        generalize raOf F (m : Int) = ra at *
        generalize rbOf F (m : Int) = rb at *
        generalize rdOf F (m : Int) = rd at *
        generalize kOf F (m : Int) = k5 at *
        obtain ⟨op, hop⟩ : ∃ op, (F m).op = op := ⟨_, rfl⟩
        rw [hop] at hF hjm
        obtain ⟨bc, oc, rfl, -⟩ := (HC0.out.on H5.out.m1.low).resolve_left (by omega)
        have q5 := (HC0.out.on H5.out.m1.low).five hlt
        rw [hF] at q5 hin
        simp only [] at q5
        obtain ⟨q0, q1, q2, q3, q4⟩ := q5
        have xa := n1.cell rr2
        have HJM := shade hjm
        have HIN := shade hin
        have hm40 : m < 40 := by omega
        have iA : (ra : Int) < 4 := by omega
        have iA0 : (0 : Int) ≤ (ra : Int) := by omega
        clear hok hh2 hw h9 hF hm hop hjm hin rr1 rr3 h40' ht n1
        go_wp2_with fail
        refine HHA.out.mono ?_
        rintro e w' ⟨rfl, rfl⟩
        clear HHA
        go_upto_region 5 with (fail)
        have hga := World.grownBy_alloc wr (.cells #[.string op, .int .i64 rd, .int .i64 ra, .int .i64 rb, .int .i64 k5] 37) none
        have hE5 := Holds5.fresh wr 37 #[.string op, .int .i64 rd, .int .i64 ra, .int .i64 rb, .int .i64 k5]
        obtain ⟨W5, hW5⟩ : ∃ W5, wr.alloc (.cells #[.string op, .int .i64 rd, .int .i64 ra, .int .i64 rb, .int .i64 k5] 37) = W5 := ⟨_, rfl⟩
        rw [hW5] at hga hE5 ⊢
        have H6 := shade (H5.out.on hga)
        have HE5 := shade hE5
        have HGA := shade hga
        have hsz5 : wr.heap.size ≤ W5.heap.size := hga.size
        have HQ := shade (fun j (e : (Value.slice A4 i c4).ownBlock = some j) => (World.ownsRow.lt H5.out.m1.own j e).2)
        have HQ2 := shade (fun j (e : (Value.slice A5 i c5).ownBlock = some j) => (World.ownsRow.lt H5.out.o2 j e).2)
        clear hga hE5 hW5 x0 x1 x2 xa q0 q1 q2 q3 q4 H5
        have x0 := H6.out.m1.box.look 0; have x1 := H6.out.m1.box.look 1; have x2 := H6.out.m1.box.look 2
        simp at x0 x1 x2
        go_wp2_with fail
        refine (specStep_yes _ len cap F (sN F s i) m1 l1 k1 m2 l2 k2 _ (HC0.out.on H6.out.m1.low) HV.out HK.out HH.out H6.out.m1.n1 H6.out.m1.n2).mono ?_
        rintro e wS ⟨g1, d1, g2, d2, rfl, hne, ho1, ho2, hgr⟩
        have hszS := hgr.size
        have HES := shade (HE5.out.grown hgr (by intro e; cases e))
        clear x0 x1 x2
        go_upto_region 6 with (fail)
        have hgn := World.grownBy_alloc wS (.cells #[.int .i64 (sNext F (sN F s i)).at', .slice (some ⟨g1, 0, none⟩) 4 d1, .slice (some ⟨g2, 0, none⟩) 8 d2] 26) none
        have hNX := Holds5.fresh wS 26 #[.int .i64 (sNext F (sN F s i)).at', .slice (some ⟨g1, 0, none⟩) 4 d1, .slice (some ⟨g2, 0, none⟩) 8 d2]
        obtain ⟨w9, hW9⟩ : ∃ w9, wS.alloc (.cells #[.int .i64 (sNext F (sN F s i)).at', .slice (some ⟨g1, 0, none⟩) 4 d1, .slice (some ⟨g2, 0, none⟩) 8 d2] 26) = w9 := ⟨_, rfl⟩
        rw [hW9] at hgn hNX ⊢
        have H9 := shade (H6.out.on (grown_same hgr hgn))
        have HR9 := shade (grown_same hgr hgn)
        have HO1 := shade (show Own w9 W5.heap.size (some ⟨g1, 0, none⟩) 4 d1 (sNext F (sN F s i)).r from ownsRow_on ho1 hgn)
        have HO2 := shade (show Own w9 W5.heap.size (some ⟨g2, 0, none⟩) 8 d2 (sNext F (sN F s i)).m from ownsRow_on ho2 hgn)
        have hE9 := HES.out.grown hgn (by intro e; cases e)
        have HE9 := shade hE9
        have hsz9 := hgn.size
        have HNX := shade hNX
        clear hgn hNX hW9
        clear hgr ho1 ho2
        have y0 := hE9.look 0; have y1 := hE9.look 1; have y2 := hE9.look 2; have y3 := hE9.look 3; have y4 := hE9.look 4
        simp at y0 y1 y2 y3 y4
        clear hE9
        have hin2 : insS F (sN F s i) = ⟨op, rd, ra, rb, k5⟩ := by rw [HT.out]; exact HIN.out
        have HIN2 := shade hin2
        have hjm2 : jmS F (sN F s i) = ((op.toList == [106, 109, 112]) || ((op.toList == [98, 122]) && (tt.r ra == 0))) := by rw [HT.out]; exact HJM.out
        have HJM2 := shade hjm2
        clear hin2 hjm2
        obtain ⟨i0, hi0, hz0, hz1, hz2⟩ := info_parts info24
        go_wp2_with (first
          | (at_builtin; refine wpList_append_own_at _ rfl _ _ 23 rfl (w.heap.size + 1) 37 i0 (.agg #[.string ⟨#[]⟩, .int .i64 0, .int .i64 0, .int .i64 0, .int .i64 0]) 5 48 Tryd.underlying23 hi0 hz0 hz1 hz2 rfl (by decide) _ _ _ rfl (World.ownsRow.alloc H9.out.m1.own _) ⟨w9.heap.size, 0, none⟩ 1 1 [.string op, .int .i64 rd, .int .i64 ra, .int .i64 rb, .int .i64 k5] rfl rfl (cells_new _ _ _ _ _ _ _) (one_cells _ _ _ _ _) (by unfold maxLen; omega) (by omega) (by have := H9.out.m1.big; simp; omega) ?_)
          | go_in)
        intro v8 w8 hown8 hgr8 hnil8 hat8
        rw [codeL_snoc' i (fun j => insS F (sN F s j)) ⟨op, rd, ra, rb, k5⟩ HIN2.out] at hown8
        have hga9 := World.grownBy_alloc w9 (.cells #[.string op, .int .i64 rd, .int .i64 ra, .int .i64 rb, .int .i64 k5] 37) none
        have HP1 := shade hown8
        have HQ1 := shade (show w9.grownBy w8 (Value.slice A4 i c4).ownBlock from grown_same (World.grownBy_alloc w9 (.cells #[.string op, .int .i64 rd, .int .i64 ra, .int .i64 rb, .int .i64 k5] 37) _) hgr8)
        have HR1 := shade (show ∀ j, v8.ownBlock = some j → (Value.slice A4 i c4).ownBlock = some j ∨ w9.heap.size ≤ j from fun j hj => by
          (try simp only [World.size_alloc] at hat8)
          rcases hat8 with e | e
          · rw [hj] at e
            exact .inl e.symm
          · rw [hj] at e
            injection e with e
            exact .inr (by omega))
        obtain ⟨A8, c8, rfl, -⟩ := ownsRow_slice hown8
        have M8 := shade (((H9.out.m1.on (World.grownBy_alloc w9 (.cells #[.string op, .int .i64 rd, .int .i64 ra, .int .i64 rb, .int .i64 k5] 37) none)).app hown8 hgr8 (fun j hj => by
          (try simp only [World.size_alloc] at hat8)
          (try simp only [World.size_alloc])
          rcases hat8 with e | e
          · rw [hj] at e
            exact .inl e.symm
          · rw [hj] at e
            injection e with e
            exact .inr (by omega))))
        have hE8 := (HE9.out.alloc (.cells #[.string op, .int .i64 rd, .int .i64 ra, .int .i64 rb, .int .i64 k5] 37)).grown hgr8 (fun e => by
          have := HQ.out _ e.symm
          omega)
        have HNX8 := shade ((HNX.out.alloc (.cells #[.string op, .int .i64 rd, .int .i64 ra, .int .i64 rb, .int .i64 k5] 37)).grown hgr8 (fun e => by
          have := HQ.out _ e.symm
          omega))
        have HO8 := shade (kept_ty H9.out.m1.own H9.out.o2 (by decide) HQ1.out)
        have hsz8 := HQ1.out.size
        clear hown8 hgr8 hnil8 hat8 hga9 y0 y1 y2 y3 y4
        have y0 := hE8.look 0; have y1 := hE8.look 1; have y2 := hE8.look 2; have y3 := hE8.look 3; have y4 := hE8.look 4
        simp at y0 y1 y2 y3 y4
        clear hE8
        have x0 := M8.out.box.look 0; have x1 := M8.out.box.look 1; have x2 := M8.out.box.look 2
        simp at x0 x1 x2
        have xa := M8.out.n1.cell rr2
        rw [HT.out] at xa
        obtain ⟨j0, hj0, hy0, hy1, hy2⟩ := info_parts info4b
        obtain ⟨jv, hjv⟩ : ∃ jv, jmS F (sN F s i) = jv := ⟨_, rfl⟩
        have HJV := shade hjv
        have hjv2 := HJM2.out
        rw [hjv] at hjv2
        clear hjv
        rcases e1 : (op.toList == [98, 122]) with _ | _
        all_goals rcases e2 : (op.toList == [106, 109, 112]) with _ | _
        all_goals
          rw [e1, e2] at hjv2
          simp only [Bool.false_or, Bool.true_or, Bool.false_and, Bool.true_and] at hjv2
          subst hjv2
          go_wp2_with (first
            | (at_builtin; refine wpList_append_own_at _ rfl _ _ 29 rfl (w.heap.size + 1) 4 j0 (.bool false) 1 1 Tryd.underlying29 hj0 hy0 hy1 hy2 rfl (by decide) _ _ _ rfl (World.ownsRow.alloc HO8.out _) ⟨w8.heap.size, 0, none⟩ 1 1 [.bool _] rfl rfl (bool_new _ _ _) (bool_one _) (by unfold maxLen; omega) (by omega) (by have := M8.out.big; simp; omega) ?_)
            | go_in)
          intro v7 w7 hown7 hgr7 hnil7 hat7
          rw [bolL_snoc' i (fun j => jmS F (sN F s j)) _ HJV.out] at hown7
          have HP2 := shade hown7
          have HQ3 := shade (show w8.grownBy w7 (Value.slice A5 i c5).ownBlock from grown_same (World.grownBy_alloc w8 _ _) hgr7)
          have hb7 := M8.out.box.grown HQ3.out (fun e => by
            have := (World.ownsRow.lt HO8.out _ e.symm).1
            omega)
          have hn7 := HNX8.out.grown HQ3.out (fun e => by
            have := HQ2.out _ e.symm
            omega)
          have z0' := hn7.look 0; have z1' := hn7.look 1; have z2' := hn7.look 2
          simp at z0' z1' z2'
          have x0' := hb7.look 0; have x1' := hb7.look 1; have x2' := hb7.look 2; have t0 := hb7.free 0; have t1 := hb7.free 1; have t2 := hb7.free 2
          simp at x0' x1' x2'
          have HN := shade (StO.round H6.out HR9.out HO1.out HO2.out HP1.out HQ1.out HR1.out HP2.out HQ3.out)
          have hgx : ∀ j, j < i + 1 → sHalt len F (sN F s j) = false := by
            intro j hj
            by_cases e : j = i
            · rw [e]
              exact HH.out
            · exact HGO.out j (by omega)
          have HGX := shade hgx
          clear hown7 hgr7 hnil7 hat7 hb7 hn7 hgx x0 x1 x2 xa y0 y1 y2 y3 y4
          go_wp2_with fail
          go_roundw
          case rel => exact ⟨i + 1, g1, 0, d1, g2, 0, d2, by omega, HGX.out, HN.out⟩
          case measure => simp [lenOf]; omega
      · rw [hh] at HHA
        go_wp2_with fail
        refine HHA.out.mono ?_
        rintro e w' ⟨rfl, rfl⟩
        clear HHA
        go_wp2_with fail
        go_ret2
        exact ⟨i, ⟨by omega, HGO.out, .inr hh⟩, _, _, rfl, World.ownsRow.mono H5.out.m1.own (by omega), World.ownsRow.mono H5.out.o2 (by omega), H5.out.m1.low⟩
    · go_wp2_with fail
      go_ret2
      exact ⟨i, ⟨by omega, HGO.out, .inl (by omega)⟩, _, _, rfl, World.ownsRow.mono H5.out.m1.own (by omega), World.ownsRow.mono H5.out.o2 (by omega), H5.out.m1.low⟩
end Go.Proofs.YtcfnoihjpiklhaaDoor
