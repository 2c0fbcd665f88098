/- JumpsOf, over whatever runOf leaves. The laws' comparison of programs. What the laws on the steps of a drawn run need. StepsOf answers as its model for what is drawn; the steps are the instructions of the trace, and they jump as told. -/
import Derived.Test.YtcfnoihjpiklhaaDoorW100
import Derived.Test.YtcfnoihjpiklhaaDoorW110
import Derived.Test.YtcfnoihjpiklhaaDoorG60
import Derived.Test.YtcfnoihjpiklhaaDoorW97
import Derived.Test.YtcfnoihjpiklhaaDoorG130
import Derived.Test.YtcfnoihjpiklhaaDoorY17
import Derived.Test.YtcfnoihjpiklhaaDoorY16
import Derived.Test.YtcfnoihjpiklhaaDoorY18
import Derived.IntWalk
import Derived.Deep.QuietTactic
import Derived.BigQuiet
import Derived.Deep.RegionHeld3
namespace Go.Proofs.YtcfnoihjpiklhaaDoor
open Go.RowKit
set_option linter.unusedSimpArgs false
theorem info4 : (Tryd.prog.info? 4).map (fun i => (i.zero, i.size, i.bytes)) = some (some (.bool false), 1, 1) := by kernel_rfl
/-- What a call leaves that makes a row of Booleans. -/
def BolRes (k : Nat) (f : Nat → Bool) (w : World) (e : Ending) (w' : World) : Prop :=
  ∃ v, e = .returned v ∧ w'.ownsRow w.heap.size 4 1 v k (bolL k f) ∧ w.grownBy w' none
/-- Whether a step that may jump does. -/
def jmOpt (F : Nat → Ins) (s : Sta) : List Bool :=
  if nOf F s.at' = 7 then [(s.r (raOf F s.at') == 0)] else []
/-- The cells of the first i states, in order. -/
def jmL (F : Nat → Ins) (g : Nat → Sta) : Nat → List Bool
  | 0 => []
  | i + 1 => jmL F g i ++ jmOpt F (g i)
theorem jmOpt_le (F : Nat → Ins) (s : Sta) : (jmOpt F s).length ≤ 1 := by
  unfold jmOpt
  split
  · exact Nat.le_refl _
  · exact Nat.zero_le _
theorem jmL_le (F : Nat → Ins) (g : Nat → Sta) : ∀ i, (jmL F g i).length ≤ i := by
  intro i
  induction i with
  | zero => exact Nat.le_refl _
  | succ i ih =>
    show (jmL F g i ++ jmOpt F (g i)).length ≤ i + 1
    rw [List.length_append]
    have := jmOpt_le F (g i)
    omega
/-- A list of Booleans as cells. -/
def valB (l : List Bool) : List Value := l.map Value.bool
theorem valB_snoc (l : List Bool) (x : Bool) : valB l ++ [.bool x] = valB (l ++ [x]) := by
  unfold valB
  rw [List.map_append]
  rfl
theorem bolL_list (l : List Bool) : bolL l.length (fun j => l.getD j false) = valB l := by
  unfold bolL valB
  apply List.ext_getElem
  · simp
  · intro i h1 h2
    have hi : i < l.length := by simpa using h1
    simp [hi]
/-- What stands while the cells are put together: those of i states so far. -/
structure JmO (w wr : World) (B R : Nat) (A0 : Option Addr) (l0 c0 : Nat) (A3 : Option Addr) (k : Nat) (g : Nat → Sta) (F : Nat → Ins) (i : Nat) (v : Value) : Prop where
  own : wr.ownsRow B 4 1 v (jmL F g i).length (valB (jmL F g i))
  sta : Stas wr A3 k g
  low : w.grownBy wr none
  big : B ≤ wr.heap.size
  code : wr.cell? ⟨R, 0, none⟩ = some (.slice A0 l0 c0)
section
variable {w wr w7 w7' w8 : World} {B R : Nat} {A0 : Option Addr} {l0 c0 : Nat} {A3 : Option Addr} {k : Nat} {g : Nat → Sta} {F : Nat → Ins} {i : Nat} {v v' : Value}
theorem JmO.app (h : JmO w wr B R A0 l0 c0 A3 k g F i v) (hB : w.heap.size ≤ B) (hR : R < B) (hl : ∀ b off, A3 = some ⟨b, off, none⟩ → b < B) (hg : wr.grownBy w7 none) (ho : w8.ownsRow B 4 1 v' (jmL F g (i + 1)).length (valB (jmL F g (i + 1)))) (hgr : w7.grownBy w8 v.ownBlock) : JmO w w8 B R A0 l0 c0 A3 k g F (i + 1) v' := by
  have ho7 := ownsRow_on h.own hg
  refine ⟨ho, (h.sta.on hg).grown hgr (fun b off e e' => ?_), grown_row (grown_same h.low hg) hgr (fun j e => ?_), Nat.le_trans h.big (Nat.le_trans hg.size hgr.size), hgr.cell (hg.cell h.code (by intro e; cases e)) (fun e => ?_)⟩
  · have h1 := hl b off e
    have h2 := (World.ownsRow.lt ho7 b e'.symm).1
    omega
  · have h2 := (World.ownsRow.lt ho7 j e).1
    omega
  · have h2 := (World.ownsRow.lt ho7 R e.symm).1
    omega
theorem JmO.skip (h : JmO w wr B R A0 l0 c0 A3 k g F i v) (hg : wr.grownBy w7 none) (he : jmL F g (i + 1) = jmL F g i) : JmO w w7 B R A0 l0 c0 A3 k g F (i + 1) v :=
  ⟨by rw [he]; exact ownsRow_on h.own hg, h.sta.on hg, grown_same h.low hg, Nat.le_trans h.big hg.size, hg.cell h.code (by intro e; cases e)⟩
end
set_option maxRecDepth 100000 in
set_option maxHeartbeats 16000000 in
theorem JumpsOf_res (A : Option Addr) (len cap : Nat) (at' : Int) (A1 : Option Addr) (n1 c1 : Nat) (A2 : Option Addr) (n2 c2 : Nat) (fuel : Int) (F : Nat → Ins) (k : Nat) (g : Nat → Sta) (w : World) (hg : WT w) (hC : Code w A len F) (hk : k ≤ 300) (hst : ∀ i, i < k → vcB len F = true ∧ OkS (g i) ∧ sHalt len F (g i) = false) (hR : ∀ W, w.grownBy W none → Calls Tryd.prog 28 #[.slice A len cap, MV at' A1 n1 c1 A2 n2 c2, .int .i64 fuel] W (RunRes A len k g W)) :
    Calls Tryd.prog 11 #[.slice A len cap, MV at' A1 n1 c1 A2 n2 c2, .int .i64 fuel] w (BolRes (jmL F g k).length (fun j => (jmL F g k).getD j false) w) := by
  have HR := shade hR
  have HGW := shade hg
  have HCW := shade hC
  have HST := shade hst
  have HG0 := shade (World.grownBy_alloc w (.cells #[.int .i64 at', .slice A1 n1 c1, .slice A2 n2 c2] 26) none)
  have x0 : (w.alloc (.cells #[.int .i64 at', .slice A1 n1 c1, .slice A2 n2 c2] 26)).cell? ⟨w.heap.size, 0, none⟩ = some (.int .i64 at') := (Holds5.fresh w 26 _).look 0
  have x1 : (w.alloc (.cells #[.int .i64 at', .slice A1 n1 c1, .slice A2 n2 c2] 26)).cell? ⟨w.heap.size, 1, none⟩ = some (.slice A1 n1 c1) := (Holds5.fresh w 26 _).look 1
  have x2 : (w.alloc (.cells #[.int .i64 at', .slice A1 n1 c1, .slice A2 n2 c2] 26)).cell? ⟨w.heap.size, 2, none⟩ = some (.slice A2 n2 c2) := (Holds5.fresh w 26 _).look 2
  clear hR hg hC hst
  go_enter Tryd.func11, Tryd.ntmps11
  go_wp2_with fail
  refine (HR.out _ HG0.out).mono ?_
  rintro e w1 ⟨A0, l0, c0, A3, c3, t, d, b, rfl, hcd, hst, hsep, hgr⟩
  have hg1 := grown_same HG0.out hgr
  have h0 := HG0.out.size
  rw [World.size_alloc] at h0 hsep
  have HCD := shade hcd
  clear HR HG0 x0 x1 x2 hgr hcd
  go_upto_region 2 with (fail)
  have HE := shade (show Holds5 (w1.alloc (.cells #[.slice A0 l0 c0, .slice A3 k c3, .int .i64 t.at', .int .i64 (t.r 0), .int .i64 (t.r 1), .int .i64 (t.r 2), .int .i64 (t.r 3), .int .i64 (t.m 0), .int .i64 (t.m 1), .int .i64 (t.m 2), .int .i64 (t.m 3), .int .i64 (t.m 4), .int .i64 (t.m 5), .int .i64 (t.m 6), .int .i64 (t.m 7), .bool d] 62)) w1.heap.size 62 #[.slice A0 l0 c0, .slice A3 k c3, .int .i64 t.at', .int .i64 (t.r 0), .int .i64 (t.r 1), .int .i64 (t.r 2), .int .i64 (t.r 3), .int .i64 (t.m 0), .int .i64 (t.m 1), .int .i64 (t.m 2), .int .i64 (t.m 3), .int .i64 (t.m 4), .int .i64 (t.m 5), .int .i64 (t.m 6), .int .i64 (t.m 7), .bool d] from Holds5.fresh w1 62 #[.slice A0 l0 c0, .slice A3 k c3, .int .i64 t.at', .int .i64 (t.r 0), .int .i64 (t.r 1), .int .i64 (t.r 2), .int .i64 (t.r 3), .int .i64 (t.m 0), .int .i64 (t.m 1), .int .i64 (t.m 2), .int .i64 (t.m 3), .int .i64 (t.m 4), .int .i64 (t.m 5), .int .i64 (t.m 6), .int .i64 (t.m 7), .bool d])
  have hga := World.grownBy_alloc w1 (.cells #[.slice A0 l0 c0, .slice A3 k c3, .int .i64 t.at', .int .i64 (t.r 0), .int .i64 (t.r 1), .int .i64 (t.r 2), .int .i64 (t.r 3), .int .i64 (t.m 0), .int .i64 (t.m 1), .int .i64 (t.m 2), .int .i64 (t.m 3), .int .i64 (t.m 4), .int .i64 (t.m 5), .int .i64 (t.m 6), .int .i64 (t.m 7), .bool d] 62) none
  have HS := shade (hst.on hga)
  have HG := shade (grown_same hg1 hga)
  have HZ := shade (show (w1.alloc (.cells #[.slice A0 l0 c0, .slice A3 k c3, .int .i64 t.at', .int .i64 (t.r 0), .int .i64 (t.r 1), .int .i64 (t.r 2), .int .i64 (t.r 3), .int .i64 (t.m 0), .int .i64 (t.m 1), .int .i64 (t.m 2), .int .i64 (t.m 3), .int .i64 (t.m 4), .int .i64 (t.m 5), .int .i64 (t.m 6), .int .i64 (t.m 7), .bool d] 62)).heap.size = w1.heap.size + 1 from World.size_alloc _ _)
  have HSP := shade hsep
  obtain ⟨W2, hW⟩ : ∃ W2, w1.alloc (.cells #[.slice A0 l0 c0, .slice A3 k c3, .int .i64 t.at', .int .i64 (t.r 0), .int .i64 (t.r 1), .int .i64 (t.r 2), .int .i64 (t.r 3), .int .i64 (t.m 0), .int .i64 (t.m 1), .int .i64 (t.m 2), .int .i64 (t.m 3), .int .i64 (t.m 4), .int .i64 (t.m 5), .int .i64 (t.m 6), .int .i64 (t.m 7), .bool d] 62) = W2 := ⟨_, rfl⟩
  rw [hW] at HE HS HG HZ ⊢
  have y1 := HE.out.look 1
  simp at y1
  clear hW hst hsep hga hg1
  have hM : JmO w W2 W2.heap.size w1.heap.size A0 l0 c0 A3 k g F 0 (.slice none 0 0) := ⟨World.ownsRow_nil _ _ _ _, HS.out, HG.out, Nat.le_refl _, HE.out.look 0⟩
  have hlow : ∀ b off, A3 = some ⟨b, off, none⟩ → b < W2.heap.size := fun b off e => by
    have := HSP.out b off e
    have := HZ.out
    omega
  have HM := shade hM
  have HLW := shade hlow
  have hwb : w.heap.size ≤ W2.heap.size := HG.out.size
  have HWB := shade hwb
  clear hM hlow hwb HS HG HSP
  go_wp2_with fail
  go_loopw [9, 23] (fun v q wr => ∃ i : Nat, i ≤ k ∧ q = .int .i64 i ∧ JmO w wr W2.heap.size w1.heap.size A0 l0 c0 A3 k g F i v) (fun _ q _ => k - (intOf q).toNat)
  case atStart => exact ⟨0, Nat.zero_le _, rfl, HM.out⟩
  case round =>
    clear HM
    obtain ⟨i, hi, rfl, hs⟩ := hrel
    obtain ⟨A4, c4, rfl, -⟩ := ownsRow_slice hs.own
    have HS := shade hs
    clear hs
    by_cases hik : i < k
    · obtain ⟨b3, o3, rfl, -⟩ := HS.out.sta.resolve_left (by omega)
      have hrow := HS.out.sta.row hik
      obtain ⟨hv, hok, hh⟩ := HST.out i hik
      obtain ⟨rfl, rfl⟩ := HCD.out.resolve_left (by omega)
      obtain ⟨tt, ht⟩ : ∃ tt, g i = tt := ⟨_, rfl⟩
      rw [ht] at hrow hok hh
      have HT := shade ht
      obtain ⟨hlt, _⟩ := halt_parts hh
      obtain ⟨h40, ⟨rr1, rr2, rr3⟩, ⟨kk0, kk1⟩, hw, h9, hF⟩ := ins_parts hv hlt
      obtain ⟨ra0, ra1⟩ := hok.r _ rr2
      have hn7 : nOf F tt.at' = 7 ↔ wordN (F tt.at'.toNat).op.toList = 7 := by omega
      have hopt : jmOpt F tt = if wordN (F tt.at'.toNat).op.toList = 7 then [(tt.r (raOf F tt.at') == 0)] else [] := by
        unfold jmOpt
        simp only [hn7]
      obtain ⟨m, hm⟩ := Int.eq_ofNat_of_zero_le hok.lo
      rw [hm] at hlt hF hopt rr2 ra0 ra1 kk0 kk1 hrow
      rw [Int.toNat_natCast] at hlt hF hopt
      generalize raOf F (m : Int) = ra at *
      generalize rbOf F (m : Int) = rb at *
      generalize rdOf F (m : Int) = rd at *
      generalize kOf F (m : Int) = k5 at *
      obtain ⟨op, hop⟩ : ∃ op, (F m).op = op := ⟨_, rfl⟩
      rw [hop] at hF hopt
      obtain ⟨r0, r1, r2, r3, r4, r5, r6, r7, r8, r9, r10, r11, r12⟩ := hrow
      have y0 := HS.out.code
      have HOPT := shade hopt
      have HOKR := shade (⟨rr2, ra0, ra1, kk0, kk1⟩ : ra < 4 ∧ 0 ≤ tt.r ra ∧ tt.r ra ≤ 255 ∧ 0 ≤ k5 ∧ k5 ≤ 255)
      have HF := shade hF
      have hm40 : m < 40 := by omega
      clear hv hok hh hw h9 hF hn7 hm hop hopt rr1 rr2 rr3 ra0 ra1 kk0 kk1 ht h40
      go_upto_region 6 with (fail)
      obtain ⟨W5, hW5⟩ : ∃ W5, wr.alloc (.cells #[.int .i64 (m : Int), .int .i64 (tt.r 0), .int .i64 (tt.r 1), .int .i64 (tt.r 2), .int .i64 (tt.r 3), .int .i64 (tt.m 0), .int .i64 (tt.m 1), .int .i64 (tt.m 2), .int .i64 (tt.m 3), .int .i64 (tt.m 4), .int .i64 (tt.m 5), .int .i64 (tt.m 6), .int .i64 (tt.m 7)] 60) = W5 := ⟨_, rfl⟩
      have hX : Holds5 (wr.alloc (.cells #[.int .i64 (m : Int), .int .i64 (tt.r 0), .int .i64 (tt.r 1), .int .i64 (tt.r 2), .int .i64 (tt.r 3), .int .i64 (tt.m 0), .int .i64 (tt.m 1), .int .i64 (tt.m 2), .int .i64 (tt.m 3), .int .i64 (tt.m 4), .int .i64 (tt.m 5), .int .i64 (tt.m 6), .int .i64 (tt.m 7)] 60)) wr.heap.size 60 #[.int .i64 (m : Int), .int .i64 (tt.r 0), .int .i64 (tt.r 1), .int .i64 (tt.r 2), .int .i64 (tt.r 3), .int .i64 (tt.m 0), .int .i64 (tt.m 1), .int .i64 (tt.m 2), .int .i64 (tt.m 3), .int .i64 (tt.m 4), .int .i64 (tt.m 5), .int .i64 (tt.m 6), .int .i64 (tt.m 7)] := Holds5.fresh wr 60 #[.int .i64 (m : Int), .int .i64 (tt.r 0), .int .i64 (tt.r 1), .int .i64 (tt.r 2), .int .i64 (tt.r 3), .int .i64 (tt.m 0), .int .i64 (tt.m 1), .int .i64 (tt.m 2), .int .i64 (tt.m 3), .int .i64 (tt.m 4), .int .i64 (tt.m 5), .int .i64 (tt.m 6), .int .i64 (tt.m 7)]
      have hga := World.grownBy_alloc wr (.cells #[.int .i64 (m : Int), .int .i64 (tt.r 0), .int .i64 (tt.r 1), .int .i64 (tt.r 2), .int .i64 (tt.r 3), .int .i64 (tt.m 0), .int .i64 (tt.m 1), .int .i64 (tt.m 2), .int .i64 (tt.m 3), .int .i64 (tt.m 4), .int .i64 (tt.m 5), .int .i64 (tt.m 6), .int .i64 (tt.m 7)] 60) none
      rw [hW5] at hX hga ⊢
      have hx0 := hX.look 0
      simp at hx0
      have hy0 := hga.cell y0 (by intro e; cases e)
      have hlow5 := grown_same HS.out.low hga
      obtain ⟨bc, oc, rfl, -⟩ := (HCW.out.on hlow5).resolve_left (by omega)
      have q5 := (HCW.out.on hlow5).five hlt
      rw [HF.out] at q5
      simp only [] at q5
      obtain ⟨q0, q1, q2, q3, q4⟩ := q5
      have HX5 := shade hX
      have HA5 := shade hga
      clear hW5 hX hga hlow5 y0 r0 r1 r2 r3 r4 r5 r6 r7 r8 r9 r10 r11 r12
      go_upto_region 7 with (fail)
      have hga2 := World.grownBy_alloc W5 (.cells #[.string op, .int .i64 rd, .int .i64 ra, .int .i64 rb, .int .i64 k5] 37) none
      have hC5 : Holds5 (W5.alloc (.cells #[.string op, .int .i64 rd, .int .i64 ra, .int .i64 rb, .int .i64 k5] 37)) W5.heap.size 37 #[.string op, .int .i64 rd, .int .i64 ra, .int .i64 rb, .int .i64 k5] := Holds5.fresh W5 37 #[.string op, .int .i64 rd, .int .i64 ra, .int .i64 rb, .int .i64 k5]
      have hX6 := HX5.out.grown hga2 (by intro e; cases e)
      have hA6 := grown_same HA5.out hga2
      obtain ⟨W6, hW6⟩ : ∃ W6, W5.alloc (.cells #[.string op, .int .i64 rd, .int .i64 ra, .int .i64 rb, .int .i64 k5] 37) = W6 := ⟨_, rfl⟩
      rw [hW6] at hga2 hC5 hX6 hA6 ⊢
      have r0 := hX6.look 0; have r1 := hX6.look 1; have r2 := hX6.look 2; have r3 := hX6.look 3; have r4 := hX6.look 4; have r5 := hX6.look 5; have r6 := hX6.look 6; have r7 := hX6.look 7; have r8 := hX6.look 8; have r9 := hX6.look 9; have r10 := hX6.look 10; have r11 := hX6.look 11; have r12 := hX6.look 12
      simp at r0 r1 r2 r3 r4 r5 r6 r7 r8 r9 r10 r11 r12
      have s0 := hC5.look 0; have s1 := hC5.look 1; have s2 := hC5.look 2; have s3 := hC5.look 3; have s4 := hC5.look 4
      simp at s0 s1 s2 s3 s4
      have hg6 : WT W6 := HGW.out.below (below_of_grown (grown_same HS.out.low hA6)) (wt_lt HGW.out)
      have HWO := shade (wordOf_any op W6 hg6)
      have HA6 := shade hA6
      have xr := hX6.look (1 + ra)
      rw [show (#[.int .i64 (m : Int), .int .i64 (tt.r 0), .int .i64 (tt.r 1), .int .i64 (tt.r 2), .int .i64 (tt.r 3), .int .i64 (tt.m 0), .int .i64 (tt.m 1), .int .i64 (tt.m 2), .int .i64 (tt.m 3), .int .i64 (tt.m 4), .int .i64 (tt.m 5), .int .i64 (tt.m 6), .int .i64 (tt.m 7)] : Array Value) = stC (m : Int) tt.r tt.m from rfl, stC_get1 _ _ _ _ HOKR.out.1] at xr
      have iA : (ra : Int) < 4 := by have := HOKR.out.1; omega
      have iA0 : (0 : Int) ≤ (ra : Int) := by omega
      clear hga2 hC5 hX6 hA6 hg6 hW6 HX5 HA5 q0 q1 q2 q3 q4 hx0 hy0
      generalize wordN op.toList = x at *
      obtain ⟨i0, hi0, hz0, hz1, hz2⟩ := info_parts info4
      have hl3 := jmL_le F g i
      by_cases h7 : x = 7
      · subst h7
        have hpl : jmL F g (i + 1) = jmL F g i ++ [(tt.r ra == 0)] := by
          show jmL F g i ++ jmOpt F (g i) = _
          rw [HT.out, HOPT.out]
          simp
        have HPL := shade hpl
        have HO7 := shade (ownsRow_on HS.out.own HA6.out)
        have HB7 := shade (Nat.le_trans HS.out.big HA6.out.size)
        clear hpl HOPT
        go_wp2_with (first
            | (go_at_call 29; refine HWO.out.mono ?_; rintro e w' ⟨rfl, rfl⟩)
            | (at_builtin; refine wpList_append_own _ rfl _ _ 29 rfl W2.heap.size 4 i0 (.bool false) 1 1 Tryd.underlying29 hi0 hz0 hz1 hz2 rfl (by decide) _ _ _ rfl (World.ownsRow.alloc HO7.out _) ⟨W6.heap.size, 0, none⟩ 1 1 [.bool (tt.r ra == 0)] rfl rfl (bool_new _ _ _) (bool_one _) (by unfold maxLen; omega) (by omega) (by have := HB7.out; simp; omega) ?_)
            | go_in)
        intro v' w8 hown8 hgr8 hnil8
        rw [valB_snoc, ← HPL.out] at hown8
        have hlen8 : (jmL F g i).length + 1 = (jmL F g (i + 1)).length := by rw [HPL.out, List.length_append]; rfl
        rw [hlen8] at hown8
        have H8 := shade (HS.out.app HWB.out (by have := HZ.out; omega) HLW.out (grown_same HA6.out (World.grownBy_alloc W6 (.cells #[.bool (tt.r ra == 0)] 4) none)) hown8 hgr8)
        clear hown8 hgr8 hnil8 hi0 hz0 hz1 hz2 HS HO7 HA6 hlen8 HWO
        go_wp2
        go_roundw
        case rel => exact ⟨i + 1, by omega, by go_num, H8.out⟩
        case measure => simp [intOf]; omega
      · have hpl : jmL F g (i + 1) = jmL F g i := by
          show jmL F g i ++ jmOpt F (g i) = _
          rw [HT.out, HOPT.out, if_neg h7, List.append_nil]
        have H8 := shade (HS.out.skip HA6.out hpl)
        clear HA6 HOPT HS hpl hi0 hz0 hz1 hz2
        go_wp2_with (first | (go_at_call 29; refine HWO.out.mono ?_; rintro e w' ⟨rfl, rfl⟩) | go_in)
        go_roundw
        case rel => exact ⟨i + 1, by omega, by go_num, H8.out⟩
        case measure => simp [intOf]; omega
    · have hik2 : i = k := by omega
      subst hik2
      go_wp2
      go_ret
      refine ⟨_, rfl, ?_, HS.out.low⟩
      rw [bolL_list]
      exact World.ownsRow.mono HS.out.own HWB.out

end Go.Proofs.YtcfnoihjpiklhaaDoor

namespace Go.Proofs.YtcfnoihjpiklhaaDoor
open Go.RowKit
set_option linter.unusedSimpArgs false
theorem equalCode_zero (A1 A2 : Option Addr) (c1 c2 : Nat) (w : World) :
    Calls Tryd.prog 8 #[.slice A1 0 c1, .slice A2 0 c2] w fun e w' => e = .returned (.bool true) ∧ w.grownBy w' none := by
  go_enter Tryd.func8, Tryd.ntmps8
  go_wp2
  refine wp_loop_rounds 1 ?_
  rw [rounds_succ]
  go_wp2
  go_ret
  exact ⟨rfl, World.grownBy.refl _ _⟩
set_option maxHeartbeats 4000000 in
theorem equalCode_at (b1 o1 b2 o2 c1 c2 n : Nat) (f : Nat → Ins) (w : World) (hn : n ≤ 9223372036854775807) (h1 : Code w (some ⟨b1, o1, none⟩) n f) (h2 : Code w (some ⟨b2, o2, none⟩) n f) :
    Calls Tryd.prog 8 #[.slice (some ⟨b1, o1, none⟩) n c1, .slice (some ⟨b2, o2, none⟩) n c2] w fun e w' => e = .returned (.bool true) ∧ w.grownBy w' none := by
  have H1 := shade h1
  have H2 := shade h2
  clear h1 h2
  go_enter Tryd.func8, Tryd.ntmps8
  go_wp2
  go_loopw [5] (fun i wr => ∃ k : Nat, k ≤ n ∧ i = .int .i64 k ∧ w.grownBy wr none) (fun i _ => n - (intOf i).toNat)
  case atStart => exact ⟨0, Nat.zero_le _, rfl, World.grownBy.refl _ _⟩
  case round =>
    obtain ⟨k, hk, rfl, hg⟩ := hrel
    by_cases hkn : k < n
    · have hgd := grown_same hg (grown_drew1 wr)
      have p := (H1.out.on hgd).five hkn
      have q := (H2.out.on hgd).five hkn
      have HG := shade hgd
      clear hg hgd
      generalize f k = cc at *
      obtain ⟨op, d, a, b', kk⟩ := cc
      simp only [] at p q
      have S0 := shade (And.intro p q)
      clear p q
      go_wp2_with fail
      go_region_held3 (fun w' => (w'.cell? ⟨b1, o1 + k * 5, none⟩ = some (.string op) ∧ w'.cell? ⟨b1, o1 + k * 5 + 1, none⟩ = some (.int .i64 d) ∧ w'.cell? ⟨b1, o1 + k * 5 + 2, none⟩ = some (.int .i64 a) ∧ w'.cell? ⟨b1, o1 + k * 5 + 3, none⟩ = some (.int .i64 b') ∧ w'.cell? ⟨b1, o1 + k * 5 + 4, none⟩ = some (.int .i64 kk)) ∧ (w'.cell? ⟨b2, o2 + k * 5, none⟩ = some (.string op) ∧ w'.cell? ⟨b2, o2 + k * 5 + 1, none⟩ = some (.int .i64 d) ∧ w'.cell? ⟨b2, o2 + k * 5 + 2, none⟩ = some (.int .i64 a) ∧ w'.cell? ⟨b2, o2 + k * 5 + 3, none⟩ = some (.int .i64 b') ∧ w'.cell? ⟨b2, o2 + k * 5 + 4, none⟩ = some (.int .i64 kk))) (exact S0.out) (fail)
      go_wp2_with fail
      go_roundw
      case rel => exact ⟨k + 1, by omega, by go_num, HG.out⟩
      case measure => simp [intOf]; omega
    · have hkn2 : k = n := by omega
      subst hkn2
      have HG := shade hg
      clear hg
      go_wp2
      go_ret
      exact ⟨rfl, HG.out⟩
theorem equalCode_any (A1 A2 : Option Addr) (c1 c2 n : Nat) (f : Nat → Ins) (w : World) (hn : n ≤ 9223372036854775807) (h1 : Code w A1 n f) (h2 : Code w A2 n f) :
    Calls Tryd.prog 8 #[.slice A1 n c1, .slice A2 n c2] w fun e w' => e = .returned (.bool true) ∧ w.grownBy w' none := by
  by_cases h0 : n = 0
  · subst h0
    exact equalCode_zero A1 A2 c1 c2 w
  · obtain ⟨b1, o1, rfl, _⟩ := h1.resolve_left h0
    obtain ⟨b2, o2, rfl, _⟩ := h2.resolve_left h0
    exact equalCode_at b1 o1 b2 o2 c1 c2 n f w hn h1 h2
end Go.Proofs.YtcfnoihjpiklhaaDoor

namespace Go.Proofs.YtcfnoihjpiklhaaDoor
open Go.RowKit
set_option linter.unusedSimpArgs false
set_option maxHeartbeats 1000000 in
theorem equalBools_zero (A1 A2 : Option Addr) (c1 c2 : Nat) (w : World) :
    Calls Tryd.prog 9 #[.slice A1 0 c1, .slice A2 0 c2] w fun e w' => e = .returned (.bool true) ∧ ∃ m : Nat, w.drewN m = w' := by
  go_enter Tryd.func9, Tryd.ntmps9
  go_wp2
  refine wp_loop_rounds 1 ?_
  rw [rounds_succ]
  go_wp2
  go_ret
  exact ⟨rfl, 0, rfl⟩
set_option maxHeartbeats 1000000 in
theorem equalBools_at (b1 o1 b2 o2 c1 c2 n : Nat) (f g : Nat → Bool) (w : World) (hn : n ≤ 9223372036854775807) (h1 : Bols w (some ⟨b1, o1, none⟩) n f) (h2 : Bols w (some ⟨b2, o2, none⟩) n g) (he : ∀ j, j < n → f j = g j) :
    Calls Tryd.prog 9 #[.slice (some ⟨b1, o1, none⟩) n c1, .slice (some ⟨b2, o2, none⟩) n c2] w fun e w' => e = .returned (.bool true) ∧ ∃ m : Nat, w.drewN m = w' := by
  have H1 := shade h1
  have H2 := shade h2
  have HE := shade he
  clear h1 h2 he
  go_enter Tryd.func9, Tryd.ntmps9
  go_wp2
  go_loopw [5] (fun i wr => ∃ k m : Nat, k ≤ n ∧ i = .int .i64 k ∧ wr = w.drewN m) (fun i _ => n - (intOf i).toNat)
  case atStart => exact ⟨0, 0, Nat.zero_le _, rfl, rfl⟩
  case round =>
    obtain ⟨k, m, hk, rfl, rfl⟩ := hrel
    by_cases hkn : k < n
    · have q1 := H1.out.cell hkn
      have q2 := H2.out.cell hkn
      rw [HE.out k hkn] at q1
      go_wp2
      go_quiet (fail)
      go_wp2
      go_roundw
      case rel => exact ⟨k + 1, _, by omega, by go_num, rfl⟩
      case measure => simp [intOf]; omega
    · have hkn2 : k = n := by omega
      subst hkn2
      go_wp2
      go_ret
      exact ⟨rfl, m, rfl⟩
theorem equalBools_any (A1 A2 : Option Addr) (c1 c2 n : Nat) (f g : Nat → Bool) (w : World) (hn : n ≤ 9223372036854775807) (h1 : Bols w A1 n f) (h2 : Bols w A2 n g) (he : ∀ j, j < n → f j = g j) :
    Calls Tryd.prog 9 #[.slice A1 n c1, .slice A2 n c2] w fun e w' => e = .returned (.bool true) ∧ ∃ m : Nat, w.drewN m = w' := by
  by_cases h0 : n = 0
  · subst h0
    exact equalBools_zero A1 A2 c1 c2 w
  · obtain ⟨b1, o1, rfl, _⟩ := h1.resolve_left h0
    obtain ⟨b2, o2, rfl, _⟩ := h2.resolve_left h0
    exact equalBools_at b1 o1 b2 o2 c1 c2 n f g w hn h1 h2 he
theorem jmL_mono (F : Nat → Ins) (g : Nat → Sta) (i : Nat) : ∀ K, i ≤ K → ∃ l, jmL F g K = jmL F g i ++ l := by
  intro K
  induction K with
  | zero =>
    intro h
    obtain rfl : i = 0 := by omega
    exact ⟨[], (List.append_nil _).symm⟩
  | succ K ih =>
    intro h
    by_cases e : i = K + 1
    · rw [e]
      exact ⟨[], (List.append_nil _).symm⟩
    · obtain ⟨l, hl⟩ := ih (by omega)
      refine ⟨l ++ jmOpt F (g K), ?_⟩
      show jmL F g K ++ jmOpt F (g K) = _
      rw [hl, List.append_assoc]
theorem jmL_at (F : Nat → Ins) (g : Nat → Sta) (i K : Nat) (x : Bool) (hi : i < K) (hx : jmOpt F (g i) = [x]) : (jmL F g i).length < (jmL F g K).length ∧ (jmL F g K).getD (jmL F g i).length false = x ∧ (jmL F g (i + 1)).length = (jmL F g i).length + 1 := by
  obtain ⟨l, hl⟩ := jmL_mono F g (i + 1) K (by omega)
  have h1 : jmL F g (i + 1) = jmL F g i ++ [x] := by
    show jmL F g i ++ jmOpt F (g i) = _
    rw [hx]
  rw [h1] at hl
  refine ⟨?_, ?_, ?_⟩
  · rw [hl, List.length_append, List.length_append]
    simp only [List.length_singleton]
    omega
  · rw [hl]
    simp
  · rw [h1]
    simp
theorem equalBools_row (lo1 hi1 lo2 hi2 K : Nat) (v1 v2 : Value) (f : Nat → Bool) (w : World) (hK : K ≤ 300) (h1 : RowO w lo1 hi1 4 v1 K (bolL K f)) (h2 : RowO w lo2 hi2 4 v2 K (bolL K f)) :
    Calls Tryd.prog 9 #[v1, v2] w fun e w' => e = .returned (.bool true) ∧ w.grownBy w' none := by
  obtain ⟨A1, c1, rfl, hn1⟩ := h1.bols
  obtain ⟨A2, c2, rfl, hn2⟩ := h2.bols
  refine (equalBools_any A1 A2 c1 c2 K f f w (by omega) hn1 hn2 (fun _ _ => rfl)).mono ?_
  rintro e w' ⟨rfl, m, rfl⟩
  exact ⟨rfl, grown_drewN (grown_refl _ _) _⟩
theorem BolRes.row {k : Nat} {f : Nat → Bool} {w w' : World} {e : Ending} (h : BolRes k f w e w') : ∃ v, e = .returned v ∧ RowO w' w.heap.size w'.heap.size 4 v k (bolL k f) ∧ w.grownBy w' none := by
  obtain ⟨v, he, ho, hg⟩ := h
  exact ⟨v, he, ⟨ho, fun i hi => (World.ownsRow.lt ho i hi).2⟩, hg⟩
theorem equalCode_row (lo1 hi1 lo2 hi2 K : Nat) (v1 v2 : Value) (f : Nat → Ins) (w : World) (hK : K ≤ 300) (h1 : RowC w lo1 hi1 v1 K f) (h2 : RowC w lo2 hi2 v2 K f) :
    Calls Tryd.prog 8 #[v1, v2] w fun e w' => e = .returned (.bool true) ∧ w.grownBy w' none := by
  obtain ⟨A1, c1, rfl, hn1, _⟩ := h1.code
  obtain ⟨A2, c2, rfl, hn2, _⟩ := h2.code
  exact equalCode_any A1 A2 c1 c2 K f w (by omega) hn1 hn2
theorem steps_told (n : Nat) (F : Nat → Ins) (at' : Int) (n1 n2 : Nat) (f1 f2 : Nat → Int) (fuel : Int) (hn : n ≤ 9223372036854775807) (hn1 : n1 ≤ 9223372036854775807) (hn2 : n2 ≤ 9223372036854775807) :
    ∃ (K : Nat) (g : Nat → Sta), K ≤ 300 ∧ (∀ i, i < K → vcB n F = true ∧ OkS (g i) ∧ sHalt n F (g i) = false) ∧
      (∀ (A : Option Addr) (cap : Nat) (A1 : Option Addr) (c1 : Nat) (A2 : Option Addr) (c2 : Nat) (W : World), Code W A n F → Nums W A1 n1 f1 → Nums W A2 n2 f2 → Calls Tryd.prog 7 #[.slice A n cap, MV at' A1 n1 c1 A2 n2 c2, .int .i64 fuel] W (StpRes K (fun j => insS F (g j)) (fun j => jmS F (g j)) W)) ∧
      (∀ (A : Option Addr) (cap : Nat) (A1 : Option Addr) (c1 : Nat) (A2 : Option Addr) (c2 : Nat) (W : World), WT W → Code W A n F → Nums W A1 n1 f1 → Nums W A2 n2 f2 → Calls Tryd.prog 6 #[.slice A n cap, MV at' A1 n1 c1 A2 n2 c2, .int .i64 fuel] W (StpRes K (fun j => insS F (g j)) (fun j => jmS F (g j)) W)) ∧
      (∀ (A : Option Addr) (cap : Nat) (A1 : Option Addr) (c1 : Nat) (A2 : Option Addr) (c2 : Nat) (W : World), WT W → Code W A n F → Nums W A1 n1 f1 → Nums W A2 n2 f2 → Calls Tryd.prog 10 #[.slice A n cap, MV at' A1 n1 c1 A2 n2 c2, .int .i64 fuel] W (NumRes K (fun j => (g j).at') W)) ∧
      (∀ (A : Option Addr) (cap : Nat) (A1 : Option Addr) (c1 : Nat) (A2 : Option Addr) (c2 : Nat) (W : World), WT W → Code W A n F → Nums W A1 n1 f1 → Nums W A2 n2 f2 → Calls Tryd.prog 11 #[.slice A n cap, MV at' A1 n1 c1 A2 n2 c2, .int .i64 fuel] W (BolRes (jmL F g K).length (fun j => (jmL F g K).getD j false) W)) := by
  obtain ⟨K, g, hK, hRun, hcase⟩ := run_told n F at' n1 n2 f1 f2 fuel hn
  have hst : ∀ i, i < K → vcB n F = true ∧ OkS (g i) ∧ sHalt n F (g i) = false := fun i hi => by
    rcases hcase with ⟨hr, rfl⟩ | ⟨hr, rfl, rfl, rfl, hre⟩
    · omega
    · obtain ⟨hv, hm, hf0, hf1⟩ := runB_parts hr
      exact ⟨hv, (okS_of hm).run hv i (fun j hj => hre.go j (by omega)), hre.go i hi⟩
  refine ⟨K, g, hK, hst, fun A cap A1 c1 A2 c2 W hC h1 h2 => ?_, fun A cap A1 c1 A2 c2 W hg hC h1 h2 => ?_, fun A cap A1 c1 A2 c2 W hg hC h1 h2 => ?_, fun A cap A1 c1 A2 c2 W hg hC h1 h2 => ?_⟩
  · rcases hcase with ⟨hr, rfl⟩ | ⟨hr, rfl, rfl, rfl, hre⟩
    · exact SStepsOf_no A n cap F at' A1 n1 c1 A2 n2 c2 f1 f2 fuel W hn hC h1 h2 hn1 hn2 hr _ _
    · obtain ⟨hv, hm, hf0, hf1⟩ := runB_parts hr
      obtain ⟨fu, rfl⟩ := Int.eq_ofNat_of_zero_le hf0
      rw [Int.toNat_natCast] at hre
      obtain ⟨b1, o1, rfl, _⟩ := h1.resolve_left (by omega)
      obtain ⟨b2, o2, rfl, _⟩ := h2.resolve_left (by omega)
      refine (SStepsOf_yes A n cap F at' b1 o1 c1 b2 o2 c2 f1 f2 fu W hn hC h1 h2 hn1 hn2 hr hv hm hf1).mono ?_
      rintro e w' ⟨k, hk, h⟩
      obtain rfl := hk.uniq hre
      exact h
  · exact StepsOf_res A n cap at' A1 n1 c1 A2 n2 c2 fuel F K g W hg hC hK hst fun W' hW => hRun A cap A1 c1 A2 c2 W' (hg.below (below_of_grown hW) (wt_lt hg)) (hC.on hW) (h1.on hW) (h2.on hW)
  · exact TraceOf_res A n cap at' A1 n1 c1 A2 n2 c2 fuel K g W hK fun W' hW => hRun A cap A1 c1 A2 c2 W' (hg.below (below_of_grown hW) (wt_lt hg)) (hC.on hW) (h1.on hW) (h2.on hW)
  · exact JumpsOf_res A n cap at' A1 n1 c1 A2 n2 c2 fuel F K g W hg hC hK hst fun W' hW => hRun A cap A1 c1 A2 c2 W' (hg.below (below_of_grown hW) (wt_lt hg)) (hC.on hW) (h1.on hW) (h2.on hW)
end Go.Proofs.YtcfnoihjpiklhaaDoor

namespace Go.Proofs.YtcfnoihjpiklhaaDoor
open Go.RowKit
set_option linter.unusedSimpArgs false
set_option maxRecDepth 100000 in
set_option maxHeartbeats 16000000 in
theorem fnStepsOf_walk (A : Option Addr) (n cap : Nat) (zs : List Int) (w : World) (hg : WT w) (hB : Bys w A n cap zs) :
    Calls Tryd.prog 3 #[.slice A n cap] w fun e w' => e = .returned (.bool true) ∧ Below w.heap.size w w' := by
  have HG := shade hg
  have HBy := shade hB
  have hcap := hB.fits
  have hbig := hB.big
  unfold maxLen at hbig
  clear hg hB
  by_cases hl : 1048576 < n
  · go_enter Tryd.func3, Tryd.ntmps3
    go_wp2_with fail
    go_ret
    exact ⟨rfl, rfl, rfl, rfl, Nat.le_refl _, fun _ _ => rfl⟩
  · have HD := shade (DrawStepsOf_any A n cap zs w HBy.out)
    go_enter Tryd.func3, Tryd.ntmps3
    go_wp2_with fail
    refine HD.out.mono ?_
    rintro e w1 ⟨Al, k, c, F, at', A1, n1, c1, A2, n2, c2, f1, f2, fu, rfl, hk, hC, hN1, hN2, ⟨hn1, hn2⟩, hfu, hgr⟩
    obtain ⟨K, g, hK, hst, HSp, HIm, HTr, HJu⟩ := steps_told k F at' n1 n2 f1 f2 fu (by omega) (by omega) (by omega)
    have HST := shade hst; have HSP := shade HSp; have HIM := shade HIm; have HTR := shade HTr; have HJU := shade HJu
    have hga := World.grownBy_alloc w1 (.cells #[.int .i64 at', .slice A1 n1 c1, .slice A2 n2 c2] 26) none
    have hX : Holds5 (w1.alloc (.cells #[.int .i64 at', .slice A1 n1 c1, .slice A2 n2 c2] 26)) w1.heap.size 26 #[.int .i64 at', .slice A1 n1 c1, .slice A2 n2 c2] := Holds5.fresh w1 26 #[.int .i64 at', .slice A1 n1 c1, .slice A2 n2 c2]
    have HC := shade (hC.on hga); have HN1 := shade (hN1.on hga); have HN2 := shade (hN2.on hga); have HL := shade (grown_same hgr hga)
    clear hst HSp HIm HTr HJu hC hN1 hN2 hgr HD
    go_upto_region 4 with (fail)
    obtain ⟨W1, hW⟩ : ∃ W1, w1.alloc (.cells #[.int .i64 at', .slice A1 n1 c1, .slice A2 n2 c2] 26) = W1 := ⟨_, rfl⟩
    rw [hW] at HC HN1 HN2 HL hX ⊢
    have x0 := hX.look 0; have x1 := hX.look 1; have x2 := hX.look 2
    simp at x0 x1 x2
    have HX1 := shade hX
    have HC1 := shade HC.out; have HNA1 := shade HN1.out; have HNB1 := shade HN2.out; have HL1 := shade HL.out
    clear hX hga hW HC HN1 HN2 HL
    go_wp2_with fail
    refine (HIM.out _ _ _ _ _ _ _ (HG.out.below (below_of_grown HL1.out) (wt_lt HG.out)) HC1.out HNA1.out HNB1.out).mono ?_
    rintro e w2 h5
    obtain ⟨v0, u0, rfl, hR, hR2, hgr⟩ := StpRes.row h5
    have HV2 := shade hR; have HU2 := shade hR2
    clear x0 x1 x2 hR hR2 h5
    have HX2 := shade (HX1.out.grown hgr (by intro e; cases e)); have HC2 := shade (HC1.out.on hgr); have HNA2 := shade (HNA1.out.on hgr); have HNB2 := shade (HNB1.out.on hgr); have HL2 := shade (grown_same HL1.out hgr)
    clear hgr HX1 HC1 HNA1 HNB1 HL1 
    have x0 := HX2.out.look 0; have x1 := HX2.out.look 1; have x2 := HX2.out.look 2
    simp at x0 x1 x2
    go_wp2_with fail
    refine (HSP.out _ _ _ _ _ _ _ HC2.out HNA2.out HNB2.out).mono ?_
    rintro e w3 h5
    obtain ⟨v1, u1, rfl, hR, hR2, hgr⟩ := StpRes.row h5
    have HP3 := shade hR; have HQ3 := shade hR2
    clear x0 x1 x2 hR hR2 h5
    have HX3 := shade (HX2.out.grown hgr (by intro e; cases e)); have HC3 := shade (HC2.out.on hgr); have HNA3 := shade (HNA2.out.on hgr); have HNB3 := shade (HNB2.out.on hgr); have HL3 := shade (grown_same HL2.out hgr)
    have HV3 := shade (HV2.out.grown hgr)
    have HU3 := shade (HU2.out.grown hgr)
    clear hgr HX2 HC2 HNA2 HNB2 HL2 HV2 HU2
    go_wp2_with fail
    refine (equalCode_row _ _ _ _ _ _ _ _ _ hK HV3.out HP3.out).mono ?_
    rintro e w4 ⟨rfl, hgr⟩
    have HX4 := shade (HX3.out.grown hgr (by intro e; cases e)); have HC4 := shade (HC3.out.on hgr); have HNA4 := shade (HNA3.out.on hgr); have HNB4 := shade (HNB3.out.on hgr); have HL4 := shade (grown_same HL3.out hgr)
    have HV4 := shade (HV3.out.grown hgr)
    have HU4 := shade (HU3.out.grown hgr)
    have HP4 := shade (HP3.out.grown hgr)
    have HQ4 := shade (HQ3.out.grown hgr)
    clear hgr HX3 HC3 HNA3 HNB3 HL3 HV3 HU3 HP3 HQ3
    go_wp2_with fail
    refine (equalBools_row _ _ _ _ _ _ _ _ _ hK HU4.out HQ4.out).mono ?_
    rintro e w5 ⟨rfl, hgr⟩
    have HX5 := shade (HX4.out.grown hgr (by intro e; cases e)); have HC5 := shade (HC4.out.on hgr); have HNA5 := shade (HNA4.out.on hgr); have HNB5 := shade (HNB4.out.on hgr); have HL5 := shade (grown_same HL4.out hgr)
    have HV5 := shade (HV4.out.grown hgr)
    have HU5 := shade (HU4.out.grown hgr)
    have HP5 := shade (HP4.out.grown hgr)
    have HQ5 := shade (HQ4.out.grown hgr)
    clear hgr HX4 HC4 HNA4 HNB4 HL4 HV4 HU4 HP4 HQ4
    have x0 := HX5.out.look 0; have x1 := HX5.out.look 1; have x2 := HX5.out.look 2
    simp at x0 x1 x2
    obtain ⟨A5, c5, rfl, -, -⟩ := HV5.out.code
    by_cases h0 : K = 0
    · have h0b : ((K : Int) == 0) = true := by rw [h0]; rfl
      clear h0
      go_wp2_with fail
      refine (equalCode_row _ _ _ _ _ _ _ _ _ hK HV5.out HP5.out).mono ?_
      rintro e w6 ⟨rfl, hgr⟩
      have HL6 := shade (grown_same HL5.out hgr); have HU6 := shade (HU5.out.grown hgr); have HQ6 := shade (HQ5.out.grown hgr)
      clear hgr
      go_wp2_with fail
      refine (equalBools_row _ _ _ _ _ _ _ _ _ hK HU6.out HQ6.out).mono ?_
      rintro e w7 ⟨rfl, hgr⟩
      have HL7 := shade (grown_same HL6.out hgr)
      clear hgr
      go_wp2_with fail
      go_ret
      exact ⟨rfl, below_of_grown HL7.out⟩
    · have h0b : ((K : Int) == 0) = false := by rw [beq_eq_false_iff_ne]; omega
      go_wp2_with fail
      refine (HTR.out _ _ _ _ _ _ _ (HG.out.below (below_of_grown HL5.out) (wt_lt HG.out)) HC5.out HNA5.out HNB5.out).mono ?_
      rintro e w6 h5
      obtain ⟨v2, rfl, hR, hgr⟩ := NumRes.row h5
      obtain ⟨A6, c6, rfl, hT⟩ := hR.nums
      have HT6 := shade hT
      clear x0 x1 x2 hR h5 hT HP5 HQ5
      have HX6 := shade (HX5.out.grown hgr (by intro e; cases e)); have HC6 := shade (HC5.out.on hgr); have HNA6 := shade (HNA5.out.on hgr); have HNB6 := shade (HNB5.out.on hgr); have HL6 := shade (grown_same HL5.out hgr)
      have HV6 := shade (HV5.out.grown hgr)
      have HU6 := shade (HU5.out.grown hgr)
      clear hgr HX5 HC5 HNA5 HNB5 HL5 HV5 HU5
      have x0 := HX6.out.look 0; have x1 := HX6.out.look 1; have x2 := HX6.out.look 2
      simp at x0 x1 x2
      go_wp2_with fail
      refine (HJU.out _ _ _ _ _ _ _ (HG.out.below (below_of_grown HL6.out) (wt_lt HG.out)) HC6.out HNA6.out HNB6.out).mono ?_
      rintro e w7 h5
      obtain ⟨v3, rfl, hR, hgr⟩ := BolRes.row h5
      obtain ⟨A7, c7, rfl, hJ⟩ := hR.bols
      have HJ7 := shade hJ; have HT7 := shade (HT6.out.on hgr)
      have HV7 := shade (show Code w7 A5 K (fun j => insS F (g j)) from by
        obtain ⟨A8, c8, e8, hn8, -⟩ := (HV6.out.grown hgr).code
        injection e8 with e8 _ _
        rw [e8]
        exact hn8)
      have HU7 := shade (HU6.out.grown hgr)
      have HC7 := shade (HC6.out.on hgr); have HL7 := shade (grown_same HL6.out hgr)
      obtain ⟨A9, c9, rfl, hu9⟩ := HU7.out.bols
      have HB7 := shade hu9
      clear x0 x1 x2 hgr hR h5 hJ hu9 HX6 HC6 HNA6 HNB6 HL6 HV6 HU6 HU7 HT6
      have hKB : K ≤ 300 := hK
      go_wp2_with fail
      go_loopw [12, 13] (fun q r wr => ∃ i : Nat, i ≤ K ∧ r = .int .i64 i ∧ q = .int .i64 (jmL F g i).length ∧ w7.grownBy wr none) (fun _ r _ => K - (intOf r).toNat)
      case atStart => exact ⟨0, Nat.zero_le _, rfl, rfl, grown_refl _ _⟩
      case round =>
        obtain ⟨i, hi, rfl, rfl, hgw⟩ := hrel
        have HW := shade hgw
        clear hgw
        by_cases hiK : i < K
        · obtain ⟨hv, hok, hh⟩ := HST.out i hiK
          obtain ⟨hlt, _⟩ := halt_parts hh
          obtain ⟨h40, ⟨rr1, rr2, rr3⟩, ⟨kk0, kk1⟩, hw, h9, hF⟩ := ins_parts hv hlt
          have hn7 : nOf F (g i).at' = 7 ↔ ((F (g i).at'.toNat).op.toList == [98, 122]) = true := by rw [bz_wordS]; omega
          have hjm : jmS F (g i) = (((F (g i).at'.toNat).op.toList == [106, 109, 112]) || (((F (g i).at'.toNat).op.toList == [98, 122]) && ((g i).r (raOf F (g i).at') == 0))) := rfl
          have hin : insS F (g i) = F (g i).at'.toNat := rfl
          obtain ⟨m, hm⟩ := Int.eq_ofNat_of_zero_le hok.lo
          obtain ⟨bt, ot, rfl, -⟩ := (HT7.out.on HW.out).resolve_left (by omega)
          have y0 := (HT7.out.on HW.out).cell hiK
          obtain ⟨bc, oc, rfl, -⟩ := (HC7.out.on HW.out).resolve_left (by omega)
          obtain ⟨bs, os, rfl, -⟩ := (HV7.out.on HW.out).resolve_left (by omega)
          obtain ⟨bb, ob, rfl, -⟩ := (HB7.out.grown HW.out (by intro _ _ _ e; cases e)).resolve_left (by omega)
          have yb := (HB7.out.grown HW.out (by intro _ _ _ e; cases e)).cell hiK
          have p := (HV7.out.on HW.out).five hiK
          rw [hin] at p
          rw [hjm] at yb
          rw [hm] at hlt y0
          rw [hm] at hn7 p
          rw [show (g i).at'.toNat = m by rw [hm, Int.toNat_natCast]] at yb
          rw [Int.toNat_natCast] at hlt hn7 p
          have q := (HC7.out.on HW.out).five hlt
          obtain ⟨cc, hcc⟩ : ∃ cc, F m = cc := ⟨_, rfl⟩
          rw [hcc] at p q yb hn7
          obtain ⟨op, di, ai, bi, ki⟩ := cc
          simp only [] at p q yb hn7
          obtain ⟨rb, hrb⟩ : ∃ rb, ((g i).r (raOf F (g i).at') == 0) = rb := ⟨_, rfl⟩
          rw [hrb] at yb
          have HRB := shade hrb
          have hopt7 : ∀ e : (op.toList == [98, 122]) = true, jmOpt F (g i) = [rb] := fun e => by
            unfold jmOpt
            rw [if_pos (by rw [hm]; exact hn7.2 e), hrb]
          have hopt0 : ∀ e : (op.toList == [98, 122]) = false, jmOpt F (g i) = [] := fun e => by
            unfold jmOpt
            rw [if_neg (fun h => by rw [hm] at h; rw [hn7.1 h] at e; cases e)]
          have H7 := shade hopt7; have H0 := shade hopt0
          have m40 : m < 40 := by omega
          have i1 : (i : Int) < (K : Int) := by omega
          have i0 : (0 : Int) ≤ (i : Int) := by omega
          have l1 : (m : Int) < (k : Int) := by omega
          have l0 : (0 : Int) ≤ (m : Int) := by omega
          clear hv hok hh hw h9 hF hn7 hjm hin hm hcc hrb hopt7 hopt0 rr1 rr2 rr3 kk0 kk1 h40
          obtain ⟨p0, p1, p2, p3, p4⟩ := p
          obtain ⟨q0, q1, q2, q3, q4⟩ := q
          rcases e1 : (op.toList == [98, 122]) with _ | _
          · have hopt := H0.out e1
            have hlen : (jmL F g (i + 1)).length = (jmL F g i).length := by
              show (jmL F g i ++ jmOpt F (g i)).length = _
              rw [hopt, List.append_nil]
            have HLEN := shade hlen
            clear hopt hlen
            rw [e1] at yb
            rcases e2 : (op.toList == [106, 109, 112]) with _ | _
            all_goals
              rw [e2] at yb
              simp only [Bool.false_or, Bool.true_or, Bool.false_and, Bool.true_and] at yb
              go_wp2_with fail
              go_quiet (fail)
              go_wp2_with fail
              go_roundw
              case rel => exact ⟨i + 1, by omega, by go_num, by rw [HLEN.out], grown_drewN HW.out _⟩
              case measure => simp [intOf]; omega
          · have e2 : (op.toList == [106, 109, 112]) = false := by
              rw [beq_iff_eq] at e1
              rw [e1]
              rfl
            have hopt := H7.out e1
            obtain ⟨hlt2, hget, hlen⟩ := jmL_at F g i K _ hiK hopt
            obtain ⟨bo, oo, rfl, -⟩ := (HJ7.out.grown HW.out (by intro _ _ _ e; cases e)).resolve_left (by omega)
            have z0 := (HJ7.out.grown HW.out (by intro _ _ _ e; cases e)).cell hlt2
            rw [hget] at z0
            have HLEN := shade hlen
            have z1 : (jmL F g i).length ≤ 300 := by have := jmL_le F g K; omega
            rw [e1, e2] at yb
            simp only [Bool.false_or, Bool.true_or, Bool.false_and, Bool.true_and] at yb
            clear hopt hlen hget
            rcases rb with _ | _
            all_goals
              go_wp2_with fail
              go_quiet (fail)
              go_wp2_with fail
              go_roundw
              case rel => exact ⟨i + 1, by omega, by go_num, by rw [HLEN.out]; go_num, grown_drewN HW.out _⟩
              case measure => simp [intOf]; omega
        · obtain rfl : i = K := by omega
          have HLE := shade (grown_same HL7.out HW.out)
          go_wp2_with fail
          go_ret
          exact ⟨rfl, below_of_grown HLE.out⟩
end Go.Proofs.YtcfnoihjpiklhaaDoor
