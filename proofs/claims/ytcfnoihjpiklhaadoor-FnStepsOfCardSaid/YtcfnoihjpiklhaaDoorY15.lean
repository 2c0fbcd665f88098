/- StepsOf, over whatever runOf leaves. -/
import Derived.Test.YtcfnoihjpiklhaaDoorW100
import Derived.Test.YtcfnoihjpiklhaaDoorY10
namespace Go.Proofs.YtcfnoihjpiklhaaDoor
open Go.RowKit
set_option linter.unusedSimpArgs false
theorem word_iff (l : List UInt8) (n : Nat) (x : List UInt8) (_hn : n < 10) (hx : wordN x = n) (hi : wordN l = n → (x == l) = true) : (l == x) = true ↔ wordN l = n := by
  rw [beq_iff_eq]
  constructor
  · intro h
    rw [h]
    exact hx
  · intro h
    exact (beq_iff_eq.1 (hi h)).symm
theorem bz_wordS (l : List UInt8) : (l == [98, 122]) = true ↔ wordN l = 7 := by
  refine word_iff l 7 _ (by omega) wordN_at7 (fun h => ?_)
  rcases word_is l 7 (by omega) h with h | h | h | h | h | h | h | h | h | h
  all_goals first
    | exact absurd h.1 (by omega)
    | exact h.2
theorem jmp_wordS (l : List UInt8) : (l == [106, 109, 112]) = true ↔ wordN l = 8 := by
  refine word_iff l 8 _ (by omega) wordN_at8 (fun h => ?_)
  rcases word_is l 8 (by omega) h with h | h | h | h | h | h | h | h | h | h
  all_goals first
    | exact absurd h.1 (by omega)
    | exact h.2
theorem jmp_decS (l : List UInt8) : (l == [106, 109, 112]) = decide (wordN l = 8) := by rw [Bool.eq_iff_iff, jmp_wordS, decide_eq_true_iff]
theorem bz_decS (l : List UInt8) : (l == [98, 122]) = decide (wordN l = 7) := by rw [Bool.eq_iff_iff, bz_wordS, decide_eq_true_iff]
/-- What stands while both rows are put together: those of i states so far. -/
structure SpO (w wr : World) (B R : Nat) (A0 : Option Addr) (l0 c0 : Nat) (A3 : Option Addr) (k : Nat) (g : Nat → Sta) (F : Nat → Ins) (i : Nat) (v1 v2 : Value) : Prop where
  o1 : wr.ownsRow B 37 5 v1 i (codeL i (fun j => insS F (g j)))
  o2 : wr.ownsRow B 4 1 v2 i (bolL i (fun j => jmS F (g j)))
  sta : Stas wr A3 k g
  low : w.grownBy wr none
  big : B ≤ wr.heap.size
  code : wr.cell? ⟨R, 0, none⟩ = some (.slice A0 l0 c0)
section
variable {w wr w7 w8 w9 w10 : World} {B R : Nat} {A0 : Option Addr} {l0 c0 : Nat} {A3 : Option Addr} {k : Nat} {g : Nat → Sta} {F : Nat → Ins} {i : Nat} {v1 v2 u1 u2 : Value}
theorem SpO.app (h : SpO w wr B R A0 l0 c0 A3 k g F i v1 v2) (hB : w.heap.size ≤ B) (hR : R < B) (hl : ∀ b off, A3 = some ⟨b, off, none⟩ → b < B) (hg : wr.grownBy w7 none)
    (p1 : w8.ownsRow B 37 5 u1 (i + 1) (codeL (i + 1) (fun j => insS F (g j)))) (q1 : w7.grownBy w8 v1.ownBlock) (hg2 : w8.grownBy w9 none)
    (p2 : w10.ownsRow B 4 1 u2 (i + 1) (bolL (i + 1) (fun j => jmS F (g j)))) (q2 : w9.grownBy w10 v2.ownBlock) : SpO w w10 B R A0 l0 c0 A3 k g F (i + 1) u1 u2 := by
  have o17 := ownsRow_on h.o1 hg
  have o27 := ownsRow_on h.o2 hg
  have o28 := kept_ty o17 o27 (by decide) q1
  have o29 := ownsRow_on o28 hg2
  have p19 := ownsRow_on p1 hg2
  have f1 := fun j (e : v1.ownBlock = some j) => (World.ownsRow.lt o17 j e).1
  have f2 := fun j (e : v2.ownBlock = some j) => (World.ownsRow.lt o29 j e).1
  refine ⟨kept_ty o29 p19 (by decide) q2, p2, (((h.sta.on hg).grown q1 (fun b off e e' => ?_)).on hg2).grown q2 (fun b off e e' => ?_), grown_row (grown_same (grown_row (grown_same h.low hg) q1 (fun j e => ?_)) hg2) q2 (fun j e => ?_), Nat.le_trans h.big (Nat.le_trans hg.size (Nat.le_trans q1.size (Nat.le_trans hg2.size q2.size))), q2.cell (hg2.cell (q1.cell (hg.cell h.code (by intro e; cases e)) (fun e => ?_)) (by intro e; cases e)) (fun e => ?_)⟩
  · have h1 := hl b off e
    have h2 := f1 b e'.symm
    omega
  · have h1 := hl b off e
    have h2 := f2 b e'.symm
    omega
  · have h2 := f1 j e
    omega
  · have h2 := f2 j e
    omega
  · have h2 := f1 R e.symm
    omega
  · have h2 := f2 R e.symm
    omega
end
set_option maxRecDepth 100000 in
set_option maxHeartbeats 16000000 in
theorem StepsOf_res (A : Option Addr) (len cap : Nat) (at' : Int) (A1 : Option Addr) (n1 c1 : Nat) (A2 : Option Addr) (n2 c2 : Nat) (fuel : Int) (F : Nat → Ins) (k : Nat) (g : Nat → Sta) (w : World) (hg : WT w) (hC : Code w A len F) (hk : k ≤ 300) (hst : ∀ i, i < k → vcB len F = true ∧ OkS (g i) ∧ sHalt len F (g i) = false) (hR : ∀ W, w.grownBy W none → Calls Tryd.prog 28 #[.slice A len cap, MV at' A1 n1 c1 A2 n2 c2, .int .i64 fuel] W (RunRes A len k g W)) :
    Calls Tryd.prog 6 #[.slice A len cap, MV at' A1 n1 c1 A2 n2 c2, .int .i64 fuel] w (StpRes k (fun j => insS F (g j)) (fun j => jmS F (g j)) w) := by
  have HR := shade hR
  have HGW := shade hg
  have HCW := shade hC
  have HST := shade hst
  have HG0 := shade (World.grownBy_alloc w (.cells #[.int .i64 at', .slice A1 n1 c1, .slice A2 n2 c2] 26) none)
  have x0 : (w.alloc (.cells #[.int .i64 at', .slice A1 n1 c1, .slice A2 n2 c2] 26)).cell? ⟨w.heap.size, 0, none⟩ = some (.int .i64 at') := (Holds5.fresh w 26 _).look 0
  have x1 : (w.alloc (.cells #[.int .i64 at', .slice A1 n1 c1, .slice A2 n2 c2] 26)).cell? ⟨w.heap.size, 1, none⟩ = some (.slice A1 n1 c1) := (Holds5.fresh w 26 _).look 1
  have x2 : (w.alloc (.cells #[.int .i64 at', .slice A1 n1 c1, .slice A2 n2 c2] 26)).cell? ⟨w.heap.size, 2, none⟩ = some (.slice A2 n2 c2) := (Holds5.fresh w 26 _).look 2
  clear hR hg hC hst
  go_enter Tryd.func6, Tryd.ntmps6
  go_wp2_with fail
  refine (HR.out _ HG0.out).mono ?_
  rintro e w1 ⟨A0, l0, c0, A3, c3, t, d, b, rfl, hcd, hst, hsep, hgr⟩
  have hg1 := grown_same HG0.out hgr
  have h0 := HG0.out.size
  rw [World.size_alloc] at h0 hsep
  have HCD := shade hcd
  clear HR HG0 x0 x1 x2 hgr hcd
  go_upto_region 2 with (fail)
  have HE := shade (show Holds5 (w1.alloc (.cells #[.slice A0 l0 c0, .slice A3 k c3, .int .i64 t.at', .int .i64 (t.r 0), .int .i64 (t.r 1), .int .i64 (t.r 2), .int .i64 (t.r 3), .int .i64 (t.m 0), .int .i64 (t.m 1), .int .i64 (t.m 2), .int .i64 (t.m 3), .int .i64 (t.m 4), .int .i64 (t.m 5), .int .i64 (t.m 6), .int .i64 (t.m 7), .bool d] 62)) w1.heap.size 62 #[.slice A0 l0 c0, .slice A3 k c3, .int .i64 t.at', .int .i64 (t.r 0), .int .i64 (t.r 1), .int .i64 (t.r 2), .int .i64 (t.r 3), .int .i64 (t.m 0), .int .i64 (t.m 1), .int .i64 (t.m 2), .int .i64 (t.m 3), .int .i64 (t.m 4), .int .i64 (t.m 5), .int .i64 (t.m 6), .int .i64 (t.m 7), .bool d] from Holds5.fresh w1 62 #[.slice A0 l0 c0, .slice A3 k c3, .int .i64 t.at', .int .i64 (t.r 0), .int .i64 (t.r 1), .int .i64 (t.r 2), .int .i64 (t.r 3), .int .i64 (t.m 0), .int .i64 (t.m 1), .int .i64 (t.m 2), .int .i64 (t.m 3), .int .i64 (t.m 4), .int .i64 (t.m 5), .int .i64 (t.m 6), .int .i64 (t.m 7), .bool d])
  have hga := World.grownBy_alloc w1 (.cells #[.slice A0 l0 c0, .slice A3 k c3, .int .i64 t.at', .int .i64 (t.r 0), .int .i64 (t.r 1), .int .i64 (t.r 2), .int .i64 (t.r 3), .int .i64 (t.m 0), .int .i64 (t.m 1), .int .i64 (t.m 2), .int .i64 (t.m 3), .int .i64 (t.m 4), .int .i64 (t.m 5), .int .i64 (t.m 6), .int .i64 (t.m 7), .bool d] 62) none
  have HS := shade (hst.on hga)
  have HG := shade (grown_same hg1 hga)
  have HZ := shade (show (w1.alloc (.cells #[.slice A0 l0 c0, .slice A3 k c3, .int .i64 t.at', .int .i64 (t.r 0), .int .i64 (t.r 1), .int .i64 (t.r 2), .int .i64 (t.r 3), .int .i64 (t.m 0), .int .i64 (t.m 1), .int .i64 (t.m 2), .int .i64 (t.m 3), .int .i64 (t.m 4), .int .i64 (t.m 5), .int .i64 (t.m 6), .int .i64 (t.m 7), .bool d] 62)).heap.size = w1.heap.size + 1 from World.size_alloc _ _)
  have HSP := shade hsep
  obtain ⟨W2, hW⟩ : ∃ W2, w1.alloc (.cells #[.slice A0 l0 c0, .slice A3 k c3, .int .i64 t.at', .int .i64 (t.r 0), .int .i64 (t.r 1), .int .i64 (t.r 2), .int .i64 (t.r 3), .int .i64 (t.m 0), .int .i64 (t.m 1), .int .i64 (t.m 2), .int .i64 (t.m 3), .int .i64 (t.m 4), .int .i64 (t.m 5), .int .i64 (t.m 6), .int .i64 (t.m 7), .bool d] 62) = W2 := ⟨_, rfl⟩
  rw [hW] at HE HS HG HZ ⊢
  have y1 := HE.out.look 1
  simp at y1
  clear hW hst hsep hga hg1
  have hM : SpO w W2 W2.heap.size w1.heap.size A0 l0 c0 A3 k g F 0 (.slice none 0 0) (.slice none 0 0) := ⟨World.ownsRow_nil _ _ _ _, World.ownsRow_nil _ _ _ _, HS.out, HG.out, Nat.le_refl _, HE.out.look 0⟩
  have hlow : ∀ b off, A3 = some ⟨b, off, none⟩ → b < W2.heap.size := fun b off e => by
    have := HSP.out b off e
    have := HZ.out
    omega
  have HM := shade hM
  have HLW := shade hlow
  have hwb : w.heap.size ≤ W2.heap.size := HG.out.size
  have HWB := shade hwb
  clear hM hlow hwb HS HG HSP
  go_wp2_with fail
  go_loopw [10, 11, 26] (fun v u q wr => ∃ i : Nat, i ≤ k ∧ q = .int .i64 i ∧ SpO w wr W2.heap.size w1.heap.size A0 l0 c0 A3 k g F i v u) (fun _ _ q _ => k - (intOf q).toNat)
  case atStart => exact ⟨0, Nat.zero_le _, rfl, HM.out⟩
  case round =>
    clear HM
    obtain ⟨i, hi, rfl, hs⟩ := hrel
    obtain ⟨A4, c4, rfl, -⟩ := ownsRow_slice hs.o1
    obtain ⟨A5, c5, rfl, -⟩ := ownsRow_slice hs.o2
    have HS := shade hs
    clear hs
    by_cases hik : i < k
    · obtain ⟨b3, o3, rfl, -⟩ := HS.out.sta.resolve_left (by omega)
      have hrow := HS.out.sta.row hik
      obtain ⟨hv, hok, hh⟩ := HST.out i hik
      obtain ⟨rfl, rfl⟩ := HCD.out.resolve_left (by omega)
      obtain ⟨tt, ht⟩ : ∃ tt, g i = tt := ⟨_, rfl⟩
      rw [ht] at hrow hok hh
      have HT := shade ht
      obtain ⟨hlt, _⟩ := halt_parts hh
      obtain ⟨h40, ⟨rr1, rr2, rr3⟩, ⟨kk0, kk1⟩, hw, h9, hF⟩ := ins_parts hv hlt
      obtain ⟨ra0, ra1⟩ := hok.r _ rr2
      have hjm : jmS F tt = ((decide (wordN (F tt.at'.toNat).op.toList = 8)) || (decide (wordN (F tt.at'.toNat).op.toList = 7) && (tt.r (raOf F tt.at') == 0))) := by
        unfold jmS
        rw [jmp_decS, bz_decS]
      have hin : insS F tt = F tt.at'.toNat := rfl
      obtain ⟨m, hm⟩ := Int.eq_ofNat_of_zero_le hok.lo
      rw [hm] at hlt hF hjm hin rr2 ra0 ra1 kk0 kk1 hrow
      rw [Int.toNat_natCast] at hlt hF hjm hin
      generalize raOf F (m : Int) = ra at *
      generalize rbOf F (m : Int) = rb at *
      generalize rdOf F (m : Int) = rd at *
      generalize kOf F (m : Int) = k5 at *
      obtain ⟨op, hop⟩ : ∃ op, (F m).op = op := ⟨_, rfl⟩
      rw [hop] at hF hjm
      rw [hF] at hin
      obtain ⟨r0, r1, r2, r3, r4, r5, r6, r7, r8, r9, r10, r11, r12⟩ := hrow
      have y0 := HS.out.code
      have HJM := shade hjm
      have HIN := shade hin
      have HOKR := shade (⟨rr2, ra0, ra1, kk0, kk1⟩ : ra < 4 ∧ 0 ≤ tt.r ra ∧ tt.r ra ≤ 255 ∧ 0 ≤ k5 ∧ k5 ≤ 255)
      have HF := shade hF
      have hm40 : m < 40 := by omega
      clear hv hok hh hw h9 hF hjm hin hm hop rr1 rr2 rr3 ra0 ra1 kk0 kk1 ht h40
      go_upto_region 7 with (fail)
      obtain ⟨W5, hW5⟩ : ∃ W5, wr.alloc (.cells #[.int .i64 (m : Int), .int .i64 (tt.r 0), .int .i64 (tt.r 1), .int .i64 (tt.r 2), .int .i64 (tt.r 3), .int .i64 (tt.m 0), .int .i64 (tt.m 1), .int .i64 (tt.m 2), .int .i64 (tt.m 3), .int .i64 (tt.m 4), .int .i64 (tt.m 5), .int .i64 (tt.m 6), .int .i64 (tt.m 7)] 60) = W5 := ⟨_, rfl⟩
      have hX : Holds5 (wr.alloc (.cells #[.int .i64 (m : Int), .int .i64 (tt.r 0), .int .i64 (tt.r 1), .int .i64 (tt.r 2), .int .i64 (tt.r 3), .int .i64 (tt.m 0), .int .i64 (tt.m 1), .int .i64 (tt.m 2), .int .i64 (tt.m 3), .int .i64 (tt.m 4), .int .i64 (tt.m 5), .int .i64 (tt.m 6), .int .i64 (tt.m 7)] 60)) wr.heap.size 60 #[.int .i64 (m : Int), .int .i64 (tt.r 0), .int .i64 (tt.r 1), .int .i64 (tt.r 2), .int .i64 (tt.r 3), .int .i64 (tt.m 0), .int .i64 (tt.m 1), .int .i64 (tt.m 2), .int .i64 (tt.m 3), .int .i64 (tt.m 4), .int .i64 (tt.m 5), .int .i64 (tt.m 6), .int .i64 (tt.m 7)] := Holds5.fresh wr 60 #[.int .i64 (m : Int), .int .i64 (tt.r 0), .int .i64 (tt.r 1), .int .i64 (tt.r 2), .int .i64 (tt.r 3), .int .i64 (tt.m 0), .int .i64 (tt.m 1), .int .i64 (tt.m 2), .int .i64 (tt.m 3), .int .i64 (tt.m 4), .int .i64 (tt.m 5), .int .i64 (tt.m 6), .int .i64 (tt.m 7)]
      have hga := World.grownBy_alloc wr (.cells #[.int .i64 (m : Int), .int .i64 (tt.r 0), .int .i64 (tt.r 1), .int .i64 (tt.r 2), .int .i64 (tt.r 3), .int .i64 (tt.m 0), .int .i64 (tt.m 1), .int .i64 (tt.m 2), .int .i64 (tt.m 3), .int .i64 (tt.m 4), .int .i64 (tt.m 5), .int .i64 (tt.m 6), .int .i64 (tt.m 7)] 60) none
      rw [hW5] at hX hga ⊢
      have hx0 := hX.look 0
      simp at hx0
      have hy0 := hga.cell y0 (by intro e; cases e)
      have hlow5 := grown_same HS.out.low hga
      obtain ⟨bc, oc, rfl, -⟩ := (HCW.out.on hlow5).resolve_left (by omega)
      have q5 := (HCW.out.on hlow5).five hlt
      rw [HF.out] at q5
      simp only [] at q5
      obtain ⟨q0, q1, q2, q3, q4⟩ := q5
      have HX5 := shade hX
      have HA5 := shade hga
      clear hW5 hX hga hlow5 y0 r0 r1 r2 r3 r4 r5 r6 r7 r8 r9 r10 r11 r12
      go_upto_region 8 with (fail)
      have hga2 := World.grownBy_alloc W5 (.cells #[.string op, .int .i64 rd, .int .i64 ra, .int .i64 rb, .int .i64 k5] 37) none
      have hC5 : Holds5 (W5.alloc (.cells #[.string op, .int .i64 rd, .int .i64 ra, .int .i64 rb, .int .i64 k5] 37)) W5.heap.size 37 #[.string op, .int .i64 rd, .int .i64 ra, .int .i64 rb, .int .i64 k5] := Holds5.fresh W5 37 #[.string op, .int .i64 rd, .int .i64 ra, .int .i64 rb, .int .i64 k5]
      have hX6 := HX5.out.grown hga2 (by intro e; cases e)
      have hA6 := grown_same HA5.out hga2
      obtain ⟨W6, hW6⟩ : ∃ W6, W5.alloc (.cells #[.string op, .int .i64 rd, .int .i64 ra, .int .i64 rb, .int .i64 k5] 37) = W6 := ⟨_, rfl⟩
      rw [hW6] at hga2 hC5 hX6 hA6 ⊢
      have r0 := hX6.look 0; have r1 := hX6.look 1; have r2 := hX6.look 2; have r3 := hX6.look 3; have r4 := hX6.look 4; have r5 := hX6.look 5; have r6 := hX6.look 6; have r7 := hX6.look 7; have r8 := hX6.look 8; have r9 := hX6.look 9; have r10 := hX6.look 10; have r11 := hX6.look 11; have r12 := hX6.look 12
      simp at r0 r1 r2 r3 r4 r5 r6 r7 r8 r9 r10 r11 r12
      have s0 := hC5.look 0; have s1 := hC5.look 1; have s2 := hC5.look 2; have s3 := hC5.look 3; have s4 := hC5.look 4
      simp at s0 s1 s2 s3 s4
      have hg6 : WT W6 := HGW.out.below (below_of_grown (grown_same HS.out.low hA6)) (wt_lt HGW.out)
      have HWO := shade (wordOf_any op W6 hg6)
      have HA6 := shade hA6
      have xr := hX6.look (1 + ra)
      rw [show (#[.int .i64 (m : Int), .int .i64 (tt.r 0), .int .i64 (tt.r 1), .int .i64 (tt.r 2), .int .i64 (tt.r 3), .int .i64 (tt.m 0), .int .i64 (tt.m 1), .int .i64 (tt.m 2), .int .i64 (tt.m 3), .int .i64 (tt.m 4), .int .i64 (tt.m 5), .int .i64 (tt.m 6), .int .i64 (tt.m 7)] : Array Value) = stC (m : Int) tt.r tt.m from rfl, stC_get1 _ _ _ _ HOKR.out.1] at xr
      have iA : (ra : Int) < 4 := by have := HOKR.out.1; omega
      have iA0 : (0 : Int) ≤ (ra : Int) := by omega
      have HX6 := shade hX6; have HC6 := shade hC5
      have HO6 := shade (ownsRow_on HS.out.o1 HA6.out); have HP6 := shade (ownsRow_on HS.out.o2 HA6.out)
      have HB6 := shade (Nat.le_trans HS.out.big HA6.out.size)
      have HSZ := shade (show wr.heap.size ≤ W5.heap.size from HA5.out.size)
      have HQ := shade (fun j (e : (Value.slice A4 i c4).ownBlock = some j) => (World.ownsRow.lt HS.out.o1 j e).2)
      have hin2 : insS F (g i) = ⟨op, rd, ra, rb, k5⟩ := by rw [HT.out]; exact HIN.out
      have HIN2 := shade hin2
      have hjm2 : jmS F (g i) = ((decide (wordN op.toList = 8)) || (decide (wordN op.toList = 7) && (tt.r ra == 0))) := by rw [HT.out]; exact HJM.out
      clear hga2 hC5 hX6 hA6 hg6 hW6 HX5 HA5 q0 q1 q2 q3 q4 hx0 hy0 hin2 HIN HJM
      generalize wordN op.toList = x at *
      have HJM2 := shade hjm2
      clear hjm2
      obtain ⟨i0, hi0, hz0, hz1, hz2⟩ := info_parts info24
      go_wp2_with (first
        | (go_at_call 29; refine HWO.out.mono ?_; rintro e w' ⟨rfl, rfl⟩)
        | (at_builtin; refine wpList_append_own _ rfl _ _ 23 rfl W2.heap.size 37 i0 (.agg #[.string ⟨#[]⟩, .int .i64 0, .int .i64 0, .int .i64 0, .int .i64 0]) 5 48 Tryd.underlying23 hi0 hz0 hz1 hz2 rfl (by decide) _ _ _ rfl (World.ownsRow.alloc HO6.out _) ⟨W6.heap.size, 0, none⟩ 1 1 [.string op, .int .i64 rd, .int .i64 ra, .int .i64 rb, .int .i64 k5] rfl rfl (cells_new _ _ _ _ _ _ _) (one_cells _ _ _ _ _) (by unfold maxLen; omega) (by omega) (by have := HB6.out; simp; omega) ?_)
        | go_in)
      intro v8 w8 hown8 hgr8 hnil8
      rw [codeL_snoc' i (fun j => insS F (g j)) ⟨op, rd, ra, rb, k5⟩ HIN2.out] at hown8
      have HP1 := shade hown8
      have HQ1 := shade (show W6.grownBy w8 (Value.slice A4 i c4).ownBlock from grown_same (World.grownBy_alloc W6 (.cells #[.string op, .int .i64 rd, .int .i64 ra, .int .i64 rb, .int .i64 k5] 37) _) hgr8)
      obtain ⟨A8, c8, rfl, -⟩ := ownsRow_slice hown8
      have HO8 := shade (kept_ty HO6.out HP6.out (by decide) HQ1.out)
      have hX8 := HX6.out.grown HQ1.out (fun e => by
        have := HQ.out _ e.symm
        omega)
      have hC8 := HC6.out.grown HQ1.out (fun e => by
        have := HQ.out _ e.symm
        have := HSZ.out
        omega)
      have hsz8 := HQ1.out.size
      have HB8 := shade (Nat.le_trans HB6.out hsz8)
      clear hown8 hgr8 hnil8 r0 r1 r2 r3 r4 r5 r6 r7 r8 r9 r10 r11 r12 s0 s1 s2 s3 s4 xr HWO hsz8
      have s2 := hC8.look 2
      simp at s2
      have xr := hX8.look (1 + ra)
      rw [show (#[.int .i64 (m : Int), .int .i64 (tt.r 0), .int .i64 (tt.r 1), .int .i64 (tt.r 2), .int .i64 (tt.r 3), .int .i64 (tt.m 0), .int .i64 (tt.m 1), .int .i64 (tt.m 2), .int .i64 (tt.m 3), .int .i64 (tt.m 4), .int .i64 (tt.m 5), .int .i64 (tt.m 6), .int .i64 (tt.m 7)] : Array Value) = stC (m : Int) tt.r tt.m from rfl, stC_get1 _ _ _ _ HOKR.out.1] at xr
      clear hX8 hC8
      obtain ⟨j0, hj0, hy0, hy1, hy2⟩ := info_parts info4b
      obtain ⟨jv, hjv⟩ : ∃ jv, jmS F (g i) = jv := ⟨_, rfl⟩
      have HJV := shade hjv
      have hjv2 := HJM2.out
      rw [hjv] at hjv2
      clear hjv HJM2
      have hx3 : x = 8 ∨ x = 7 ∨ (x ≠ 8 ∧ x ≠ 7) := by omega
      rcases hx3 with rfl | rfl | ⟨n8, n7⟩
      rotate_left 2
      rw [decide_eq_false n8, decide_eq_false n7] at hjv2
      have n8b : (x == 8) = false := beq_eq_false_iff_ne.2 n8
      have n7b : (x == 7) = false := beq_eq_false_iff_ne.2 n7
      rotate_left 1
      all_goals
        simp only [Bool.false_or, Bool.true_or, Bool.false_and, Bool.true_and, decide_true, (by decide : decide ((7 : Int) = 8) = false), (by decide : decide ((8 : Int) = 8) = true), (by decide : decide ((7 : Int) = 7) = true)] at hjv2
        subst hjv2
        go_wp2_with (first
          | (at_builtin; refine wpList_append_own _ rfl _ _ 29 rfl W2.heap.size 4 j0 (.bool false) 1 1 Tryd.underlying29 hj0 hy0 hy1 hy2 rfl (by decide) _ _ _ rfl (World.ownsRow.alloc HO8.out _) ⟨w8.heap.size, 0, none⟩ 1 1 [.bool _] rfl rfl (bool_new _ _ _) (bool_one _) (by unfold maxLen; omega) (by omega) (by have := HB8.out; simp; omega) ?_)
          | go_in)
        intro v7 w7 hown7 hgr7 hnil7
        (try rw [n8b] at hown7)
        rw [bolL_snoc' i (fun j => jmS F (g j)) _ HJV.out] at hown7
        have HQ3 := shade (show w8.grownBy w7 (Value.slice A5 i c5).ownBlock from grown_same (World.grownBy_alloc w8 _ _) hgr7)
        have HN := shade (HS.out.app HWB.out (by have := HZ.out; omega) HLW.out HA6.out HP1.out HQ1.out (grown_refl w8 none) hown7 HQ3.out)
        clear hown7 hgr7 hnil7 s2 xr HS
        go_wp2_with fail
        go_roundw
        case rel => exact ⟨i + 1, by omega, by go_num, HN.out⟩
        case measure => simp [intOf]; omega
    · obtain rfl : i = k := by omega
      go_wp2_with fail
      go_ret2
      exact ⟨_, _, rfl, World.ownsRow.mono HS.out.o1 HWB.out, World.ownsRow.mono HS.out.o2 HWB.out, HS.out.low⟩
end Go.Proofs.YtcfnoihjpiklhaaDoor
