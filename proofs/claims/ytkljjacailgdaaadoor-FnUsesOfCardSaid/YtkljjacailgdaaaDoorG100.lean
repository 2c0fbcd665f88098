/- PlacesOf, over whatever runOf leaves. The model's PlacesOf. PlacesOf and its model answer alike. -/
import Derived.Test.YtkljjacailgdaaaDoorG96
import Derived.Deep.QuietTactic
import Derived.BigQuiet
namespace Go.Proofs.YtkljjacailgdaaaDoor
open Go.RowKit
set_option linter.unusedSimpArgs false
/-- The cell that a step reads or writes, if it does; for a write, eight more. -/
def plOpt (F : Nat → Ins) (s : Sta) : List Int :=
  if nOf F s.at' = 5 then [(placeN s.r (raOf F s.at') (kOf F s.at') : Int)] else if nOf F s.at' = 6 then [(placeN s.r (raOf F s.at') (kOf F s.at') : Int) + 8] else []
/-- The cells of the first i states, in order. -/
def plL (F : Nat → Ins) (g : Nat → Sta) : Nat → List Int
  | 0 => []
  | i + 1 => plL F g i ++ plOpt F (g i)
theorem plOpt_le (F : Nat → Ins) (s : Sta) : (plOpt F s).length ≤ 1 := by
  unfold plOpt
  split
  · exact Nat.le_refl _
  · split
    · exact Nat.le_refl _
    · exact Nat.zero_le _
theorem plL_le (F : Nat → Ins) (g : Nat → Sta) : ∀ i, (plL F g i).length ≤ i := by
  intro i
  induction i with
  | zero => exact Nat.le_refl _
  | succ i ih =>
    show (plL F g i ++ plOpt F (g i)).length ≤ i + 1
    rw [List.length_append]
    have := plOpt_le F (g i)
    omega
/-- A list of numbers as cells. -/
def valL (l : List Int) : List Value := l.map (Value.int .i64)
theorem valL_snoc (l : List Int) (x : Int) : valL l ++ [.int .i64 x] = valL (l ++ [x]) := by
  unfold valL
  rw [List.map_append]
  rfl
theorem numL_list (l : List Int) : numL l.length (fun j => l.getD j 0) = valL l := by
  unfold numL valL
  apply List.ext_getElem
  · simp
  · intro i h1 h2
    have hi : i < l.length := by simpa using h1
    simp [hi]
/-- What stands while the cells are put together: those of i states so far. -/
structure PlO (w wr : World) (B R : Nat) (A0 : Option Addr) (l0 c0 : Nat) (A3 : Option Addr) (k : Nat) (g : Nat → Sta) (F : Nat → Ins) (i : Nat) (v : Value) : Prop where
  own : wr.ownsRow B 3 1 v (plL F g i).length (valL (plL F g i))
  sta : Stas wr A3 k g
  low : w.grownBy wr none
  big : B ≤ wr.heap.size
  code : wr.cell? ⟨R, 0, none⟩ = some (.slice A0 l0 c0)
section
variable {w wr w7 w7' w8 : World} {B R : Nat} {A0 : Option Addr} {l0 c0 : Nat} {A3 : Option Addr} {k : Nat} {g : Nat → Sta} {F : Nat → Ins} {i : Nat} {v v' : Value}
theorem PlO.app (h : PlO w wr B R A0 l0 c0 A3 k g F i v) (hB : w.heap.size ≤ B) (hR : R < B) (hl : ∀ b off, A3 = some ⟨b, off, none⟩ → b < B) (hg : wr.grownBy w7 none) (ho : w8.ownsRow B 3 1 v' (plL F g (i + 1)).length (valL (plL F g (i + 1)))) (hgr : w7.grownBy w8 v.ownBlock) : PlO w w8 B R A0 l0 c0 A3 k g F (i + 1) v' := by
  have ho7 := ownsRow_on h.own hg
  refine ⟨ho, (h.sta.on hg).grown hgr (fun b off e e' => ?_), grown_row (grown_same h.low hg) hgr (fun j e => ?_), Nat.le_trans h.big (Nat.le_trans hg.size hgr.size), hgr.cell (hg.cell h.code (by intro e; cases e)) (fun e => ?_)⟩
  · have h1 := hl b off e
    have h2 := (World.ownsRow.lt ho7 b e'.symm).1
    omega
  · have h2 := (World.ownsRow.lt ho7 j e).1
    omega
  · have h2 := (World.ownsRow.lt ho7 R e.symm).1
    omega
theorem PlO.skip (h : PlO w wr B R A0 l0 c0 A3 k g F i v) (hg : wr.grownBy w7 none) (he : plL F g (i + 1) = plL F g i) : PlO w w7 B R A0 l0 c0 A3 k g F (i + 1) v :=
  ⟨by rw [he]; exact ownsRow_on h.own hg, h.sta.on hg, grown_same h.low hg, Nat.le_trans h.big hg.size, hg.cell h.code (by intro e; cases e)⟩
end
set_option maxRecDepth 100000 in
set_option maxHeartbeats 16000000 in
theorem PlacesOf_res (A : Option Addr) (len cap : Nat) (at' : Int) (A1 : Option Addr) (n1 c1 : Nat) (A2 : Option Addr) (n2 c2 : Nat) (fuel : Int) (F : Nat → Ins) (k : Nat) (g : Nat → Sta) (w : World) (hg : WT w) (hC : Code w A len F) (hk : k ≤ 300) (hst : ∀ i, i < k → vcB len F = true ∧ OkS (g i) ∧ sHalt len F (g i) = false) (hR : ∀ W, w.grownBy W none → Calls Tryd.prog 66 #[.slice A len cap, MV at' A1 n1 c1 A2 n2 c2, .int .i64 fuel] W (RunRes A len k g W)) :
    Calls Tryd.prog 30 #[.slice A len cap, MV at' A1 n1 c1 A2 n2 c2, .int .i64 fuel] w (NumRes (plL F g k).length (fun j => (plL F g k).getD j 0) w) := by
  have HR := shade hR
  have HGW := shade hg
  have HCW := shade hC
  have HST := shade hst
  have HG0 := shade (World.grownBy_alloc w (.cells #[.int .i64 at', .slice A1 n1 c1, .slice A2 n2 c2] 31) none)
  have x0 : (w.alloc (.cells #[.int .i64 at', .slice A1 n1 c1, .slice A2 n2 c2] 31)).cell? ⟨w.heap.size, 0, none⟩ = some (.int .i64 at') := (Holds5.fresh w 31 _).look 0
  have x1 : (w.alloc (.cells #[.int .i64 at', .slice A1 n1 c1, .slice A2 n2 c2] 31)).cell? ⟨w.heap.size, 1, none⟩ = some (.slice A1 n1 c1) := (Holds5.fresh w 31 _).look 1
  have x2 : (w.alloc (.cells #[.int .i64 at', .slice A1 n1 c1, .slice A2 n2 c2] 31)).cell? ⟨w.heap.size, 2, none⟩ = some (.slice A2 n2 c2) := (Holds5.fresh w 31 _).look 2
  clear hR hg hC hst
  go_enter Tryd.func30, Tryd.ntmps30
  go_wp2_with fail
  refine (HR.out _ HG0.out).mono ?_
  rintro e w1 ⟨A0, l0, c0, A3, c3, t, d, b, rfl, hcd, hst, hsep, hgr⟩
  have hg1 := grown_same HG0.out hgr
  have h0 := HG0.out.size
  rw [World.size_alloc] at h0 hsep
  have HCD := shade hcd
  clear HR HG0 x0 x1 x2 hgr hcd
  go_upto_region 2 with (fail)
  have HE := shade (show Holds5 (w1.alloc (.cells #[.slice A0 l0 c0, .slice A3 k c3, .int .i64 t.at', .int .i64 (t.r 0), .int .i64 (t.r 1), .int .i64 (t.r 2), .int .i64 (t.r 3), .int .i64 (t.m 0), .int .i64 (t.m 1), .int .i64 (t.m 2), .int .i64 (t.m 3), .int .i64 (t.m 4), .int .i64 (t.m 5), .int .i64 (t.m 6), .int .i64 (t.m 7), .bool d] 84)) w1.heap.size 84 #[.slice A0 l0 c0, .slice A3 k c3, .int .i64 t.at', .int .i64 (t.r 0), .int .i64 (t.r 1), .int .i64 (t.r 2), .int .i64 (t.r 3), .int .i64 (t.m 0), .int .i64 (t.m 1), .int .i64 (t.m 2), .int .i64 (t.m 3), .int .i64 (t.m 4), .int .i64 (t.m 5), .int .i64 (t.m 6), .int .i64 (t.m 7), .bool d] from Holds5.fresh w1 84 #[.slice A0 l0 c0, .slice A3 k c3, .int .i64 t.at', .int .i64 (t.r 0), .int .i64 (t.r 1), .int .i64 (t.r 2), .int .i64 (t.r 3), .int .i64 (t.m 0), .int .i64 (t.m 1), .int .i64 (t.m 2), .int .i64 (t.m 3), .int .i64 (t.m 4), .int .i64 (t.m 5), .int .i64 (t.m 6), .int .i64 (t.m 7), .bool d])
  have hga := World.grownBy_alloc w1 (.cells #[.slice A0 l0 c0, .slice A3 k c3, .int .i64 t.at', .int .i64 (t.r 0), .int .i64 (t.r 1), .int .i64 (t.r 2), .int .i64 (t.r 3), .int .i64 (t.m 0), .int .i64 (t.m 1), .int .i64 (t.m 2), .int .i64 (t.m 3), .int .i64 (t.m 4), .int .i64 (t.m 5), .int .i64 (t.m 6), .int .i64 (t.m 7), .bool d] 84) none
  have HS := shade (hst.on hga)
  have HG := shade (grown_same hg1 hga)
  have HZ := shade (show (w1.alloc (.cells #[.slice A0 l0 c0, .slice A3 k c3, .int .i64 t.at', .int .i64 (t.r 0), .int .i64 (t.r 1), .int .i64 (t.r 2), .int .i64 (t.r 3), .int .i64 (t.m 0), .int .i64 (t.m 1), .int .i64 (t.m 2), .int .i64 (t.m 3), .int .i64 (t.m 4), .int .i64 (t.m 5), .int .i64 (t.m 6), .int .i64 (t.m 7), .bool d] 84)).heap.size = w1.heap.size + 1 from World.size_alloc _ _)
  have HSP := shade hsep
  obtain ⟨W2, hW⟩ : ∃ W2, w1.alloc (.cells #[.slice A0 l0 c0, .slice A3 k c3, .int .i64 t.at', .int .i64 (t.r 0), .int .i64 (t.r 1), .int .i64 (t.r 2), .int .i64 (t.r 3), .int .i64 (t.m 0), .int .i64 (t.m 1), .int .i64 (t.m 2), .int .i64 (t.m 3), .int .i64 (t.m 4), .int .i64 (t.m 5), .int .i64 (t.m 6), .int .i64 (t.m 7), .bool d] 84) = W2 := ⟨_, rfl⟩
  rw [hW] at HE HS HG HZ ⊢
  have y1 := HE.out.look 1
  simp at y1
  clear hW hst hsep hga hg1
  have hM : PlO w W2 W2.heap.size w1.heap.size A0 l0 c0 A3 k g F 0 (.slice none 0 0) := ⟨World.ownsRow_nil _ _ _ _, HS.out, HG.out, Nat.le_refl _, HE.out.look 0⟩
  have hlow : ∀ b off, A3 = some ⟨b, off, none⟩ → b < W2.heap.size := fun b off e => by
    have := HSP.out b off e
    have := HZ.out
    omega
  have HM := shade hM
  have HLW := shade hlow
  have hwb : w.heap.size ≤ W2.heap.size := HG.out.size
  have HWB := shade hwb
  clear hM hlow hwb HS HG HSP
  go_wp2_with fail
  go_loopw [9, 23] (fun v q wr => ∃ i : Nat, i ≤ k ∧ q = .int .i64 i ∧ PlO w wr W2.heap.size w1.heap.size A0 l0 c0 A3 k g F i v) (fun _ q _ => k - (intOf q).toNat)
  case atStart => exact ⟨0, Nat.zero_le _, rfl, HM.out⟩
  case round =>
    clear HM
    obtain ⟨i, hi, rfl, hs⟩ := hrel
    obtain ⟨A4, c4, rfl, -⟩ := ownsRow_slice hs.own
    have HS := shade hs
    clear hs
    by_cases hik : i < k
    · obtain ⟨b3, o3, rfl, -⟩ := HS.out.sta.resolve_left (by omega)
      have hrow := HS.out.sta.row hik
      obtain ⟨hv, hok, hh⟩ := HST.out i hik
      obtain ⟨rfl, rfl⟩ := HCD.out.resolve_left (by omega)
      obtain ⟨tt, ht⟩ : ∃ tt, g i = tt := ⟨_, rfl⟩
      rw [ht] at hrow hok hh
      have HT := shade ht
      obtain ⟨hlt, _⟩ := halt_parts hh
      obtain ⟨h40, ⟨rr1, rr2, rr3⟩, ⟨kk0, kk1⟩, hw, h9, hF⟩ := ins_parts hv hlt
      obtain ⟨ra0, ra1⟩ := hok.r _ rr2
      have hn5 : nOf F tt.at' = 5 ↔ wordN (F tt.at'.toNat).op.toList = 5 := by omega
      have hn6 : nOf F tt.at' = 6 ↔ wordN (F tt.at'.toNat).op.toList = 6 := by omega
      have hopt : plOpt F tt = if wordN (F tt.at'.toNat).op.toList = 5 then [(placeN tt.r (raOf F tt.at') (kOf F tt.at') : Int)] else if wordN (F tt.at'.toNat).op.toList = 6 then [(placeN tt.r (raOf F tt.at') (kOf F tt.at') : Int) + 8] else [] := by
        unfold plOpt
        simp only [hn5, hn6]
      obtain ⟨m, hm⟩ := Int.eq_ofNat_of_zero_le hok.lo
      rw [hm] at hlt hF hopt rr2 ra0 ra1 kk0 kk1 hrow
      rw [Int.toNat_natCast] at hlt hF hopt
      generalize raOf F (m : Int) = ra at *
      generalize rbOf F (m : Int) = rb at *
      generalize rdOf F (m : Int) = rd at *
      generalize kOf F (m : Int) = k5 at *
      obtain ⟨op, hop⟩ : ∃ op, (F m).op = op := ⟨_, rfl⟩
      rw [hop] at hF hopt
      obtain ⟨r0, r1, r2, r3, r4, r5, r6, r7, r8, r9, r10, r11, r12⟩ := hrow
      have y0 := HS.out.code
      have HOPT := shade hopt
      have HOKR := shade (⟨rr2, ra0, ra1, kk0, kk1⟩ : ra < 4 ∧ 0 ≤ tt.r ra ∧ tt.r ra ≤ 255 ∧ 0 ≤ k5 ∧ k5 ≤ 255)
      have HF := shade hF
      have hm40 : m < 40 := by omega
      clear hv hok hh hw h9 hF hn5 hn6 hm hop hopt rr1 rr2 rr3 ra0 ra1 kk0 kk1 ht h40
      go_upto_region 6 with (fail)
      obtain ⟨W5, hW5⟩ : ∃ W5, wr.alloc (.cells #[.int .i64 (m : Int), .int .i64 (tt.r 0), .int .i64 (tt.r 1), .int .i64 (tt.r 2), .int .i64 (tt.r 3), .int .i64 (tt.m 0), .int .i64 (tt.m 1), .int .i64 (tt.m 2), .int .i64 (tt.m 3), .int .i64 (tt.m 4), .int .i64 (tt.m 5), .int .i64 (tt.m 6), .int .i64 (tt.m 7)] 73) = W5 := ⟨_, rfl⟩
      have hX : Holds5 (wr.alloc (.cells #[.int .i64 (m : Int), .int .i64 (tt.r 0), .int .i64 (tt.r 1), .int .i64 (tt.r 2), .int .i64 (tt.r 3), .int .i64 (tt.m 0), .int .i64 (tt.m 1), .int .i64 (tt.m 2), .int .i64 (tt.m 3), .int .i64 (tt.m 4), .int .i64 (tt.m 5), .int .i64 (tt.m 6), .int .i64 (tt.m 7)] 73)) wr.heap.size 73 #[.int .i64 (m : Int), .int .i64 (tt.r 0), .int .i64 (tt.r 1), .int .i64 (tt.r 2), .int .i64 (tt.r 3), .int .i64 (tt.m 0), .int .i64 (tt.m 1), .int .i64 (tt.m 2), .int .i64 (tt.m 3), .int .i64 (tt.m 4), .int .i64 (tt.m 5), .int .i64 (tt.m 6), .int .i64 (tt.m 7)] := Holds5.fresh wr 73 #[.int .i64 (m : Int), .int .i64 (tt.r 0), .int .i64 (tt.r 1), .int .i64 (tt.r 2), .int .i64 (tt.r 3), .int .i64 (tt.m 0), .int .i64 (tt.m 1), .int .i64 (tt.m 2), .int .i64 (tt.m 3), .int .i64 (tt.m 4), .int .i64 (tt.m 5), .int .i64 (tt.m 6), .int .i64 (tt.m 7)]
      have hga := World.grownBy_alloc wr (.cells #[.int .i64 (m : Int), .int .i64 (tt.r 0), .int .i64 (tt.r 1), .int .i64 (tt.r 2), .int .i64 (tt.r 3), .int .i64 (tt.m 0), .int .i64 (tt.m 1), .int .i64 (tt.m 2), .int .i64 (tt.m 3), .int .i64 (tt.m 4), .int .i64 (tt.m 5), .int .i64 (tt.m 6), .int .i64 (tt.m 7)] 73) none
      rw [hW5] at hX hga ⊢
      have hx0 := hX.look 0
      simp at hx0
      have hy0 := hga.cell y0 (by intro e; cases e)
      have hlow5 := grown_same HS.out.low hga
      obtain ⟨bc, oc, rfl, -⟩ := (HCW.out.on hlow5).resolve_left (by omega)
      have q5 := (HCW.out.on hlow5).five hlt
      rw [HF.out] at q5
      simp only [] at q5
      obtain ⟨q0, q1, q2, q3, q4⟩ := q5
      have HX5 := shade hX
      have HA5 := shade hga
      clear hW5 hX hga hlow5 y0 r0 r1 r2 r3 r4 r5 r6 r7 r8 r9 r10 r11 r12
      go_upto_region 7 with (fail)
      have hga2 := World.grownBy_alloc W5 (.cells #[.string op, .int .i64 rd, .int .i64 ra, .int .i64 rb, .int .i64 k5] 24) none
      have hC5 : Holds5 (W5.alloc (.cells #[.string op, .int .i64 rd, .int .i64 ra, .int .i64 rb, .int .i64 k5] 24)) W5.heap.size 24 #[.string op, .int .i64 rd, .int .i64 ra, .int .i64 rb, .int .i64 k5] := Holds5.fresh W5 24 #[.string op, .int .i64 rd, .int .i64 ra, .int .i64 rb, .int .i64 k5]
      have hX6 := HX5.out.grown hga2 (by intro e; cases e)
      have hA6 := grown_same HA5.out hga2
      obtain ⟨W6, hW6⟩ : ∃ W6, W5.alloc (.cells #[.string op, .int .i64 rd, .int .i64 ra, .int .i64 rb, .int .i64 k5] 24) = W6 := ⟨_, rfl⟩
      rw [hW6] at hga2 hC5 hX6 hA6 ⊢
      have r0 := hX6.look 0; have r1 := hX6.look 1; have r2 := hX6.look 2; have r3 := hX6.look 3; have r4 := hX6.look 4; have r5 := hX6.look 5; have r6 := hX6.look 6; have r7 := hX6.look 7; have r8 := hX6.look 8; have r9 := hX6.look 9; have r10 := hX6.look 10; have r11 := hX6.look 11; have r12 := hX6.look 12
      simp at r0 r1 r2 r3 r4 r5 r6 r7 r8 r9 r10 r11 r12
      have s0 := hC5.look 0; have s1 := hC5.look 1; have s2 := hC5.look 2; have s3 := hC5.look 3; have s4 := hC5.look 4
      simp at s0 s1 s2 s3 s4
      have hg6 : WT W6 := HGW.out.below (below_of_grown (grown_same HS.out.low hA6)) (wt_lt HGW.out)
      have HWO := shade (wordOf_any op W6 hg6)
      have HA6 := shade hA6
      have HCO := shade (fun W => cellOf_any (m : Int) tt.r tt.m op rd rb ra k5 W HOKR.out.1 HOKR.out.2.1 HOKR.out.2.2.1 HOKR.out.2.2.2.1 HOKR.out.2.2.2.2)
      clear hga2 hC5 hX6 hA6 hg6 hW6 HX5 HA5 q0 q1 q2 q3 q4 hx0 hy0
      go_upto_region 8 with (first | (go_at_call 51; refine HWO.out.mono ?_; rintro e w' ⟨rfl, rfl⟩))
      clear HWO
      generalize wordN op.toList = x at *
      obtain ⟨i0, hi0, hz0, hz1, hz2⟩ := info_parts info3
      have hl3 := plL_le F g i
      by_cases h5 : x = 5
      · subst h5
        go_wp2_with fail
        refine (HCO.out _).mono ?_
        rintro e w7 ⟨rfl, hgr⟩
        have hA7 := grown_same HA6.out hgr
        have HO7 := shade (ownsRow_on HS.out.own hA7)
        have HA7 := shade hA7
        have hb7 := Nat.le_trans HS.out.big hA7.size
        have HB7 := shade hb7
        have hpl : plL F g (i + 1) = plL F g i ++ [(placeN tt.r ra k5 : Int)] := by
          show plL F g i ++ plOpt F (g i) = _
          rw [HT.out, HOPT.out]
          simp
        have HPL := shade hpl
        clear hgr hA7 hb7 hpl HCO HA6 HOPT r0 r1 r2 r3 r4 r5 r6 r7 r8 r9 r10 r11 r12 s0 s1 s2 s3 s4
        have hp8 := placeN_lt tt.r ra k5
        go_wp2_with (first
            | (at_builtin; refine wpList_append_own _ rfl _ _ 29 rfl W2.heap.size 3 i0 (.int .i64 0) 1 8 Tryd.underlying29 hi0 hz0 hz1 hz2 rfl (by decide) _ _ _ rfl (World.ownsRow.alloc HO7.out _) ⟨w7.heap.size, 0, none⟩ 1 1 [.int .i64 (placeN tt.r ra k5 : Int)] rfl rfl (int_new _ _ _) (int_one _) (by unfold maxLen; omega) (by omega) (by have := HB7.out; simp; omega) ?_)
            | go_in)
        intro v' w8 hown8 hgr8 hnil8
        rw [valL_snoc, ← HPL.out] at hown8
        have hlen8 : (plL F g i).length + 1 = (plL F g (i + 1)).length := by rw [HPL.out, List.length_append]; rfl
        rw [hlen8] at hown8
        have H8 := shade (HS.out.app HWB.out (by have := HZ.out; omega) HLW.out (grown_same HA7.out (World.grownBy_alloc w7 (.cells #[.int .i64 (placeN tt.r ra k5 : Int)] 3) none)) hown8 hgr8)
        clear hown8 hgr8 hnil8 hi0 hz0 hz1 hz2 HS HO7 HA7 hlen8 hp8
        go_wp2
        go_roundw
        case rel => exact ⟨i + 1, by omega, by go_num, H8.out⟩
        case measure => simp [intOf]; omega
      by_cases h6 : x = 6
      · subst h6
        go_wp2_with fail
        refine (HCO.out _).mono ?_
        rintro e w7 ⟨rfl, hgr⟩
        have hA7 := grown_same HA6.out hgr
        have HO7 := shade (ownsRow_on HS.out.own hA7)
        have HA7 := shade hA7
        have hb7 := Nat.le_trans HS.out.big hA7.size
        have HB7 := shade hb7
        have hpl : plL F g (i + 1) = plL F g i ++ [((placeN tt.r ra k5 : Int) + 8)] := by
          show plL F g i ++ plOpt F (g i) = _
          rw [HT.out, HOPT.out]
          simp
        have HPL := shade hpl
        clear hgr hA7 hb7 hpl HCO HA6 HOPT r0 r1 r2 r3 r4 r5 r6 r7 r8 r9 r10 r11 r12 s0 s1 s2 s3 s4
        have hp8 := placeN_lt tt.r ra k5
        go_wp2_with (first
            | (at_builtin; refine wpList_append_own _ rfl _ _ 29 rfl W2.heap.size 3 i0 (.int .i64 0) 1 8 Tryd.underlying29 hi0 hz0 hz1 hz2 rfl (by decide) _ _ _ rfl (World.ownsRow.alloc HO7.out _) ⟨w7.heap.size, 0, none⟩ 1 1 [.int .i64 ((placeN tt.r ra k5 : Int) + 8)] rfl rfl (int_new _ _ _) (int_one _) (by unfold maxLen; omega) (by omega) (by have := HB7.out; simp; omega) ?_)
            | go_in)
        intro v' w8 hown8 hgr8 hnil8
        rw [valL_snoc, ← HPL.out] at hown8
        have hlen8 : (plL F g i).length + 1 = (plL F g (i + 1)).length := by rw [HPL.out, List.length_append]; rfl
        rw [hlen8] at hown8
        have H8 := shade (HS.out.app HWB.out (by have := HZ.out; omega) HLW.out (grown_same HA7.out (World.grownBy_alloc w7 (.cells #[.int .i64 ((placeN tt.r ra k5 : Int) + 8)] 3) none)) hown8 hgr8)
        clear hown8 hgr8 hnil8 hi0 hz0 hz1 hz2 HS HO7 HA7 hlen8 hp8
        go_wp2
        go_roundw
        case rel => exact ⟨i + 1, by omega, by go_num, H8.out⟩
        case measure => simp [intOf]; omega
      · have hpl : plL F g (i + 1) = plL F g i := by
          show plL F g i ++ plOpt F (g i) = _
          rw [HT.out, HOPT.out, if_neg h5, if_neg h6, List.append_nil]
        have H8 := shade (HS.out.skip HA6.out hpl)
        clear HCO HA6 HOPT HS hpl hi0 hz0 hz1 hz2
        go_wp2
        go_roundw
        case rel => exact ⟨i + 1, by omega, by go_num, H8.out⟩
        case measure => simp [intOf]; omega
    · have hik2 : i = k := by omega
      subst hik2
      go_wp2
      go_ret
      refine ⟨_, rfl, ?_, HS.out.low⟩
      rw [numL_list]
      exact World.ownsRow.mono HS.out.own HWB.out

end Go.Proofs.YtkljjacailgdaaaDoor

namespace Go.Proofs.YtkljjacailgdaaaDoor
open Go.RowKit
set_option linter.unusedSimpArgs false
theorem word_iff (l : List UInt8) (n : Nat) (x : List UInt8) (_hn : n < 10) (hx : wordN x = n) (hi : wordN l = n → (x == l) = true) : (l == x) = true ↔ wordN l = n := by
  rw [beq_iff_eq]
  constructor
  · intro h
    rw [h]
    exact hx
  · intro h
    exact (beq_iff_eq.1 (hi h)).symm
theorem ld_word (l : List UInt8) : (l == [108, 100]) = true ↔ wordN l = 5 := by
  refine word_iff l 5 _ (by omega) wordN_at5 (fun h => ?_)
  rcases word_is l 5 (by omega) h with h | h | h | h | h | h | h | h | h | h
  all_goals first
    | exact absurd h.1 (by omega)
    | exact h.2
theorem st_word (l : List UInt8) : (l == [115, 116]) = true ↔ wordN l = 6 := by
  refine word_iff l 6 _ (by omega) wordN_at6 (fun h => ?_)
  rcases word_is l 6 (by omega) h with h | h | h | h | h | h | h | h | h | h
  all_goals first
    | exact absurd h.1 (by omega)
    | exact h.2
set_option maxRecDepth 100000 in
set_option maxHeartbeats 8000000 in
theorem SpecPlacesOf_no (A : Option Addr) (len cap : Nat) (F : Nat → Ins) (at' : Int) (A1 : Option Addr) (n1 c1 : Nat) (A2 : Option Addr) (n2 c2 : Nat) (f1 f2 : Nat → Int) (fuel : Int) (w : World) (hl : len ≤ 9223372036854775807) (hC : Code w A len F) (h1 : Nums w A1 n1 f1) (h2 : Nums w A2 n2 f2) (hn1 : n1 ≤ 9223372036854775807) (hn2 : n2 ≤ 9223372036854775807) (hr : runB len F at' n1 n2 f1 f2 fuel = false) (f : Nat → Int) :
    Calls Tryd.prog 31 #[.slice A len cap, MV at' A1 n1 c1 A2 n2 c2, .int .i64 fuel] w (NumRes 0 f w) := by
  have hga := World.grownBy_alloc w (.cells #[.int .i64 at', .slice A1 n1 c1, .slice A2 n2 c2] 31) none
  have HVR := shade (validRun_any A len cap F at' A1 n1 c1 A2 n2 c2 f1 f2 fuel (w.alloc (.cells #[.int .i64 at', .slice A1 n1 c1, .slice A2 n2 c2] 31)) hl (hC.on hga) (h1.on hga) (h2.on hga) hn1 hn2)
  rw [hr] at HVR
  have E1 := shade (show Holds5 (w.alloc (.cells #[.int .i64 at', .slice A1 n1 c1, .slice A2 n2 c2] 31)) w.heap.size 31 #[.int .i64 at', .slice A1 n1 c1, .slice A2 n2 c2] from Holds5.fresh w 31 #[.int .i64 at', .slice A1 n1 c1, .slice A2 n2 c2])
  have E3 := shade hga
  clear hga hC h1 h2 hr
  go_enter Tryd.func31, Tryd.ntmps31
  go_wp2_with fail
  refine HVR.out.mono ?_
  rintro e w1 ⟨rfl, hgr⟩
  have HG := shade (grown_same E3.out hgr)
  clear hgr
  go_wp2_with fail
  go_ret
  exact ⟨_, rfl, World.ownsRow_nil _ _ _ _, HG.out⟩
set_option maxRecDepth 100000 in
set_option maxHeartbeats 16000000 in
theorem SpecPlacesOf_yes (A : Option Addr) (len cap : Nat) (F : Nat → Ins) (s : Sta) (b1 o1 c1 b2 o2 c2 : Nat) (fuel : Nat) (w : World) (hl : len ≤ 9223372036854775807) (hC : Code w A len F) (h1 : Nums w (some ⟨b1, o1, none⟩) 4 s.r) (h2 : Nums w (some ⟨b2, o2, none⟩) 8 s.m) (hv : vcB len F = true) (hm : vmB s.at' 4 8 s.r s.m = true) (hf : fuel ≤ 300) :
    Calls Tryd.prog 31 #[.slice A len cap, MV s.at' (some ⟨b1, o1, none⟩) 4 c1 (some ⟨b2, o2, none⟩) 8 c2, .int .i64 fuel] w (fun e w' => ∃ k, RunEnd len F s fuel k ∧ NumRes (plL F (sN F s) k).length (fun j => (plL F (sN F s) k).getD j 0) w e w') := by
  have hga := World.grownBy_alloc w (.cells #[.int .i64 s.at', .slice (some ⟨b1, o1, none⟩) 4 c1, .slice (some ⟨b2, o2, none⟩) 8 c2] 31) none
  have HVR := shade (validRun_any A len cap F s.at' (some ⟨b1, o1, none⟩) 4 c1 (some ⟨b2, o2, none⟩) 8 c2 s.r s.m fuel (w.alloc (.cells #[.int .i64 s.at', .slice (some ⟨b1, o1, none⟩) 4 c1, .slice (some ⟨b2, o2, none⟩) 8 c2] 31)) hl (hC.on hga) (h1.on hga) (h2.on hga) (by omega) (by omega))
  rw [show runB len F s.at' 4 8 s.r s.m fuel = true by simp [runB, hv, hm, inRB]; omega] at HVR
  have hl1 : b1 < w.heap.size := by
    rcases h1 with e1 | ⟨_, _, e1, l1, _⟩
    · omega
    · injection e1 with e1; injection e1 with e1
      subst e1
      exact l1
  have hl2 : b2 < w.heap.size := by
    rcases h2 with e1 | ⟨_, _, e1, l1, _⟩
    · omega
    · injection e1 with e1; injection e1 with e1
      subst e1
      exact l1
  have E1 := shade (show Holds5 (w.alloc (.cells #[.int .i64 s.at', .slice (some ⟨b1, o1, none⟩) 4 c1, .slice (some ⟨b2, o2, none⟩) 8 c2] 31)) w.heap.size 31 #[.int .i64 s.at', .slice (some ⟨b1, o1, none⟩) 4 c1, .slice (some ⟨b2, o2, none⟩) 8 c2] from Holds5.fresh w 31 #[.int .i64 s.at', .slice (some ⟨b1, o1, none⟩) 4 c1, .slice (some ⟨b2, o2, none⟩) 8 c2])
  have E3 := shade hga
  have N1 := shade (h1.on hga)
  have N2 := shade (h2.on hga)
  have HC0 := shade hC
  have HV := shade hv
  have h40 : len ≤ 40 := by
    have hv2 := hv
    simp only [vcB, Bool.and_eq_true, decide_eq_true_eq] at hv2
    exact hv2.2
  have HOK := shade (okS_of hm)
  clear hga hC h1 h2 hv hm
  go_enter Tryd.func31, Tryd.ntmps31
  go_wp2_with fail
  refine HVR.out.mono ?_
  rintro e w1 ⟨rfl, hgr⟩
  have hga := World.grownBy_alloc w1 (.cells #[] 3) none
  have hlow := grown_same (grown_same E3.out hgr) hga
  have HM := shade (show MoO w (w1.alloc (.cells #[] 3)) (w.heap.size + 1) F s 0 (.slice (some ⟨w1.heap.size, 0, none⟩) 0 0) (valL (plL F (sN F s) 0)) 3 1 (plL F (sN F s) 0).length b1 o1 c1 b2 o2 c2 from
    ⟨World.ownsRow_lit w1 #[] 0 (by have := (grown_same E3.out hgr).size; have := (E1.out.grown hgr (by intro e; cases e)).inside; omega) (by decide) rfl, (E1.out.grown hgr (by intro e; cases e)).alloc _, (N1.out.on hgr).on hga, (N2.out.on hgr).on hga, ⟨by omega, by omega⟩, (by
      intro j e
      obtain rfl : w1.heap.size = j := by injection e
      have := (E1.out.grown hgr (by intro e; cases e)).inside
      omega), hlow, (by have := (E1.out.grown hgr (by intro e; cases e)).inside; simp; omega), Nat.lt_succ_self _⟩)
  clear hgr hga hlow E1 E3 N1 N2 HVR hl1 hl2
  go_wp2_with fail
  go_loopw [7, 8] (fun v q wr => ∃ (i b1 o1 c1 b2 o2 c2 : Nat), i ≤ fuel ∧ q = .int .i64 i ∧ (∀ j, j < i → sHalt len F (sN F s j) = false) ∧ MoO w wr (w.heap.size + 1) F s i v (valL (plL F (sN F s) i)) 3 1 (plL F (sN F s) i).length b1 o1 c1 b2 o2 c2) (fun _ q _ => fuel - (intOf q).toNat)
  case atStart => exact ⟨0, b1, o1, c1, b2, o2, c2, Nat.zero_le _, rfl, fun j hj => absurd hj (Nat.not_lt_zero j), HM.out⟩
  case round =>
    clear HM
    obtain ⟨i, m1, l1, k1, m2, l2, k2, hi, rfl, hgo, hs⟩ := hrel
    obtain ⟨A4, c4, rfl, -⟩ := ownsRow_slice hs.own
    have hok := HOK.out.run HV.out i hgo
    have he : (((sN F s i).at'.toNat : Nat) : Int) = (sN F s i).at' := Int.toNat_of_nonneg hok.lo
    have hc2 : Code wr A len F := HC0.out.on hs.low
    have HHA := shade (halted_any A len cap (sN F s i).at'.toNat F wr hc2 h40)
    rw [he] at HHA
    have x0 := hs.box.look 0; have x1 := hs.box.look 1; have x2 := hs.box.look 2
    simp at x0 x1 x2
    have HGO := shade hgo
    have H5 := shade hs
    have HK := shade hok
    clear hs hgo hc2 he
    by_cases hif : i < fuel
    · rcases hh : haltB len F (sN F s i).at'.toNat with _ | _
      · have hh2 : sHalt len F (sN F s i) = false := hh
        have HH := shade hh2
        rw [hh] at HHA
        clear hh
        obtain ⟨tt, ht⟩ : ∃ tt, sN F s i = tt := ⟨_, rfl⟩
        have n1 := H5.out.n1
        rw [ht] at hok hh2 x0 HHA n1
        have HT := shade ht
        obtain ⟨hlt, _⟩ := halt_parts hh2
        obtain ⟨h40', ⟨rr1, rr2, rr3⟩, ⟨kk0, kk1⟩, hw, h9, hF⟩ := ins_parts HV.out hlt
        obtain ⟨ra0, ra1⟩ := hok.r _ rr2
        have hn5 : nOf F tt.at' = 5 ↔ ((F tt.at'.toNat).op.toList == [108, 100]) = true := by rw [ld_word]; omega
        have hn6 : nOf F tt.at' = 6 ↔ ((F tt.at'.toNat).op.toList == [115, 116]) = true := by rw [st_word]; omega
        have hopt : plOpt F tt = if ((F tt.at'.toNat).op.toList == [108, 100]) = true then [(placeN tt.r (raOf F tt.at') (kOf F tt.at') : Int)] else if ((F tt.at'.toNat).op.toList == [115, 116]) = true then [(placeN tt.r (raOf F tt.at') (kOf F tt.at') : Int) + 8] else [] := by
          unfold plOpt
          simp only [hn5, hn6]
        have hboth : ((F tt.at'.toNat).op.toList == [108, 100]) = true → ((F tt.at'.toNat).op.toList == [115, 116]) = false := fun e => by
          rw [Bool.eq_false_iff]
          intro e'
          have := hn5.2 e
          have := hn6.2 e'
          omega
        obtain ⟨m, hm⟩ := Int.eq_ofNat_of_zero_le hok.lo
        rw [hm] at hlt hF hopt rr2 ra0 ra1 kk0 kk1 hboth x0 HHA
        rw [Int.toNat_natCast] at hlt hF hopt hboth
        generalize raOf F (m : Int) = ra at *
        generalize rbOf F (m : Int) = rb at *
        generalize rdOf F (m : Int) = rd at *
        generalize kOf F (m : Int) = k5 at *
        obtain ⟨op, hop⟩ : ∃ op, (F m).op = op := ⟨_, rfl⟩
        rw [hop] at hF hopt hboth
        obtain ⟨bc, oc, rfl, -⟩ := (HC0.out.on H5.out.low).resolve_left (by omega)
        have q5 := (HC0.out.on H5.out.low).five hlt
        rw [hF] at q5
        simp only [] at q5
        obtain ⟨q0, q1, q2, q3, q4⟩ := q5
        have xa := n1.cell rr2
        have hpl := placeN_lt tt.r ra k5
        have hp : (tt.r ra + k5) % 8 = ((placeN tt.r ra k5 : Nat) : Int) := by
          unfold placeN
          omega
        have HP := shade hp
        have HOPT := shade hopt
        have HBO := shade hboth
        have hm40 : m < 40 := by omega
        have iA : (ra : Int) < 4 := by omega
        have iA0 : (0 : Int) ≤ (ra : Int) := by omega
        clear hok hh2 hw h9 hF hn5 hn6 hm hop hopt rr1 rr3 h40' ht n1 hboth hp
        go_wp2_with fail
        refine HHA.out.mono ?_
        rintro e w' ⟨rfl, rfl⟩
        clear HHA
        go_upto_region 8 with (fail)
        have hga := World.grownBy_alloc wr (.cells #[.string op, .int .i64 rd, .int .i64 ra, .int .i64 rb, .int .i64 k5] 24) none
        have hE5 : Holds5 (wr.alloc (.cells #[.string op, .int .i64 rd, .int .i64 ra, .int .i64 rb, .int .i64 k5] 24)) wr.heap.size 24 #[.string op, .int .i64 rd, .int .i64 ra, .int .i64 rb, .int .i64 k5] := Holds5.fresh wr 24 #[.string op, .int .i64 rd, .int .i64 ra, .int .i64 rb, .int .i64 k5]
        have xa5 := hga.cell xa (by intro e; cases e)
        have x05 := hga.cell x0 (by intro e; cases e)
        have x15 := hga.cell x1 (by intro e; cases e)
        have x25 := hga.cell x2 (by intro e; cases e)
        obtain ⟨W5, hW5⟩ : ∃ W5, wr.alloc (.cells #[.string op, .int .i64 rd, .int .i64 ra, .int .i64 rb, .int .i64 k5] 24) = W5 := ⟨_, rfl⟩
        rw [hW5] at hga hE5 xa5 x05 x15 x25 ⊢
        have HA5 := shade hga
        have HE5 := shade hE5
        have y0 := hE5.look 0; have y1 := hE5.look 1; have y2 := hE5.look 2; have y3 := hE5.look 3; have y4 := hE5.look 4
        simp at y0 y1 y2 y3 y4
        clear hga hE5 x0 x1 x2 xa q0 q1 q2 q3 q4 hW5
        go_quiet (fail)
        go_upto_region 9 with (fail)
        rw [HP.out]
        have hd6 : W5.grownBy (W5.drewN nq) none := grown_drewN (grown_refl _ _) nq
        have hE6 := HE5.out.grown hd6 (by intro e; cases e)
        have hA6 := grown_same HA5.out hd6
        obtain ⟨W6, hW6⟩ : ∃ W6, W5.drewN nq = W6 := ⟨_, rfl⟩
        rw [hW6] at hE6 hA6 ⊢
        have H6 := shade (H5.out.on hA6)
        have HA6 := shade hA6
        clear hd6 hA6 hW6 y0 y1 y2 y3 y4 x05 x15 x25 xa5 HA5 HE5 HP
        have y0 := hE6.look 0; have y1 := hE6.look 1; have y2 := hE6.look 2; have y3 := hE6.look 3; have y4 := hE6.look 4
        simp at y0 y1 y2 y3 y4
        have x0 := H6.out.box.look 0; have x1 := H6.out.box.look 1; have x2 := H6.out.box.look 2
        simp at x0 x1 x2
        obtain ⟨i0, hi0, hz0, hz1, hz2⟩ := info_parts info3
        have hl3 := plL_le F (sN F s) i
        have hsz6 : wr.heap.size ≤ W6.heap.size := HA6.out.size
        have hsz5 := hE6.inside
        rcases e1 : (op.toList == [108, 100]) with _ | _
        · rcases e2 : (op.toList == [115, 116]) with _ | _
          · have hpl2 : plL F (sN F s) (i + 1) = (plL F (sN F s) i) := by
              show (plL F (sN F s) i) ++ plOpt F (sN F s i) = _
              rw [HT.out, HOPT.out, e1, e2]
              simp
            have H8 := shade (show MoO w W6 (w.heap.size + 1) F s i (.slice A4 (plL F (sN F s) i).length c4) (valL (plL F (sN F s) (i + 1))) 3 1 (plL F (sN F s) (i + 1)).length m1 l1 k1 m2 l2 k2 from by rw [hpl2]; exact H6.out)
            clear H6 H5 HA6 hi0 hz0 hz1 hz2 hE6 HOPT
            clear x0 x1 x2
            have x0 := H8.out.box.look 0; have x1 := H8.out.box.look 1; have x2 := H8.out.box.look 2
            simp at x0 x1 x2
            go_wp2_with fail
            refine (specStep_yes _ len cap F (sN F s i) m1 l1 k1 m2 l2 k2 _ (HC0.out.on H8.out.low) HV.out HK.out HH.out H8.out.n1 H8.out.n2).mono ?_
            rintro e w9 ⟨g1, d1, g2, d2, rfl, hne, ho1, ho2, hgr⟩
            clear y0 y1 y2 y3 y4
            have H9 := shade (MoO.step H8.out hgr ho1 ho2)
            have hb9 := H8.out.box.grown hgr (by intro e; cases e)
            have y0 := hb9.look 0; have y1 := hb9.look 1; have y2 := hb9.look 2; have t0 := hb9.free 0; have t1 := hb9.free 1; have t2 := hb9.free 2
            simp at y0 y1 y2
            have hgx : ∀ j, j < i + 1 → sHalt len F (sN F s j) = false := by
              intro j hj
              by_cases e : j = i
              · rw [e]
                exact HH.out
              · exact HGO.out j (by omega)
            have HGX := shade hgx
            clear hgr ho1 ho2 hb9 x0 x1 x2 H8 hgx HK HH HGO
            go_wp2
            go_roundw
            case rel => exact ⟨i + 1, g1, 0, d1, g2, 0, d2, by omega, by go_num, HGX.out, H9.out⟩
            case measure => simp [intOf]; omega

          · rw [e1, e2] at HOPT
            have hpl : plL F (sN F s) (i + 1) = (plL F (sN F s) i) ++ [(((placeN tt.r ra k5 : Int)) + 8)] := by
              show (plL F (sN F s) i) ++ plOpt F (sN F s i) = _
              rw [HT.out, HOPT.out]
              simp
            have HPL := shade hpl
            clear hpl HOPT
            have hp8 := placeN_lt tt.r ra k5
            go_wp2_with (first
                  | (at_builtin; refine wpList_append_own_at _ rfl _ _ 29 rfl (w.heap.size + 1) 3 i0 (.int .i64 0) 1 8 Tryd.underlying29 hi0 hz0 hz1 hz2 rfl (by decide) _ _ _ rfl (World.ownsRow.alloc H6.out.own _) ⟨W6.heap.size, 0, none⟩ 1 1 [.int .i64 (((placeN tt.r ra k5 : Int)) + 8)] rfl rfl (int_new _ _ _) (int_one _) (by unfold maxLen; omega) (by omega) (by have := H6.out.big; simp; omega) ?_)
                  | go_in)
            intro v' w8 hown8 hgr8 hnil8 hat8
            rw [valL_snoc, ← HPL.out] at hown8
            have hlen8 : (plL F (sN F s) i).length + 1 = (plL F (sN F s) (i + 1)).length := by rw [HPL.out, List.length_append]; rfl
            rw [hlen8] at hown8
            have hga := World.grownBy_alloc W6 (.cells #[.int .i64 (((placeN tt.r ra k5 : Int)) + 8)] 3) none
            have H8 := shade ((H6.out.on hga).app hown8 hgr8 (fun j hj => by
              simp only [World.size_alloc] at hat8 ⊢
              rcases hat8 with e | e
              · rw [hj] at e
                exact .inl e.symm
              · rw [hj] at e
                injection e with e
                omega))
            have hE8 := hE6.grown hga (by intro e; cases e)
            have hE9 := hE8.grown hgr8 (fun e => by
              have h3 := (World.ownsRow.lt H5.out.own _ e.symm).2
              omega)
            clear hown8 hgr8 hnil8 hat8 hga hi0 hz0 hz1 hz2 H6 H5 hlen8 hp8 hE8 hE6 y0 y1 y2 y3 y4
            have y0 := hE9.look 0; have y1 := hE9.look 1; have y2 := hE9.look 2; have y3 := hE9.look 3; have y4 := hE9.look 4
            simp at y0 y1 y2 y3 y4
            clear hE9
            clear x0 x1 x2
            have x0 := H8.out.box.look 0; have x1 := H8.out.box.look 1; have x2 := H8.out.box.look 2
            simp at x0 x1 x2
            go_wp2_with fail
            refine (specStep_yes _ len cap F (sN F s i) m1 l1 k1 m2 l2 k2 _ (HC0.out.on H8.out.low) HV.out HK.out HH.out H8.out.n1 H8.out.n2).mono ?_
            rintro e w9 ⟨g1, d1, g2, d2, rfl, hne, ho1, ho2, hgr⟩
            clear y0 y1 y2 y3 y4
            have H9 := shade (MoO.step H8.out hgr ho1 ho2)
            have hb9 := H8.out.box.grown hgr (by intro e; cases e)
            have y0 := hb9.look 0; have y1 := hb9.look 1; have y2 := hb9.look 2; have t0 := hb9.free 0; have t1 := hb9.free 1; have t2 := hb9.free 2
            simp at y0 y1 y2
            have hgx : ∀ j, j < i + 1 → sHalt len F (sN F s j) = false := by
              intro j hj
              by_cases e : j = i
              · rw [e]
                exact HH.out
              · exact HGO.out j (by omega)
            have HGX := shade hgx
            clear hgr ho1 ho2 hb9 x0 x1 x2 H8 hgx HK HH HGO
            go_wp2
            go_roundw
            case rel => exact ⟨i + 1, g1, 0, d1, g2, 0, d2, by omega, by go_num, HGX.out, H9.out⟩
            case measure => simp [intOf]; omega

        · have e2 := HBO.out e1
          rw [e1, e2] at HOPT
          have hpl : plL F (sN F s) (i + 1) = (plL F (sN F s) i) ++ [(placeN tt.r ra k5 : Int)] := by
            show (plL F (sN F s) i) ++ plOpt F (sN F s i) = _
            rw [HT.out, HOPT.out]
            simp
          have HPL := shade hpl
          clear hpl HOPT
          have hp8 := placeN_lt tt.r ra k5
          go_wp2_with (first
                | (at_builtin; refine wpList_append_own_at _ rfl _ _ 29 rfl (w.heap.size + 1) 3 i0 (.int .i64 0) 1 8 Tryd.underlying29 hi0 hz0 hz1 hz2 rfl (by decide) _ _ _ rfl (World.ownsRow.alloc H6.out.own _) ⟨W6.heap.size, 0, none⟩ 1 1 [.int .i64 (placeN tt.r ra k5 : Int)] rfl rfl (int_new _ _ _) (int_one _) (by unfold maxLen; omega) (by omega) (by have := H6.out.big; simp; omega) ?_)
                | go_in)
          intro v' w8 hown8 hgr8 hnil8 hat8
          rw [valL_snoc, ← HPL.out] at hown8
          have hlen8 : (plL F (sN F s) i).length + 1 = (plL F (sN F s) (i + 1)).length := by rw [HPL.out, List.length_append]; rfl
          rw [hlen8] at hown8
          have hga := World.grownBy_alloc W6 (.cells #[.int .i64 (placeN tt.r ra k5 : Int)] 3) none
          have H8 := shade ((H6.out.on hga).app hown8 hgr8 (fun j hj => by
            simp only [World.size_alloc] at hat8 ⊢
            rcases hat8 with e | e
            · rw [hj] at e
              exact .inl e.symm
            · rw [hj] at e
              injection e with e
              omega))
          have hE8 := hE6.grown hga (by intro e; cases e)
          have hE9 := hE8.grown hgr8 (fun e => by
            have h3 := (World.ownsRow.lt H5.out.own _ e.symm).2
            omega)
          clear hown8 hgr8 hnil8 hat8 hga hi0 hz0 hz1 hz2 H6 H5 hlen8 hp8 hE8 hE6 y0 y1 y2 y3 y4
          have y0 := hE9.look 0; have y1 := hE9.look 1; have y2 := hE9.look 2; have y3 := hE9.look 3; have y4 := hE9.look 4
          simp at y0 y1 y2 y3 y4
          clear hE9
          clear x0 x1 x2
          have x0 := H8.out.box.look 0; have x1 := H8.out.box.look 1; have x2 := H8.out.box.look 2
          simp at x0 x1 x2
          go_wp2_with fail
          refine (specStep_yes _ len cap F (sN F s i) m1 l1 k1 m2 l2 k2 _ (HC0.out.on H8.out.low) HV.out HK.out HH.out H8.out.n1 H8.out.n2).mono ?_
          rintro e w9 ⟨g1, d1, g2, d2, rfl, hne, ho1, ho2, hgr⟩
          clear y0 y1 y2 y3 y4
          have H9 := shade (MoO.step H8.out hgr ho1 ho2)
          have hb9 := H8.out.box.grown hgr (by intro e; cases e)
          have y0 := hb9.look 0; have y1 := hb9.look 1; have y2 := hb9.look 2; have t0 := hb9.free 0; have t1 := hb9.free 1; have t2 := hb9.free 2
          simp at y0 y1 y2
          have hgx : ∀ j, j < i + 1 → sHalt len F (sN F s j) = false := by
            intro j hj
            by_cases e : j = i
            · rw [e]
              exact HH.out
            · exact HGO.out j (by omega)
          have HGX := shade hgx
          clear hgr ho1 ho2 hb9 x0 x1 x2 H8 hgx HK HH HGO
          go_wp2
          go_roundw
          case rel => exact ⟨i + 1, g1, 0, d1, g2, 0, d2, by omega, by go_num, HGX.out, H9.out⟩
          case measure => simp [intOf]; omega

      · rw [hh] at HHA
        go_wp2_with fail
        refine HHA.out.mono ?_
        rintro e w' ⟨rfl, rfl⟩
        clear HHA
        go_wp2_with fail
        go_ret
        refine ⟨i, ⟨by omega, HGO.out, .inr hh⟩, _, rfl, ?_, H5.out.low⟩
        rw [numL_list]
        exact World.ownsRow.mono H5.out.own (by omega)
    · go_wp2_with fail
      go_ret
      refine ⟨i, ⟨by omega, HGO.out, .inl (by omega)⟩, _, rfl, ?_, H5.out.low⟩
      rw [numL_list]
      exact World.ownsRow.mono H5.out.own (by omega)

end Go.Proofs.YtkljjacailgdaaaDoor

namespace Go.Proofs.YtkljjacailgdaaaDoor
open Go.RowKit
theorem places_both (n : Nat) (F : Nat → Ins) (at' : Int) (n1 n2 : Nat) (f1 f2 : Nat → Int) (fuel : Int) (hn : n ≤ 9223372036854775807) (hn1 : n1 ≤ 9223372036854775807) (hn2 : n2 ≤ 9223372036854775807) :
    ∃ (K : Nat) (f : Nat → Int), K ≤ 300 ∧ (∀ (A : Option Addr) (cap : Nat) (A1 : Option Addr) (c1 : Nat) (A2 : Option Addr) (c2 : Nat) (W : World), Code W A n F → Nums W A1 n1 f1 → Nums W A2 n2 f2 → Calls Tryd.prog 31 #[.slice A n cap, MV at' A1 n1 c1 A2 n2 c2, .int .i64 fuel] W (NumRes K f W)) ∧
      (∀ (A : Option Addr) (cap : Nat) (A1 : Option Addr) (c1 : Nat) (A2 : Option Addr) (c2 : Nat) (W : World), WT W → Code W A n F → Nums W A1 n1 f1 → Nums W A2 n2 f2 → Calls Tryd.prog 30 #[.slice A n cap, MV at' A1 n1 c1 A2 n2 c2, .int .i64 fuel] W (NumRes K f W)) := by
  obtain ⟨K, g, hK, hRun, hcase⟩ := run_told n F at' n1 n2 f1 f2 fuel hn
  refine ⟨(plL F g K).length, fun j => (plL F g K).getD j 0, Nat.le_trans (plL_le F g K) hK, fun A cap A1 c1 A2 c2 W hC h1 h2 => ?_, fun A cap A1 c1 A2 c2 W hg hC h1 h2 => ?_⟩
  · rcases hcase with ⟨hr, rfl⟩ | ⟨hr, rfl, rfl, rfl, hre⟩
    · exact SpecPlacesOf_no A n cap F at' A1 n1 c1 A2 n2 c2 f1 f2 fuel W hn hC h1 h2 hn1 hn2 hr _
    · obtain ⟨hv, hm, hf0, hf1⟩ := runB_parts hr
      obtain ⟨fu, rfl⟩ := Int.eq_ofNat_of_zero_le hf0
      rw [Int.toNat_natCast] at hre
      obtain ⟨b1, o1, rfl, _⟩ := h1.resolve_left (by omega)
      obtain ⟨b2, o2, rfl, _⟩ := h2.resolve_left (by omega)
      refine (SpecPlacesOf_yes A n cap F ⟨at', f1, f2⟩ b1 o1 c1 b2 o2 c2 fu W hn hC h1 h2 hv hm (by omega)).mono ?_
      rintro e w' ⟨k, hk, h⟩
      obtain rfl := hk.uniq hre
      exact h
  · refine PlacesOf_res A n cap at' A1 n1 c1 A2 n2 c2 fuel F K g W hg hC hK (fun i hi => ?_) fun W' hW => hRun A cap A1 c1 A2 c2 W' (hg.below (below_of_grown hW) (wt_lt hg)) (hC.on hW) (h1.on hW) (h2.on hW)
    rcases hcase with ⟨hr, rfl⟩ | ⟨hr, rfl, rfl, rfl, hre⟩
    · omega
    · obtain ⟨hv, hm, hf0, hf1⟩ := runB_parts hr
      exact ⟨hv, (okS_of hm).run hv i (fun j hj => hre.go j (by omega)), hre.go i hi⟩

end Go.Proofs.YtkljjacailgdaaaDoor
