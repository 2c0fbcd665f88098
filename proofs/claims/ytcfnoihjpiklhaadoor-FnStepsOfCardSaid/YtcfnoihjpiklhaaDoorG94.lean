/- TraceOf, over whatever runOf leaves. The model's validRun and TraceOf. runOf, put together; TraceOf and its model answer alike. -/
import Derived.Test.YtcfnoihjpiklhaaDoorG92
import Derived.Deep.Onto
import Derived.Test.YtcfnoihjpiklhaaDoorG77
import Derived.Deep.CutRange
import Derived.Maps.AppendAt
namespace Go.Proofs.YtcfnoihjpiklhaaDoor
open Go.RowKit
set_option linter.unusedSimpArgs false
/-- What runOf leaves: k states; the code is the one that was given, if there are any. -/
def RunRes (A : Option Addr) (len k : Nat) (g : Nat → Sta) (w : World) (e : Ending) (w' : World) : Prop :=
  ∃ (A0 : Option Addr) (l0 c0 : Nat) (A3 : Option Addr) (c3 : Nat) (t : Sta) (d b : Bool), e = .returned (.tuple #[.agg #[.slice A0 l0 c0, .slice A3 k c3, .int .i64 t.at', .int .i64 (t.r 0), .int .i64 (t.r 1), .int .i64 (t.r 2), .int .i64 (t.r 3), .int .i64 (t.m 0), .int .i64 (t.m 1), .int .i64 (t.m 2), .int .i64 (t.m 3), .int .i64 (t.m 4), .int .i64 (t.m 5), .int .i64 (t.m 6), .int .i64 (t.m 7), .bool d], .bool b]) ∧ (k = 0 ∨ (A0 = A ∧ l0 = len)) ∧ Stas w' A3 k g ∧ (∀ b off, A3 = some ⟨b, off, none⟩ → w.heap.size ≤ b ∧ b < w'.heap.size) ∧ w.grownBy w' none
/-- What a call leaves that makes a row of numbers. -/
def NumRes (k : Nat) (f : Nat → Int) (w : World) (e : Ending) (w' : World) : Prop :=
  ∃ v, e = .returned v ∧ w'.ownsRow w.heap.size 3 1 v k (numL k f) ∧ w.grownBy w' none
theorem Stas.row {w : World} {b off k : Nat} {g : Nat → Sta} (h : Stas w (some ⟨b, off, none⟩) k g) {i : Nat} (hi : i < k) : w.cell? ⟨b, off + i * 13, none⟩ = some (.int .i64 (g i).at') ∧ w.cell? ⟨b, off + i * 13 + 1, none⟩ = some (.int .i64 ((g i).r 0)) ∧ w.cell? ⟨b, off + i * 13 + 2, none⟩ = some (.int .i64 ((g i).r 1)) ∧ w.cell? ⟨b, off + i * 13 + 3, none⟩ = some (.int .i64 ((g i).r 2)) ∧ w.cell? ⟨b, off + i * 13 + 4, none⟩ = some (.int .i64 ((g i).r 3)) ∧ w.cell? ⟨b, off + i * 13 + 5, none⟩ = some (.int .i64 ((g i).m 0)) ∧ w.cell? ⟨b, off + i * 13 + 6, none⟩ = some (.int .i64 ((g i).m 1)) ∧ w.cell? ⟨b, off + i * 13 + 7, none⟩ = some (.int .i64 ((g i).m 2)) ∧ w.cell? ⟨b, off + i * 13 + 8, none⟩ = some (.int .i64 ((g i).m 3)) ∧ w.cell? ⟨b, off + i * 13 + 9, none⟩ = some (.int .i64 ((g i).m 4)) ∧ w.cell? ⟨b, off + i * 13 + 10, none⟩ = some (.int .i64 ((g i).m 5)) ∧ w.cell? ⟨b, off + i * 13 + 11, none⟩ = some (.int .i64 ((g i).m 6)) ∧ w.cell? ⟨b, off + i * 13 + 12, none⟩ = some (.int .i64 ((g i).m 7)) :=
  ⟨h.cell hi (i := 0) (by omega), h.cell hi (i := 1) (by omega), h.cell hi (i := 2) (by omega), h.cell hi (i := 3) (by omega), h.cell hi (i := 4) (by omega), h.cell hi (i := 5) (by omega), h.cell hi (i := 6) (by omega), h.cell hi (i := 7) (by omega), h.cell hi (i := 8) (by omega), h.cell hi (i := 9) (by omega), h.cell hi (i := 10) (by omega), h.cell hi (i := 11) (by omega), h.cell hi (i := 12) (by omega)⟩
theorem ownsRow_slice {w : World} {B : Nat} {e : TypeId} {z : Nat} {v : Value} {n : Nat} {xs : List Value} (h : w.ownsRow B e z v n xs) : ∃ A c, v = .slice A n c ∧ ∀ b off, A = some ⟨b, off, none⟩ → B ≤ b ∧ b < w.heap.size := by
  rcases h.2 with ⟨e, h0⟩ | ⟨g', c, cur, e, hb, hw, hrest⟩
  · exact ⟨none, 0, by rw [e, h0], by intro _ _ e; cases e⟩
  · have hh := h
    subst e
    have hlt := World.ownsRow.lt hh g' rfl
    exact ⟨some ⟨g', 0, none⟩, c, rfl, by intro b off e; injection e with e; injection e with e1 e2; subst e1; exact hlt⟩
theorem ownsRow_on {w w' : World} {B : Nat} {e : TypeId} {z : Nat} {v : Value} {n : Nat} {xs : List Value} (h : w.ownsRow B e z v n xs) (hg : w.grownBy w' none) : w'.ownsRow B e z v n xs :=
  World.ownsRow.kept h hg (Classical.em _)
theorem numL_snoc (k : Nat) (f : Nat → Int) : numL k f ++ [.int .i64 (f k)] = numL (k + 1) f := by
  unfold numL
  rw [List.range_succ, List.map_append]
  rfl
theorem int_new (w : World) (t : TypeId) (x : Int) : ∀ j u, ([.int .i64 x] : List Value)[j]? = some u → (w.alloc (.cells #[.int .i64 x] t)).cell? ((⟨w.heap.size, 0, none⟩ : Addr).add j) = some u := by
  intro j u h
  rw [Addr.add_lit, Nat.zero_add, World.cell?_alloc_new]
  simpa using h
theorem int_one (x : Int) : ∀ u ∈ ([.int .i64 x] : List Value), u.oneCell' = true := by
  intro u hu
  simp only [List.mem_cons, List.not_mem_nil, or_false] at hu
  rw [hu]
  rfl
/-- What stands while the numbers are put together: i of them so far. -/
structure TrO (w wr : World) (B : Nat) (A3 : Option Addr) (k : Nat) (g : Nat → Sta) (i : Nat) (v : Value) (f : Nat → Int) : Prop where
  own : wr.ownsRow B 3 1 v i (numL i f)
  sta : Stas wr A3 k g
  low : w.grownBy wr none
  big : B ≤ wr.heap.size
set_option maxRecDepth 100000 in
set_option maxHeartbeats 8000000 in
theorem TraceOf_res (A : Option Addr) (len cap : Nat) (at' : Int) (A1 : Option Addr) (n1 c1 : Nat) (A2 : Option Addr) (n2 c2 : Nat) (fuel : Int) (k : Nat) (g : Nat → Sta) (w : World) (hk : k ≤ 300) (hR : ∀ W, w.grownBy W none → Calls Tryd.prog 28 #[.slice A len cap, MV at' A1 n1 c1 A2 n2 c2, .int .i64 fuel] W (RunRes A len k g W)) :
    Calls Tryd.prog 10 #[.slice A len cap, MV at' A1 n1 c1 A2 n2 c2, .int .i64 fuel] w (NumRes k (fun j => (g j).at') w) := by
  have HR := shade hR
  have HG0 := shade (World.grownBy_alloc w (.cells #[.int .i64 at', .slice A1 n1 c1, .slice A2 n2 c2] 26) none)
  have x0 : (w.alloc (.cells #[.int .i64 at', .slice A1 n1 c1, .slice A2 n2 c2] 26)).cell? ⟨w.heap.size, 0, none⟩ = some (.int .i64 at') := (Holds5.fresh w 26 _).look 0
  have x1 : (w.alloc (.cells #[.int .i64 at', .slice A1 n1 c1, .slice A2 n2 c2] 26)).cell? ⟨w.heap.size, 1, none⟩ = some (.slice A1 n1 c1) := (Holds5.fresh w 26 _).look 1
  have x2 : (w.alloc (.cells #[.int .i64 at', .slice A1 n1 c1, .slice A2 n2 c2] 26)).cell? ⟨w.heap.size, 2, none⟩ = some (.slice A2 n2 c2) := (Holds5.fresh w 26 _).look 2
  clear hR
  go_enter Tryd.func10, Tryd.ntmps10
  go_wp2_with fail
  refine (HR.out _ HG0.out).mono ?_
  rintro e w1 ⟨A0, l0, c0, A3, c3, t, d, b, rfl, _, hst, hsep, hgr⟩
  have hg1 := grown_same HG0.out hgr
  have h0 := HG0.out.size
  rw [World.size_alloc] at h0 hsep
  clear HR HG0 x0 x1 x2 hgr
  go_upto_region 2 with (fail)
  have HE := shade (show Holds5 (w1.alloc (.cells #[.slice A0 l0 c0, .slice A3 k c3, .int .i64 t.at', .int .i64 (t.r 0), .int .i64 (t.r 1), .int .i64 (t.r 2), .int .i64 (t.r 3), .int .i64 (t.m 0), .int .i64 (t.m 1), .int .i64 (t.m 2), .int .i64 (t.m 3), .int .i64 (t.m 4), .int .i64 (t.m 5), .int .i64 (t.m 6), .int .i64 (t.m 7), .bool d] 62)) w1.heap.size 62 #[.slice A0 l0 c0, .slice A3 k c3, .int .i64 t.at', .int .i64 (t.r 0), .int .i64 (t.r 1), .int .i64 (t.r 2), .int .i64 (t.r 3), .int .i64 (t.m 0), .int .i64 (t.m 1), .int .i64 (t.m 2), .int .i64 (t.m 3), .int .i64 (t.m 4), .int .i64 (t.m 5), .int .i64 (t.m 6), .int .i64 (t.m 7), .bool d] from Holds5.fresh w1 62 #[.slice A0 l0 c0, .slice A3 k c3, .int .i64 t.at', .int .i64 (t.r 0), .int .i64 (t.r 1), .int .i64 (t.r 2), .int .i64 (t.r 3), .int .i64 (t.m 0), .int .i64 (t.m 1), .int .i64 (t.m 2), .int .i64 (t.m 3), .int .i64 (t.m 4), .int .i64 (t.m 5), .int .i64 (t.m 6), .int .i64 (t.m 7), .bool d])
  have hga := World.grownBy_alloc w1 (.cells #[.slice A0 l0 c0, .slice A3 k c3, .int .i64 t.at', .int .i64 (t.r 0), .int .i64 (t.r 1), .int .i64 (t.r 2), .int .i64 (t.r 3), .int .i64 (t.m 0), .int .i64 (t.m 1), .int .i64 (t.m 2), .int .i64 (t.m 3), .int .i64 (t.m 4), .int .i64 (t.m 5), .int .i64 (t.m 6), .int .i64 (t.m 7), .bool d] 62) none
  have HS := shade (hst.on hga)
  have HG := shade (grown_same hg1 hga)
  have HZ := shade (show (w1.alloc (.cells #[.slice A0 l0 c0, .slice A3 k c3, .int .i64 t.at', .int .i64 (t.r 0), .int .i64 (t.r 1), .int .i64 (t.r 2), .int .i64 (t.r 3), .int .i64 (t.m 0), .int .i64 (t.m 1), .int .i64 (t.m 2), .int .i64 (t.m 3), .int .i64 (t.m 4), .int .i64 (t.m 5), .int .i64 (t.m 6), .int .i64 (t.m 7), .bool d] 62)).heap.size = w1.heap.size + 1 from World.size_alloc _ _)
  have HSP := shade hsep
  obtain ⟨W2, hW⟩ : ∃ W2, w1.alloc (.cells #[.slice A0 l0 c0, .slice A3 k c3, .int .i64 t.at', .int .i64 (t.r 0), .int .i64 (t.r 1), .int .i64 (t.r 2), .int .i64 (t.r 3), .int .i64 (t.m 0), .int .i64 (t.m 1), .int .i64 (t.m 2), .int .i64 (t.m 3), .int .i64 (t.m 4), .int .i64 (t.m 5), .int .i64 (t.m 6), .int .i64 (t.m 7), .bool d] 62) = W2 := ⟨_, rfl⟩
  rw [hW] at HE HS HG HZ ⊢
  have y1 := HE.out.look 1
  simp at y1
  clear hW hst hsep hga hg1
  have hM : TrO w W2 W2.heap.size A3 k g 0 (.slice none 0 0) (fun j => (g j).at') := ⟨World.ownsRow_nil _ _ _ _, HS.out, HG.out, Nat.le_refl _⟩
  have hlow : ∀ b off, A3 = some ⟨b, off, none⟩ → b < W2.heap.size := fun b off e => by
    have := HSP.out b off e
    have := HZ.out
    omega
  have HM := shade hM
  have HLW := shade hlow
  have hwb : w.heap.size ≤ W2.heap.size := HG.out.size
  have HWB := shade hwb
  clear hM hlow hwb HS HG HSP
  go_wp2_with fail
  go_loopw [9, 22] (fun v q wr => ∃ i : Nat, i ≤ k ∧ q = .int .i64 i ∧ TrO w wr W2.heap.size A3 k g i v (fun j => (g j).at')) (fun _ q _ => k - (intOf q).toNat)
  case atStart => exact ⟨0, Nat.zero_le _, rfl, HM.out⟩
  case round =>
    clear HM
    obtain ⟨i, hi, rfl, hs⟩ := hrel
    obtain ⟨A4, c4, rfl, hA4⟩ := ownsRow_slice hs.own
    have HS := shade hs
    have HA4 := shade hA4
    clear hs hA4
    by_cases hik : i < k
    · obtain ⟨b3, o3, rfl, -⟩ := HS.out.sta.resolve_left (by omega)
      have hrow := HS.out.sta.row hik
      obtain ⟨tt, ht⟩ : ∃ tt, g i = tt := ⟨_, rfl⟩
      rw [ht] at hrow
      obtain ⟨r0, r1, r2, r3, r4, r5, r6, r7, r8, r9, r10, r11, r12⟩ := hrow
      go_upto_region 6 with (fail)
      obtain ⟨W5, hW5⟩ : ∃ W5, wr.alloc (.cells #[.int .i64 tt.at', .int .i64 (tt.r 0), .int .i64 (tt.r 1), .int .i64 (tt.r 2), .int .i64 (tt.r 3), .int .i64 (tt.m 0), .int .i64 (tt.m 1), .int .i64 (tt.m 2), .int .i64 (tt.m 3), .int .i64 (tt.m 4), .int .i64 (tt.m 5), .int .i64 (tt.m 6), .int .i64 (tt.m 7)] 60) = W5 := ⟨_, rfl⟩
      have hX : Holds5 (wr.alloc (.cells #[.int .i64 tt.at', .int .i64 (tt.r 0), .int .i64 (tt.r 1), .int .i64 (tt.r 2), .int .i64 (tt.r 3), .int .i64 (tt.m 0), .int .i64 (tt.m 1), .int .i64 (tt.m 2), .int .i64 (tt.m 3), .int .i64 (tt.m 4), .int .i64 (tt.m 5), .int .i64 (tt.m 6), .int .i64 (tt.m 7)] 60)) wr.heap.size 60 #[.int .i64 tt.at', .int .i64 (tt.r 0), .int .i64 (tt.r 1), .int .i64 (tt.r 2), .int .i64 (tt.r 3), .int .i64 (tt.m 0), .int .i64 (tt.m 1), .int .i64 (tt.m 2), .int .i64 (tt.m 3), .int .i64 (tt.m 4), .int .i64 (tt.m 5), .int .i64 (tt.m 6), .int .i64 (tt.m 7)] := Holds5.fresh wr 60 #[.int .i64 tt.at', .int .i64 (tt.r 0), .int .i64 (tt.r 1), .int .i64 (tt.r 2), .int .i64 (tt.r 3), .int .i64 (tt.m 0), .int .i64 (tt.m 1), .int .i64 (tt.m 2), .int .i64 (tt.m 3), .int .i64 (tt.m 4), .int .i64 (tt.m 5), .int .i64 (tt.m 6), .int .i64 (tt.m 7)]
      have hga := World.grownBy_alloc wr (.cells #[.int .i64 tt.at', .int .i64 (tt.r 0), .int .i64 (tt.r 1), .int .i64 (tt.r 2), .int .i64 (tt.r 3), .int .i64 (tt.m 0), .int .i64 (tt.m 1), .int .i64 (tt.m 2), .int .i64 (tt.m 3), .int .i64 (tt.m 4), .int .i64 (tt.m 5), .int .i64 (tt.m 6), .int .i64 (tt.m 7)] 60) none
      rw [hW5] at hX hga ⊢
      have hx := hX.look 0
      simp at hx
      have HO5 := shade (ownsRow_on HS.out.own hga)
      have HS5 := shade (HS.out.sta.on hga)
      have HG5 := shade (grown_same HS.out.low hga)
      have HZ5 := shade (Nat.le_trans HS.out.big hga.size)
      have HT := shade ht
      clear hW5 hX hga HS ht r0 r1 r2 r3 r4 r5 r6 r7 r8 r9 r10 r11 r12
      have hk3 : i < 300 := by omega
      obtain ⟨i0, hi0, hz0, hz1, hz2⟩ := info_parts info3
      go_wp2_with (first
            | (at_builtin; go_loud (refine wpList_append_own _ rfl _ _ 24 rfl W2.heap.size 3 i0 (.int .i64 0) 1 8 Tryd.underlying24 hi0 hz0 hz1 hz2 rfl (by decide) _ _ _ rfl (HO5.out.alloc _) ⟨W5.heap.size, 0, none⟩ 1 1 [.int .i64 tt.at'] rfl rfl (int_new _ _ _) (int_one _) (by unfold maxLen; omega) (by omega) (by have := HZ5.out; simp; omega) ?_))
            | go_in)
      intro v' w8 hown8 hgr8 hnil8
      have hga := World.grownBy_alloc W5 (.cells #[.int .i64 tt.at'] 3) none
      have hnum : [Value.int .i64 tt.at'] = [.int .i64 ((fun j => (g j).at') i)] := by
        rw [← HT.out]
      rw [hnum, numL_snoc i (fun j => (g j).at')] at hown8
      have hst8 := (HS5.out.on hga).grown hgr8 (by
        intro b off e e'
        have h1 := HLW.out b off e
        have h2 := (World.ownsRow.lt HO5.out b e'.symm).1
        omega)
      have hlo8 := grown_row (grown_same HG5.out hga) hgr8 (fun j e => by
        have h2 := (World.ownsRow.lt HO5.out j e).1
        have := HWB.out
        omega)
      have hbg8 : W2.heap.size ≤ w8.heap.size := Nat.le_trans (Nat.le_trans HZ5.out hga.size) hgr8.size
      have H8 := shade (show TrO w w8 W2.heap.size (some ⟨b3, o3, none⟩) k g (i + 1) v' (fun j => (g j).at') from ⟨hown8, hst8, hlo8, hbg8⟩)
      clear hown8 hgr8 hnil8 hst8 hlo8 hbg8 hga hi0 hz0 hz1 hz2 HO5 HS5 HG5 HZ5 hnum
      go_wp2
      go_roundw
      case rel => exact ⟨i + 1, by omega, by go_num, H8.out⟩
      case measure => simp [intOf]; omega
    · have hik2 : i = k := by omega
      subst hik2
      go_wp2
      go_ret
      exact ⟨_, rfl, World.ownsRow.mono HS.out.own HWB.out, HS.out.low⟩

end Go.Proofs.YtcfnoihjpiklhaaDoor

namespace Go.Proofs.YtcfnoihjpiklhaaDoor
open Go.RowKit
set_option linter.unusedSimpArgs false
set_option maxHeartbeats 4000000 in
theorem validRun_any (A : Option Addr) (len cap : Nat) (F : Nat → Ins) (at' : Int) (A1 : Option Addr) (n1 c1 : Nat) (A2 : Option Addr) (n2 c2 : Nat) (f1 f2 : Nat → Int) (fuel : Int) (w : World) (hl : len ≤ 9223372036854775807) (hC : Code w A len F) (h1 : Nums w A1 n1 f1) (h2 : Nums w A2 n2 f2) (hn1 : n1 ≤ 9223372036854775807) (hn2 : n2 ≤ 9223372036854775807) :
    Calls Tryd.prog 30 #[.slice A len cap, MV at' A1 n1 c1 A2 n2 c2, .int .i64 fuel] w fun e w' => e = .returned (.bool (runB len F at' n1 n2 f1 f2 fuel)) ∧ w.grownBy w' none := by
  have hga := World.grownBy_alloc w (.cells #[.int .i64 at', .slice A1 n1 c1, .slice A2 n2 c2] 26) none
  have HVC := shade (validCode_any A len cap F (w.alloc (.cells #[.int .i64 at', .slice A1 n1 c1, .slice A2 n2 c2] 26)) hl (hC.on hga))
  have N1 := shade (h1.on hga)
  have N2 := shade (h2.on hga)
  have E1 := shade (show Holds5 (w.alloc (.cells #[.int .i64 at', .slice A1 n1 c1, .slice A2 n2 c2] 26)) w.heap.size 26 #[.int .i64 at', .slice A1 n1 c1, .slice A2 n2 c2] from Holds5.fresh w 26 #[.int .i64 at', .slice A1 n1 c1, .slice A2 n2 c2])
  have E3 := shade hga
  clear hga hC h1 h2
  unfold runB
  rcases hv : vcB len F with _ | _
  · rw [hv] at HVC
    clear hv
    go_enter Tryd.func30, Tryd.ntmps30
    go_wp2_with fail
    refine HVC.out.mono ?_
    rintro e w1 ⟨rfl, hgr⟩
    have HG := shade (grown_same E3.out hgr)
    clear hgr
    go_wp2_with fail
    go_ret
    exact ⟨rfl, HG.out⟩
  · rw [hv] at HVC
    clear hv
    obtain ⟨W1, hW⟩ : ∃ W1, w.alloc (.cells #[.int .i64 at', .slice A1 n1 c1, .slice A2 n2 c2] 26) = W1 := ⟨_, rfl⟩
    rw [hW] at HVC N1 N2 E1 E3
    have HW := shade hW
    clear hW
    rcases hm : vmB at' n1 n2 f1 f2 with _ | _
    · have HM := shade hm
      clear hm
      go_enter Tryd.func30, Tryd.ntmps30
      go_upto_region 1 with (fail)
      rw [HW.out]
      clear HW
      go_wp2_with fail
      refine HVC.out.mono ?_
      rintro e w1 ⟨rfl, hgr⟩
      have p1 := E1.out.grown hgr (by intro e; cases e)
      have x0 := p1.look 0; have x1 := p1.look 1; have x2 := p1.look 2
      simp at x0 x1 x2
      have m1 := N1.out.on hgr
      have m2 := N2.out.on hgr
      have HG := shade (grown_same E3.out hgr)
      have HV := shade (validMachine_any at' A1 A2 n1 n2 c1 c2 f1 f2 w1 hn1 hn2 m1 m2)
      rw [HM.out] at HV
      clear hgr p1 m1 m2
      go_wp2_with fail
      refine HV.out.mono ?_
      rintro e w2 ⟨rfl, hgr⟩
      have HG2 := shade (grown_same HG.out hgr)
      clear hgr
      go_wp2_with fail
      go_ret
      exact ⟨rfl, HG2.out⟩
    · have HM := shade hm
      clear hm
      go_enter Tryd.func30, Tryd.ntmps30
      go_upto_region 1 with (fail)
      rw [HW.out]
      clear HW
      go_wp2_with fail
      refine HVC.out.mono ?_
      rintro e w1 ⟨rfl, hgr⟩
      have p1 := E1.out.grown hgr (by intro e; cases e)
      have x0 := p1.look 0; have x1 := p1.look 1; have x2 := p1.look 2
      simp at x0 x1 x2
      have m1 := N1.out.on hgr
      have m2 := N2.out.on hgr
      have HG := shade (grown_same E3.out hgr)
      have HV := shade (validMachine_any at' A1 A2 n1 n2 c1 c2 f1 f2 w1 hn1 hn2 m1 m2)
      rw [HM.out] at HV
      clear hgr p1 m1 m2
      go_wp2_with fail
      refine HV.out.mono ?_
      rintro e w2 ⟨rfl, hgr⟩
      have HG2 := shade (grown_same HG.out hgr)
      clear hgr HV
      go_wp2_with fail
      refine (inRB_any fuel 0 300 _).mono ?_
      rintro e w3 ⟨rfl, rfl⟩
      go_wp2_with fail
      go_ret
      exact ⟨rfl, HG2.out⟩
/-- What stands while the model's states go on: i of them so far. The machine is kept in the first block; its slices lie elsewhere. -/
structure MoO (w wr : World) (B : Nat) (F : Nat → Ins) (s : Sta) (i : Nat) (v : Value) (xs : List Value) (e z n : Nat) (b1 o1 c1 b2 o2 c2 : Nat) : Prop where
  own : wr.ownsRow B e z v n xs
  box : Holds5 wr w.heap.size 26 #[.int .i64 (sN F s i).at', .slice (some ⟨b1, o1, none⟩) 4 c1, .slice (some ⟨b2, o2, none⟩) 8 c2]
  n1 : Nums wr (some ⟨b1, o1, none⟩) 4 (sN F s i).r
  n2 : Nums wr (some ⟨b2, o2, none⟩) 8 (sN F s i).m
  ne : b1 ≠ w.heap.size ∧ b2 ≠ w.heap.size
  sepv : ∀ j, v.ownBlock = some j → j ≠ b1 ∧ j ≠ b2
  low : w.grownBy wr none
  big : B ≤ wr.heap.size
  sep : w.heap.size < B
section
variable {w wr w2 : World} {B : Nat} {F : Nat → Ins} {s : Sta} {i : Nat} {v : Value} {xs : List Value} {e z n : Nat} {b1 o1 c1 b2 o2 c2 : Nat}
theorem MoO.on (h : MoO w wr B F s i v xs e z n b1 o1 c1 b2 o2 c2) (hg : wr.grownBy w2 none) : MoO w w2 B F s i v xs e z n b1 o1 c1 b2 o2 c2 :=
  ⟨ownsRow_on h.own hg, h.box.grown hg (by intro e; cases e), h.n1.on hg, h.n2.on hg, h.ne, h.sepv, grown_same h.low hg, Nat.le_trans h.big hg.size, h.sep⟩
theorem MoO.inb (h : MoO w wr B F s i v xs e z n b1 o1 c1 b2 o2 c2) : b1 < wr.heap.size ∧ b2 < wr.heap.size := by
  rcases h.n1 with e1 | ⟨_, _, e1, l1, _⟩
  · omega
  rcases h.n2 with e2 | ⟨_, _, e2, l2, _⟩
  · omega
  injection e1 with e1; injection e1 with e1; injection e2 with e2; injection e2 with e2
  subst e1; subst e2
  exact ⟨l1, l2⟩
/-- Behind an append to the row. -/
theorem MoO.app (h : MoO w wr B F s i v xs e z n b1 o1 c1 b2 o2 c2) {v' : Value} {xs' : List Value} {n' : Nat} (ho : w2.ownsRow B e z v' n' xs') (hg : wr.grownBy w2 v.ownBlock) (hv : ∀ j, v'.ownBlock = some j → v.ownBlock = some j ∨ wr.heap.size ≤ j) : MoO w w2 B F s i v' xs' e z n' b1 o1 c1 b2 o2 c2 := by
  have hb := h.inb
  refine ⟨ho, h.box.grown hg (fun e => ?_), h.n1.grown hg (fun b off e e' => ?_), h.n2.grown hg (fun b off e e' => ?_), h.ne, fun j hj => ?_, grown_row h.low hg (fun j e => ?_), Nat.le_trans h.big hg.size, h.sep⟩
  · have := (World.ownsRow.lt h.own _ e.symm).1
    have := h.sep
    omega
  · injection e with e; injection e with e
    subst e
    exact (h.sepv _ e'.symm).1 rfl
  · injection e with e; injection e with e
    subst e
    exact (h.sepv _ e'.symm).2 rfl
  · rcases hv j hj with h1 | h1
    · exact h.sepv j h1
    · omega
  · have := (World.ownsRow.lt h.own j e).1
    have := h.sep
    omega
/-- Behind a step. -/
theorem MoO.step (h : MoO w wr B F s i v xs e z n b1 o1 c1 b2 o2 c2) (hg : wr.grownBy w2 none) {g1 d1 g2 d2 : Nat} (o1' : Own w2 wr.heap.size (some ⟨g1, 0, none⟩) 4 d1 (sNext F (sN F s i)).r) (o2' : Own w2 wr.heap.size (some ⟨g2, 0, none⟩) 8 d2 (sNext F (sN F s i)).m) :
    MoO w (((w2.setCell ⟨w.heap.size, 0, none⟩ (.int .i64 (sNext F (sN F s i)).at')).setCell ⟨w.heap.size, 1, none⟩ (.slice (some ⟨g1, 0, none⟩) 4 d1)).setCell ⟨w.heap.size, 2, none⟩ (.slice (some ⟨g2, 0, none⟩) 8 d2)) B F s (i + 1) v xs e z n g1 0 d1 g2 0 d2 := by
  have hw := h.box.inside
  have hgs := grown_set3 w2 w.heap.size (.int .i64 (sNext F (sN F s i)).at') (.slice (some ⟨g1, 0, none⟩) 4 d1) (.slice (some ⟨g2, 0, none⟩) 8 d2)
  have hl1 := o1'.lt
  have hl2 := o2'.lt
  have hb := (((h.box.grown hg (by intro e; cases e)).put 0 (.int .i64 (sNext F (sN F s i)).at')).put 1 (.slice (some ⟨g1, 0, none⟩) 4 d1)).put 2 (.slice (some ⟨g2, 0, none⟩) 8 d2)
  simp at hb
  refine ⟨World.ownsRow.kept (ownsRow_on h.own hg) hgs (.inr fun e => ?_), hb, o1'.nums.grown hgs ?_, o2'.nums.grown hgs ?_, ⟨by omega, by omega⟩, fun j hj => ?_, grown_then (grown_same h.low hg) hgs (Nat.le_refl _), Nat.le_trans h.big (Nat.le_trans hg.size hgs.size), h.sep⟩
  · have := (World.ownsRow.lt h.own _ e).1
    have := h.sep
    omega
  · intro b off e e'
    injection e with e; injection e with e; injection e' with e'
    omega
  · intro b off e e'
    injection e with e; injection e with e; injection e' with e'
    omega
  · have := (World.ownsRow.lt h.own _ hj).2
    omega
end
end Go.Proofs.YtcfnoihjpiklhaaDoor

namespace Go.Proofs.YtcfnoihjpiklhaaDoor
open Go.RowKit
theorem runEnd_ex (len : Nat) (F : Nat → Ins) (s : Sta) : ∀ fuel, ∃ k, RunEnd len F s fuel k := by
  intro fuel
  induction fuel with
  | zero => exact ⟨0, Nat.le_refl _, fun i hi => absurd hi (Nat.not_lt_zero i), .inl rfl⟩
  | succ fuel ih =>
    obtain ⟨k, h1, h2, h3⟩ := ih
    rcases hh : sHalt len F (sN F s k) with _ | _
    · rcases h3 with h3 | h3
      · refine ⟨k + 1, by omega, fun i hi => ?_, .inl (by omega)⟩
        by_cases e : i = k
        · rw [e]
          exact hh
        · exact h2 i (by omega)
      · rw [hh] at h3
        cases h3
    · exact ⟨k, by omega, h2, .inr hh⟩
theorem runB_parts {len : Nat} {F : Nat → Ins} {at' : Int} {n1 n2 : Nat} {f1 f2 : Nat → Int} {fuel : Int} (h : runB len F at' n1 n2 f1 f2 fuel = true) : vcB len F = true ∧ vmB at' n1 n2 f1 f2 = true ∧ 0 ≤ fuel ∧ fuel ≤ 300 := by
  simp only [runB, inRB, Bool.and_eq_true, decide_eq_true_eq] at h
  exact ⟨h.1.1, h.1.2, h.2.1, h.2.2⟩
theorem runOf_no (A : Option Addr) (len cap : Nat) (F : Nat → Ins) (at' : Int) (A1 : Option Addr) (n1 c1 : Nat) (A2 : Option Addr) (n2 c2 : Nat) (f1 f2 : Nat → Int) (fuel : Int) (w : World) (hg : WT w) (hl : len ≤ 9223372036854775807) (hC : Code w A len F) (h1 : Nums w A1 n1 f1) (h2 : Nums w A2 n2 f2) (hr : runB len F at' n1 n2 f1 f2 fuel = false) : Calls Tryd.prog 28 #[.slice A len cap, MV at' A1 n1 c1 A2 n2 c2, .int .i64 fuel] w (NoRun w) := by
  rcases hv : vcB len F with _ | _
  · exact runOf_code A len cap F at' A1 n1 c1 A2 n2 c2 f1 f2 fuel w hg hl hC h1 h2 hv
  rcases hm : vmB at' n1 n2 f1 f2 with _ | _
  · exact runOf_mach A len cap F at' A1 n1 c1 A2 n2 c2 f1 f2 fuel w hg hl hC h1 h2 hv hm
  · refine runOf_fuel A len cap F at' A1 n1 c1 A2 n2 c2 f1 f2 fuel w hg hl hC h1 h2 hv hm ?_
    simp only [runB, hv, hm, inRB, Bool.true_and, Bool.and_eq_false_iff, decide_eq_false_iff_not] at hr
    omega
theorem NoRun.res {w : World} {e : Ending} {w' : World} (A : Option Addr) (len : Nat) (g : Nat → Sta) (h : NoRun w e w') : RunRes A len 0 g w e w' :=
  ⟨none, 0, 0, none, 0, zSta, false, false, h.1, .inl rfl, .inl rfl, (by intro _ _ e; cases e), h.2⟩
theorem YesRun.res {A : Option Addr} {len cap : Nat} {F : Nat → Ins} {s : Sta} {fuel K : Nat} {w : World} {e : Ending} {w' : World} (hK : RunEnd len F s fuel K) (h : YesRun A len cap F s fuel w e w') : RunRes A len K (sN F s) w e w' := by
  obtain ⟨k, A3, c3, hre, he, hst, hsep, hgr⟩ := h
  obtain rfl := hre.uniq hK
  exact ⟨A, len, cap, A3, c3, sN F s k, sHalt len F (sN F s k), true, he, .inr ⟨rfl, rfl⟩, hst, hsep, hgr⟩
/-- What runOf leaves, told ahead: how many states, and which. -/
theorem run_told (n : Nat) (F : Nat → Ins) (at' : Int) (n1 n2 : Nat) (f1 f2 : Nat → Int) (fuel : Int) (hn : n ≤ 9223372036854775807) :
    ∃ (K : Nat) (g : Nat → Sta), K ≤ 300 ∧ (∀ (A : Option Addr) (cap : Nat) (A1 : Option Addr) (c1 : Nat) (A2 : Option Addr) (c2 : Nat) (W : World), WT W → Code W A n F → Nums W A1 n1 f1 → Nums W A2 n2 f2 → Calls Tryd.prog 28 #[.slice A n cap, MV at' A1 n1 c1 A2 n2 c2, .int .i64 fuel] W (RunRes A n K g W)) ∧
      ((runB n F at' n1 n2 f1 f2 fuel = false ∧ K = 0) ∨ (runB n F at' n1 n2 f1 f2 fuel = true ∧ n1 = 4 ∧ n2 = 8 ∧ g = sN F ⟨at', f1, f2⟩ ∧ RunEnd n F ⟨at', f1, f2⟩ fuel.toNat K)) := by
  rcases hr : runB n F at' n1 n2 f1 f2 fuel with _ | _
  · exact ⟨0, fun _ => zSta, by omega, fun A cap A1 c1 A2 c2 W hg hC h1 h2 => (runOf_no A n cap F at' A1 n1 c1 A2 n2 c2 f1 f2 fuel W hg hn hC h1 h2 hr).mono fun e w' h => h.res A n _, .inl ⟨rfl, rfl⟩⟩
  · obtain ⟨hv, hm, hf0, hf1⟩ := runB_parts hr
    obtain ⟨fu, rfl⟩ := Int.eq_ofNat_of_zero_le hf0
    obtain ⟨_, rfl, rfl, _, _⟩ := vmB_parts hm
    obtain ⟨K, hK⟩ := runEnd_ex n F ⟨at', f1, f2⟩ fu
    have hle := hK.le
    refine ⟨K, _, by omega, fun A cap A1 c1 A2 c2 W hg hC h1 h2 => ?_, .inr ⟨rfl, rfl, rfl, rfl, by rw [Int.toNat_natCast]; exact hK⟩⟩
    obtain ⟨b1, o1, rfl, _⟩ := h1.resolve_left (by omega)
    obtain ⟨b2, o2, rfl, _⟩ := h2.resolve_left (by omega)
    exact (runOf_yes A n cap F ⟨at', f1, f2⟩ b1 o1 c1 b2 o2 c2 fu W hg hn hC h1 h2 hv hm (by omega)).mono fun e w' h => h.res hK
end Go.Proofs.YtcfnoihjpiklhaaDoor
