/- The laws' helpers over slices of instructions: measure, copy, compare, for every slice whose cells can be read. -/
import Derived.Test.YtcfnoihjpiklhaaDoorW50
namespace Go.Proofs.YtcfnoihjpiklhaaDoor
open Go.RowKit
theorem grown_set {w : World} (r o : Nat) (u : Value) : w.grownBy (w.setCell ⟨r, o, none⟩ u) (some r) := ⟨rfl, rfl, rfl, by simp, fun k _ hk => heap_setCell_other w ⟨r, o, none⟩ k u (fun e => hk (by simp [e]))⟩
theorem sz_zero (A : Option Addr) (c : Nat) (left : Int) (w : World) (h0 : 0 ≤ left) (h1 : left ≤ 1048576) :
    Calls Tryd.prog 12 #[.slice A 0 c, .int .i64 left] w fun e w' => e = .returned (.int .i64 left) ∧ w = w' := by
  go_enter Tryd.func12, Tryd.ntmps12
  go_wp2
  refine wp_loop_rounds 1 ?_
  rw [rounds_succ]
  go_wp2
  go_ret
  exact ⟨rfl, rfl⟩
theorem grown_alloc {a w : World} (h : a.grownBy w none) (o : Obj) : a.grownBy (w.alloc o) none := grown_same h (World.grownBy_alloc w o none)
/-- What measuring leaves: a number below 0, or one from which the length can be told. -/
def SzOk (n : Nat) (left : Int) (w : World) (e : Ending) (w' : World) : Prop := ∃ r : Int, e = .returned (.int .i64 r) ∧ (r < 0 ∨ (0 ≤ r ∧ r ≤ left - n)) ∧ w.grownBy w' none
set_option maxHeartbeats 2000000 in
theorem szInstrS_at (b off n c : Nat) (f : Nat → Ins) (left : Int) (w : World) (h0 : 0 ≤ left) (h1 : left ≤ 1048576) (hn : n ≤ 9223372036854775807) (hs : ∀ j, j < n → (f j).op.size ≤ 9223372036854775807) (h : Code w (some ⟨b, off, none⟩) n f) :
    Calls Tryd.prog 12 #[.slice (some ⟨b, off, none⟩) n c, .int .i64 left] w (SzOk n left w) := by
  by_cases hb : left - (n : Int) < 0
  · clear h hs
    go_enter Tryd.func12, Tryd.ntmps12
    go_wp2
    go_ret
    exact ⟨-1, rfl, .inl (by omega), World.grownBy.refl _ _⟩
  · have HC := shade h
    have HS := shade hs
    clear h hs
    have hb2 : 0 ≤ left - (n : Int) := by omega
    go_enter Tryd.func12, Tryd.ntmps12
    go_wp2
    go_loopw [1, 5] (fun x i wr => ∃ (k : Nat) (y : Int), k ≤ n ∧ i = .int .i64 k ∧ x = .int .i64 y ∧ (0 ≤ y ∧ y ≤ left - n) ∧ w.grownBy wr none) (fun _ i _ => n - (intOf i).toNat)
    case atStart => exact ⟨0, left - n, Nat.zero_le _, rfl, rfl, ⟨hb2, Int.le_refl _⟩, World.grownBy.refl _ _⟩
    case round =>
      obtain ⟨k, y, hk, rfl, rfl, ⟨y0, y1⟩, hg⟩ := hrel
      by_cases hkn : k < n
      · obtain ⟨q0, q1, q2, q3, q4⟩ := (HC.out.on hg).five hkn
        have hsz := HS.out k hkn
        have HG := shade hg
        clear hg
        generalize hc : f k = cc at *
        obtain ⟨op, d, a, b', kk⟩ := cc
        simp only [] at q0 q1 q2 q3 q4 hsz
        have HZ := shade (fun W => szInstr_any op d a b' kk y (by omega) (by omega) hsz W)
        clear hsz hc
        by_cases hbig : y - (op.size : Int) < 0
        · rw [if_pos hbig] at HZ
          go_wp2_with (first | (go_at_call 32; refine (HZ.out _).mono ?_; rintro e w' ⟨rfl, o1, rfl⟩))
          go_ret
          exact ⟨-1, rfl, .inl (by omega), grown_alloc HG.out _⟩
        · rw [if_neg hbig] at HZ
          have hp : 0 ≤ y - (op.size : Int) := by omega
          have hq : y - (op.size : Int) ≤ left - n := by omega
          generalize y - (op.size : Int) = y2 at *
          go_wp2_with (first | (go_at_call 32; refine (HZ.out _).mono ?_; rintro e w' ⟨rfl, o1, rfl⟩))
          go_roundw
          case rel => exact ⟨k + 1, y2, by omega, by go_num, rfl, ⟨hp, hq⟩, grown_alloc HG.out _⟩
          case measure => simp [intOf]; omega
      · have hkn2 : k = n := by omega
        subst hkn2
        have HG := shade hg
        clear hg
        go_wp2
        go_ret
        exact ⟨y, rfl, .inr ⟨y0, y1⟩, HG.out⟩
theorem szInstrS_any (A : Option Addr) (n c : Nat) (f : Nat → Ins) (left : Int) (w : World) (h0 : 0 ≤ left) (h1 : left ≤ 1048576) (hn : n ≤ 9223372036854775807) (hs : ∀ j, j < n → (f j).op.size ≤ 9223372036854775807) (h : Code w A n f) :
    Calls Tryd.prog 12 #[.slice A n c, .int .i64 left] w (SzOk n left w) := by
  by_cases hz : n = 0
  · subst hz
    exact (sz_zero A c left w h0 h1).mono fun e w' h => ⟨left, h.1, .inr ⟨h0, by omega⟩, h.2 ▸ World.grownBy.refl _ _⟩
  · obtain ⟨b, off, rfl, _⟩ := h.resolve_left hz
    exact szInstrS_at b off n c f left w h0 h1 hn hs h


theorem info24 : (Tryd.prog.info? 37).map (fun i => (i.zero, i.size, i.bytes)) = some (some (.agg #[.string ⟨#[]⟩, .int .i64 0, .int .i64 0, .int .i64 0, .int .i64 0]), 5, 48) := by kernel_rfl
/-- The instruction of noughts. -/
def zIns : Ins := ⟨⟨#[]⟩, 0, 0, 0, 0⟩
theorem made_ins (n : Nat) : (madeCells #[Value.string ⟨#[]⟩, .int .i64 0, .int .i64 0, .int .i64 0, .int .i64 0] (n * 5)).toList = codeL n (fun _ => zIns) := by
  unfold madeCells codeL rowL
  rw [Array.toList_map, Array.toList_range]
  apply List.map_congr_left
  intro i _
  show (#[Value.string ⟨#[]⟩, .int .i64 0, .int .i64 0, .int .i64 0, .int .i64 0])[i % 5]! = zIns.part (i % 5)
  rcases (show i % 5 = 0 ∨ i % 5 = 1 ∨ i % 5 = 2 ∨ i % 5 = 3 ∨ i % 5 = 4 by omega) with e | e | e | e | e <;> rw [e] <;> rfl
set_option maxHeartbeats 1000000 in
theorem toInstrS_zero (A : Option Addr) (cap : Nat) (f : Nat → Ins) (w : World) :
    Calls Tryd.prog 14 #[.slice A 0 cap] w fun e w' => e = .returned (.slice (some ⟨w.heap.size, 0, none⟩) 0 0) ∧ OwnC w' w.heap.size (some ⟨w.heap.size, 0, none⟩) 0 0 f ∧ w.grownBy w' none := by
  obtain ⟨i0, hi, hz0, hz1, hz2⟩ := info_parts info24
  go_enter Tryd.func14, Tryd.ntmps14
  go_wp2_with (first
    | (at_make; refine wpList_make_full _ rfl _ _ 23 rfl w.heap.size 37 i0 (.agg #[.string ⟨#[]⟩, .int .i64 0, .int .i64 0, .int .i64 0, .int .i64 0]) 5 Tryd.underlying23 hi hz0 hz1 .i64 .i64 0 0 0 rfl rfl rfl rfl (by omega) (by unfold maxLen; omega) (Nat.le_refl _) ?_)
    | go_in)
  intro w1 hown1 hgr1
  have hown2 : OwnC w1 w.heap.size (some ⟨w.heap.size, 0, none⟩) 0 0 f := by
    unfold OwnC
    rw [codeL_congr 0 f (fun _ => zIns) (fun j hj => absurd hj (by omega)), ← made_ins]
    exact hown1
  have HO1 := shade hown2
  have HG1 := shade hgr1
  clear hown1 hown2 hgr1
  go_wp2
  refine wp_loop_rounds 1 ?_
  rw [rounds_succ]
  go_wp2
  go_ret
  exact ⟨rfl, HO1.out, HG1.out⟩
set_option maxHeartbeats 4000000 in
theorem toInstrS_at (b off n cap : Nat) (f : Nat → Ins) (w : World) (hn0 : 0 < n) (hn : n ≤ 1048576) (h : Code w (some ⟨b, off, none⟩) n f) :
    Calls Tryd.prog 14 #[.slice (some ⟨b, off, none⟩) n cap] w fun e w' => e = .returned (.slice (some ⟨w.heap.size, 0, none⟩) n n) ∧ OwnC w' w.heap.size (some ⟨w.heap.size, 0, none⟩) n n f ∧ w.grownBy w' none := by
  have H := shade h
  clear h
  obtain ⟨i0, hi, hz0, hz1, hz2⟩ := info_parts info24
  go_enter Tryd.func14, Tryd.ntmps14
  go_wp2_with (first
    | (at_make; refine wpList_make_full _ rfl _ _ 23 rfl w.heap.size 37 i0 (.agg #[.string ⟨#[]⟩, .int .i64 0, .int .i64 0, .int .i64 0, .int .i64 0]) 5 Tryd.underlying23 hi hz0 hz1 .i64 .i64 n n n rfl rfl rfl rfl (by rw [hz2]; omega) (by unfold maxLen; omega) (Nat.le_refl _) ?_)
    | go_in)
  intro w1 hown1 hgr1
  have hown2 : OwnC w1 w.heap.size (some ⟨w.heap.size, 0, none⟩) n n (fun _ => zIns) := by
    unfold OwnC
    rw [← made_ins]
    exact hown1
  have HO1 := shade hown2
  have HG1 := shade hgr1
  clear hown1 hown2 hgr1
  go_wp2
  go_loopw [4] (fun i wr => ∃ k : Nat, k ≤ n ∧ i = .int .i64 k ∧ OwnC wr w.heap.size (some ⟨w.heap.size, 0, none⟩) n n (fun j => if j < k then f j else zIns) ∧ w.grownBy wr none) (fun i _ => n - (intOf i).toNat)
  case atStart => exact ⟨0, Nat.zero_le _, rfl, OwnC.congr HO1.out (fun j _ => by rw [if_neg (by omega)]), HG1.out⟩
  case round =>
    obtain ⟨k, hk, rfl, hown, hgr⟩ := hrel
    by_cases hkn : k < n
    · obtain ⟨q0, q1, q2, q3, q4⟩ := (H.out.on hgr).five hkn
      have HO := shade hown
      have HR := shade hgr
      clear hown hgr
      generalize hc : f k = cc at *
      obtain ⟨op, d, a, b', kk⟩ := cc
      simp only [] at q0 q1 q2 q3 q4
      have HC := shade hc
      clear hc
      go_wp2_with fail
      refine (toInstr_any _ _ _ _ _ _).mono ?_
      rintro e w2 ⟨rfl, hb⟩
      have hO2 : OwnC w2 w.heap.size (some ⟨w.heap.size, 0, none⟩) n n (fun j => if j < k then f j else zIns) := World.ownsRow.kept HO.out (grown_of_below hb) (.inr (by
        show some w.heap.size ≠ none
        simp))
      obtain ⟨p0, p1, p2, p3, p4⟩ := hO2.code.five hkn
      have t0 := World.ownsRow.frozenAt hO2 (k * 5); have t1 := World.ownsRow.frozenAt hO2 (k * 5 + 1); have t2 := World.ownsRow.frozenAt hO2 (k * 5 + 2); have t3 := World.ownsRow.frozenAt hO2 (k * 5 + 3); have t4 := World.ownsRow.frozenAt hO2 (k * 5 + 4)
      simp only [Nat.zero_add] at p0 p1 p2 p3 p4
      have HO2 := shade hO2
      have HR2 := shade (grown_same HR.out (grown_of_below hb))
      clear hb hO2 q0 q1 q2 q3 q4
      go_wp2_with fail
      go_roundw
      case rel =>
        refine ⟨k + 1, by omega, by go_num, (HO2.out.put k ⟨op, d, a, b', kk⟩).congr (fun j _ => ?_), grown_then (grown_then (grown_then (grown_then (grown_then HR2.out (grown_set _ _ _) (Nat.le_refl _)) (grown_set _ _ _) (Nat.le_refl _)) (grown_set _ _ _) (Nat.le_refl _)) (grown_set _ _ _) (Nat.le_refl _)) (grown_set _ _ _) (Nat.le_refl _)⟩
        show (if j = k then (⟨op, d, a, b', kk⟩ : Ins) else if j < k then f j else zIns) = (if j < k + 1 then f j else zIns)
        by_cases e : j = k
        · rw [if_pos e, if_pos (by omega), e, HC.out]
        · rw [if_neg e]
          by_cases h : j < k
          · rw [if_pos h, if_pos (by omega)]
          · rw [if_neg h, if_neg (by omega)]
      case measure => simp [intOf]; omega
    · have hkn2 : k = n := by omega
      subst hkn2
      have HO := shade hown
      have HR := shade hgr
      clear hown hgr
      go_wp2
      go_ret
      exact ⟨rfl, HO.out.congr (fun j hj => by rw [if_pos hj]), HR.out⟩
theorem toInstrS_any (A : Option Addr) (n cap : Nat) (f : Nat → Ins) (w : World) (hn : n ≤ 1048576) (h : Code w A n f) :
    Calls Tryd.prog 14 #[.slice A n cap] w fun e w' => e = .returned (.slice (some ⟨w.heap.size, 0, none⟩) n n) ∧ OwnC w' w.heap.size (some ⟨w.heap.size, 0, none⟩) n n f ∧ w.grownBy w' none := by
  by_cases h0 : n = 0
  · subst h0
    exact toInstrS_zero A cap f w
  · obtain ⟨b, off, rfl, _⟩ := h.resolve_left h0
    exact toInstrS_at b off n cap f w (by omega) hn h


theorem eqInstrS_zero (A1 A2 : Option Addr) (c1 c2 : Nat) (w : World) :
    Calls Tryd.prog 16 #[.slice A1 0 c1, .slice A2 0 c2] w fun e w' => e = .returned (.bool true) ∧ w.grownBy w' none := by
  go_enter Tryd.func16, Tryd.ntmps16
  go_wp2
  refine wp_loop_rounds 1 ?_
  rw [rounds_succ]
  go_wp2
  go_ret
  exact ⟨rfl, World.grownBy.refl _ _⟩
theorem grown_drew1 (w : World) : w.grownBy w.drew none := ⟨rfl, rfl, rfl, Nat.le_refl _, fun _ _ _ => rfl⟩
set_option maxHeartbeats 4000000 in
theorem eqInstrS_at (b1 o1 b2 o2 c1 c2 n : Nat) (f : Nat → Ins) (w : World) (hn : n ≤ 9223372036854775807) (h1 : Code w (some ⟨b1, o1, none⟩) n f) (h2 : Code w (some ⟨b2, o2, none⟩) n f) :
    Calls Tryd.prog 16 #[.slice (some ⟨b1, o1, none⟩) n c1, .slice (some ⟨b2, o2, none⟩) n c2] w fun e w' => e = .returned (.bool true) ∧ w.grownBy w' none := by
  have H1 := shade h1
  have H2 := shade h2
  clear h1 h2
  go_enter Tryd.func16, Tryd.ntmps16
  go_wp2
  go_loopw [5] (fun i wr => ∃ k : Nat, k ≤ n ∧ i = .int .i64 k ∧ w.grownBy wr none) (fun i _ => n - (intOf i).toNat)
  case atStart => exact ⟨0, Nat.zero_le _, rfl, World.grownBy.refl _ _⟩
  case round =>
    obtain ⟨k, hk, rfl, hg⟩ := hrel
    by_cases hkn : k < n
    · have hgd := grown_same hg (grown_drew1 wr)
      have p := (H1.out.on hgd).five hkn
      have q := (H2.out.on hgd).five hkn
      have HG := shade hgd
      clear hg hgd
      generalize f k = cc at *
      obtain ⟨op, d, a, b', kk⟩ := cc
      simp only [] at p q
      have S0 := shade (And.intro p q)
      clear p q
      go_wp2_with fail
      go_region_held3 (fun w' => (w'.cell? ⟨b1, o1 + k * 5, none⟩ = some (.string op) ∧ w'.cell? ⟨b1, o1 + k * 5 + 1, none⟩ = some (.int .i64 d) ∧ w'.cell? ⟨b1, o1 + k * 5 + 2, none⟩ = some (.int .i64 a) ∧ w'.cell? ⟨b1, o1 + k * 5 + 3, none⟩ = some (.int .i64 b') ∧ w'.cell? ⟨b1, o1 + k * 5 + 4, none⟩ = some (.int .i64 kk)) ∧ (w'.cell? ⟨b2, o2 + k * 5, none⟩ = some (.string op) ∧ w'.cell? ⟨b2, o2 + k * 5 + 1, none⟩ = some (.int .i64 d) ∧ w'.cell? ⟨b2, o2 + k * 5 + 2, none⟩ = some (.int .i64 a) ∧ w'.cell? ⟨b2, o2 + k * 5 + 3, none⟩ = some (.int .i64 b') ∧ w'.cell? ⟨b2, o2 + k * 5 + 4, none⟩ = some (.int .i64 kk))) (first | exact S0.out | exact S1.out)
        ((go_at_call 36; refine (eqInstr_same op d a b' kk _).mono ?_; rintro e w2 ⟨rfl, ob1, ob2, hw2⟩; have hgr := grown_same (World.grownBy_alloc wr.drew ob1 none) (World.grownBy_alloc _ ob2 none); rw [hw2] at hgr; have S1 := shade (And.intro (And.intro (hgr.cell S0.out.1.1 (by simp)) (And.intro (hgr.cell S0.out.1.2.1 (by simp)) (And.intro (hgr.cell S0.out.1.2.2.1 (by simp)) (And.intro (hgr.cell S0.out.1.2.2.2.1 (by simp)) (hgr.cell S0.out.1.2.2.2.2 (by simp)))))) (And.intro (hgr.cell S0.out.2.1 (by simp)) (And.intro (hgr.cell S0.out.2.2.1 (by simp)) (And.intro (hgr.cell S0.out.2.2.2.1 (by simp)) (And.intro (hgr.cell S0.out.2.2.2.2.1 (by simp)) (hgr.cell S0.out.2.2.2.2.2 (by simp))))))); have HG2 := shade (grown_same HG.out hgr); clear hgr hw2))
      rename_i hHeld
      clear hHeld
      go_wp2_with fail
      go_roundw
      case rel => exact ⟨k + 1, by omega, by go_num, HG2.out⟩
      case measure => simp [intOf]; omega
    · have hkn2 : k = n := by omega
      subst hkn2
      have HG := shade hg
      clear hg
      go_wp2
      go_ret
      exact ⟨rfl, HG.out⟩
theorem eqInstrS_any (A1 A2 : Option Addr) (c1 c2 n : Nat) (f : Nat → Ins) (w : World) (hn : n ≤ 9223372036854775807) (h1 : Code w A1 n f) (h2 : Code w A2 n f) :
    Calls Tryd.prog 16 #[.slice A1 n c1, .slice A2 n c2] w fun e w' => e = .returned (.bool true) ∧ w.grownBy w' none := by
  by_cases h0 : n = 0
  · subst h0
    exact eqInstrS_zero A1 A2 c1 c2 w
  · obtain ⟨b1, o1, rfl, _⟩ := h1.resolve_left h0
    obtain ⟨b2, o2, rfl, _⟩ := h2.resolve_left h0
    exact eqInstrS_at b1 o1 b2 o2 c1 c2 n f w hn h1 h2

end Go.Proofs.YtcfnoihjpiklhaaDoor
