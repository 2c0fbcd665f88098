/- ValidMachine answers as vmB says, for every machine whose numbers can be read. toMachine copies a machine, for every machine whose numbers can be read. -/
import Derived.Test.YtcfnoihjpiklhaaDoorG37
namespace Go.Proofs.YtcfnoihjpiklhaaDoor
open Go.RowKit
theorem equalIn_arr4 (d : Nat) (f g : Nat → Int) (W : World) : (Op.equalIn (d + 2) 57 (.agg #[.int .i64 (f 0), .int .i64 (f 1), .int .i64 (f 2), .int .i64 (f 3)]) (.agg #[.int .i64 (g 0), .int .i64 (g 1), .int .i64 (g 2), .int .i64 (g 3)])).run Tryd.prog W = .ok ((f 0 == g 0) && (f 1 == g 1) && (f 2 == g 2) && (f 3 == g 3)) W := by
  obtain ⟨i0, hi, hz0, hz1, hz2⟩ := info_parts info3
  have hs : ∀ W, (sizeOf 3).run Tryd.prog W = .ok 1 W := fun W => by simp [sizeOf, typeInfo, hi, hz1]
  have hq : ∀ (x y : Int) W, (Op.equalIn (d + 1) 3 (.int .i64 x) (.int .i64 y)).run Tryd.prog W = .ok (x == y) W := fun x y W => run_equalIn_int W d 3 .i64 .i64 x y Tryd.underlying3
  rw [Op.equalIn]
  simp only [Sem.run_bind, run_underlying Tryd.underlying57, Result.andThen_ok, hs]
  simp [Std.Legacy.Range.forIn_eq_forIn_range', List.range', part, hq]
  (repeat' split) <;> simp [*]
theorem equalIn_arr8 (d : Nat) (f g : Nat → Int) (W : World) : (Op.equalIn (d + 2) 58 (.agg #[.int .i64 (f 0), .int .i64 (f 1), .int .i64 (f 2), .int .i64 (f 3), .int .i64 (f 4), .int .i64 (f 5), .int .i64 (f 6), .int .i64 (f 7)]) (.agg #[.int .i64 (g 0), .int .i64 (g 1), .int .i64 (g 2), .int .i64 (g 3), .int .i64 (g 4), .int .i64 (g 5), .int .i64 (g 6), .int .i64 (g 7)])).run Tryd.prog W = .ok ((f 0 == g 0) && (f 1 == g 1) && (f 2 == g 2) && (f 3 == g 3) && (f 4 == g 4) && (f 5 == g 5) && (f 6 == g 6) && (f 7 == g 7)) W := by
  obtain ⟨i0, hi, hz0, hz1, hz2⟩ := info_parts info3
  have hs : ∀ W, (sizeOf 3).run Tryd.prog W = .ok 1 W := fun W => by simp [sizeOf, typeInfo, hi, hz1]
  have hq : ∀ (x y : Int) W, (Op.equalIn (d + 1) 3 (.int .i64 x) (.int .i64 y)).run Tryd.prog W = .ok (x == y) W := fun x y W => run_equalIn_int W d 3 .i64 .i64 x y Tryd.underlying3
  rw [Op.equalIn]
  simp only [Sem.run_bind, run_underlying Tryd.underlying58, Result.andThen_ok, hs]
  simp [Std.Legacy.Range.forIn_eq_forIn_range', List.range', part, hq]
  (repeat' split) <;> simp [*]
theorem eqArr4 (f g : Nat → Int) (v : Bool) (hv : ((f 0 == g 0) && (f 1 == g 1) && (f 2 == g 2) && (f 3 == g 3)) = v) (W : World) : (Op.equalIn 10000 57 (.agg #[.int .i64 (f 0), .int .i64 (f 1), .int .i64 (f 2), .int .i64 (f 3)]) (.agg #[.int .i64 (g 0), .int .i64 (g 1), .int .i64 (g 2), .int .i64 (g 3)])).run Tryd.prog W = .ok v W := by
  rw [← hv]
  exact equalIn_arr4 9998 f g W
theorem eqArr8 (f g : Nat → Int) (v : Bool) (hv : ((f 0 == g 0) && (f 1 == g 1) && (f 2 == g 2) && (f 3 == g 3) && (f 4 == g 4) && (f 5 == g 5) && (f 6 == g 6) && (f 7 == g 7)) = v) (W : World) : (Op.equalIn 10000 58 (.agg #[.int .i64 (f 0), .int .i64 (f 1), .int .i64 (f 2), .int .i64 (f 3), .int .i64 (f 4), .int .i64 (f 5), .int .i64 (f 6), .int .i64 (f 7)]) (.agg #[.int .i64 (g 0), .int .i64 (g 1), .int .i64 (g 2), .int .i64 (g 3), .int .i64 (g 4), .int .i64 (g 5), .int .i64 (g 6), .int .i64 (g 7)])).run Tryd.prog W = .ok v W := by
  rw [← hv]
  exact equalIn_arr8 9998 f g W
/-- A number is its own rest if it is a word. -/
theorem rest_self (x : Int) : (x % 256 == x) = inRB x 0 255 := by
  rw [Bool.eq_iff_iff]
  simp [inRB]
  omega
theorem okL4 (f : Nat → Int) : (((((f 0 % 256 == f 0) && (f 1 % 256 == f 1)) && (f 2 % 256 == f 2)) && (f 3 % 256 == f 3))) = okL 4 f := by
  simp only [rest_self]
  simp [okL, List.range, List.range.loop, Bool.and_assoc]
theorem okL8 (f : Nat → Int) : ((((((((f 0 % 256 == f 0) && (f 1 % 256 == f 1)) && (f 2 % 256 == f 2)) && (f 3 % 256 == f 3)) && (f 4 % 256 == f 4)) && (f 5 % 256 == f 5)) && (f 6 % 256 == f 6)) && (f 7 % 256 == f 7)) = okL 8 f := by
  simp only [rest_self]
  simp [okL, List.range, List.range.loop, Bool.and_assoc]


theorem vmB_no {at' : Int} {n1 n2 : Nat} {f1 f2 : Nat → Int} (h : at' < 0 ∨ 40 < at' ∨ n1 ≠ 4 ∨ n2 ≠ 8) : vmB at' n1 n2 f1 f2 = false := by
  rw [Bool.eq_false_iff]
  intro hv
  simp only [vmB, inRB, Bool.and_eq_true, decide_eq_true_eq] at hv
  omega
theorem vmB_in {at' : Int} {f1 f2 : Nat → Int} (h0 : 0 ≤ at') (h1 : at' ≤ 40) : vmB at' 4 8 f1 f2 = (okL 4 f1 && okL 8 f2) := by
  simp [vmB, inRB, h0, h1]
set_option maxHeartbeats 4000000 in
theorem ValidMachine_no (at' : Int) (A1 A2 : Option Addr) (n1 n2 c1 c2 : Nat) (w : World) (h : at' < 0 ∨ 40 < at' ∨ n1 ≠ 4 ∨ n2 ≠ 8) :
    Calls Tryd.prog 45 #[MV at' A1 n1 c1 A2 n2 c2] w fun e w' => e = .returned (.bool false) ∧ w.grownBy w' none := by
  by_cases q1 : at' < 0
  · clear h
    go_enter Tryd.func45, Tryd.ntmps45
    go_wp2
    go_ret
    exact ⟨rfl, World.grownBy_alloc _ _ _⟩
  by_cases q2 : 40 < at'
  · clear h
    have q1 : 0 ≤ at' := by omega
    go_enter Tryd.func45, Tryd.ntmps45
    go_wp2
    go_ret
    exact ⟨rfl, World.grownBy_alloc _ _ _⟩
  by_cases q3 : n1 = 4
  · have q4 : n2 ≠ 8 := by omega
    have q4 : ((n2 : Int) == 8) = false := by rw [beq_eq_false_iff_ne]; omega
    subst q3
    have q1 : 0 ≤ at' := by omega
    have q2 : at' ≤ 40 := by omega
    clear h
    go_enter Tryd.func45, Tryd.ntmps45
    go_wp2
    go_ret
    exact ⟨rfl, World.grownBy_alloc _ _ _⟩
  · have q3 : ((n1 : Int) == 4) = false := by rw [beq_eq_false_iff_ne]; omega
    have q1 : 0 ≤ at' := by omega
    have q2 : at' ≤ 40 := by omega
    clear h
    go_enter Tryd.func45, Tryd.ntmps45
    go_wp2
    go_ret
    exact ⟨rfl, World.grownBy_alloc _ _ _⟩
set_option maxHeartbeats 4000000 in
theorem ValidMachine_in (at' : Int) (b1 o1 b2 o2 c1 c2 : Nat) (f1 f2 : Nat → Int) (w : World) (h0 : 0 ≤ at') (h40 : at' ≤ 40) (h1 : Nums w (some ⟨b1, o1, none⟩) 4 f1) (h2 : Nums w (some ⟨b2, o2, none⟩) 8 f2) :
    Calls Tryd.prog 45 #[MV at' (some ⟨b1, o1, none⟩) 4 c1 (some ⟨b2, o2, none⟩) 8 c2] w fun e w' => e = .returned (.bool (okL 4 f1 && okL 8 f2)) ∧ w.grownBy w' none := by
  have HST := shade (fun o => stateOf_any at' b1 o1 b2 o2 c1 c2 f1 f2 (w.alloc o) (h1.alloc o) (h2.alloc o))
  have H1 := shade (fun o => h1.alloc o)
  have H2 := shade (fun o => h2.alloc o)
  clear h1 h2
  have E4 := eqArr4 (fun j => f1 j % 256) f1 (okL 4 f1) (okL4 f1)
  have E8 := eqArr8 (fun j => f2 j % 256) f2 (okL 8 f2) (okL8 f2)
  generalize okL 4 f1 = v1 at *
  generalize okL 8 f2 = v2 at *
  go_enter Tryd.func45, Tryd.ntmps45
  go_wp2_with fail
  refine (HST.out _).mono ?_
  rintro e w1 ⟨rfl, hgr⟩
  have P1 := (Holds5.fresh w 26 #[.int .i64 at', .slice (some ⟨b1, o1, none⟩) 4 c1, .slice (some ⟨b2, o2, none⟩) 8 c2]).grown hgr (by intro e; cases e)
  have z := P1.inside
  have x0 := P1.look 0; have x1 := P1.look 1; have x2 := P1.look 2
  simp at x0 x1 x2
  have N1 := (H1.out (.cells #[.int .i64 at', .slice (some ⟨b1, o1, none⟩) 4 c1, .slice (some ⟨b2, o2, none⟩) 8 c2] 26)).grown hgr (by intro _ _ _ e; cases e)
  have N2 := (H2.out (.cells #[.int .i64 at', .slice (some ⟨b1, o1, none⟩) 4 c1, .slice (some ⟨b2, o2, none⟩) 8 c2] 26)).grown hgr (by intro _ _ _ e; cases e)
  have HG := shade (grown_same (World.grownBy_alloc _ _ _) hgr)
  clear P1 hgr HST H1 H2
  have p0 := N1.cell (j := 0) (by omega); have p1 := N1.cell (j := 1) (by omega); have p2 := N1.cell (j := 2) (by omega); have p3 := N1.cell (j := 3) (by omega)
  have r0 := N2.cell (j := 0) (by omega); have r1 := N2.cell (j := 1) (by omega); have r2 := N2.cell (j := 2) (by omega); have r3 := N2.cell (j := 3) (by omega); have r4 := N2.cell (j := 4) (by omega); have r5 := N2.cell (j := 5) (by omega); have r6 := N2.cell (j := 6) (by omega); have r7 := N2.cell (j := 7) (by omega)
  have zb : b1 < w1.heap.size := World.block_lt_of_cell? w1 _ p0
  have zc : b2 < w1.heap.size := World.block_lt_of_cell? w1 _ r0
  simp only [Nat.add_zero] at p0 r0
  clear N1 N2
  go_wp2_with fail
  have A4 : ∀ W : World, (Instr.arrayAt 57 (.slice (some ⟨b1, o1, none⟩) 4 c1)).run Tryd.prog W = .ok (.pointer (some ⟨b1, o1, none⟩)) W := fun W => run_arrayAt W 57 3 4 _ 4 c1 Tryd.underlying57 (Nat.le_refl _)
  have A8 : ∀ W : World, (Instr.arrayAt 58 (.slice (some ⟨b2, o2, none⟩) 8 c2)).run Tryd.prog W = .ok (.pointer (some ⟨b2, o2, none⟩)) W := fun W => run_arrayAt W 58 3 8 _ 8 c2 Tryd.underlying58 (Nat.le_refl _)
  have S3 := Holds5.fresh w1 60 #[.int .i64 at', .int .i64 (f1 0 % 256), .int .i64 (f1 1 % 256), .int .i64 (f1 2 % 256), .int .i64 (f1 3 % 256), .int .i64 (f2 0 % 256), .int .i64 (f2 1 % 256), .int .i64 (f2 2 % 256), .int .i64 (f2 3 % 256), .int .i64 (f2 4 % 256), .int .i64 (f2 5 % 256), .int .i64 (f2 6 % 256), .int .i64 (f2 7 % 256)]
  have HG2 := shade (grown_same HG.out (World.grownBy_alloc w1 (.cells #[.int .i64 at', .int .i64 (f1 0 % 256), .int .i64 (f1 1 % 256), .int .i64 (f1 2 % 256), .int .i64 (f1 3 % 256), .int .i64 (f2 0 % 256), .int .i64 (f2 1 % 256), .int .i64 (f2 2 % 256), .int .i64 (f2 3 % 256), .int .i64 (f2 4 % 256), .int .i64 (f2 5 % 256), .int .i64 (f2 6 % 256), .int .i64 (f2 7 % 256)] 60) none))
  have hal := fun (a : Addr) (v : Value) (h : w1.cell? a = some v) => (World.cell?_alloc_some w1 a (.cells #[.int .i64 at', .int .i64 (f1 0 % 256), .int .i64 (f1 1 % 256), .int .i64 (f1 2 % 256), .int .i64 (f1 3 % 256), .int .i64 (f2 0 % 256), .int .i64 (f2 1 % 256), .int .i64 (f2 2 % 256), .int .i64 (f2 3 % 256), .int .i64 (f2 4 % 256), .int .i64 (f2 5 % 256), .int .i64 (f2 6 % 256), .int .i64 (f2 7 % 256)] 60) (by rw [h]; rfl)).trans h
  replace x0 := hal _ _ x0; replace x1 := hal _ _ x1; replace x2 := hal _ _ x2; replace p0 := hal _ _ p0; replace p1 := hal _ _ p1; replace p2 := hal _ _ p2; replace p3 := hal _ _ p3; replace r0 := hal _ _ r0; replace r1 := hal _ _ r1; replace r2 := hal _ _ r2; replace r3 := hal _ _ r3; replace r4 := hal _ _ r4; replace r5 := hal _ _ r5; replace r6 := hal _ _ r6; replace r7 := hal _ _ r7
  clear hal HG
  generalize (w1.alloc (.cells #[.int .i64 at', .int .i64 (f1 0 % 256), .int .i64 (f1 1 % 256), .int .i64 (f1 2 % 256), .int .i64 (f1 3 % 256), .int .i64 (f2 0 % 256), .int .i64 (f2 1 % 256), .int .i64 (f2 2 % 256), .int .i64 (f2 3 % 256), .int .i64 (f2 4 % 256), .int .i64 (f2 5 % 256), .int .i64 (f2 6 % 256), .int .i64 (f2 7 % 256)] 60)) = w2 at *
  have y0 := S3.look 0; have y1 := S3.look 1; have y2 := S3.look 2; have y3 := S3.look 3; have y4 := S3.look 4; have y5 := S3.look 5; have y6 := S3.look 6; have y7 := S3.look 7; have y8 := S3.look 8; have y9 := S3.look 9; have y10 := S3.look 10; have y11 := S3.look 11; have y12 := S3.look 12
  simp at y0 y1 y2 y3 y4 y5 y6 y7 y8 y9 y10 y11 y12
  clear S3 h0 h40
  rcases v1 with _ | _
  · go_quiet (fail)
    go_wp2
    go_ret
    exact ⟨rfl, grown_drewN HG2.out _⟩
  · rcases v2 with _ | _
    all_goals
      go_quiet (fail)
      go_wp2
      go_ret
      exact ⟨rfl, grown_drewN HG2.out _⟩


theorem ValidMachine_any (at' : Int) (A1 A2 : Option Addr) (n1 n2 c1 c2 : Nat) (f1 f2 : Nat → Int) (w : World) (h1 : Nums w A1 n1 f1) (h2 : Nums w A2 n2 f2) :
    Calls Tryd.prog 45 #[MV at' A1 n1 c1 A2 n2 c2] w fun e w' => e = .returned (.bool (vmB at' n1 n2 f1 f2)) ∧ w.grownBy w' none := by
  by_cases h : at' < 0 ∨ 40 < at' ∨ n1 ≠ 4 ∨ n2 ≠ 8
  · rw [vmB_no h]
    exact ValidMachine_no at' A1 A2 n1 n2 c1 c2 w h
  · obtain ⟨q1, q2, rfl, rfl⟩ : 0 ≤ at' ∧ at' ≤ 40 ∧ n1 = 4 ∧ n2 = 8 := by omega
    obtain ⟨b1, o1, rfl, _⟩ := h1.resolve_left (by omega)
    obtain ⟨b2, o2, rfl, _⟩ := h2.resolve_left (by omega)
    rw [vmB_in q1 q2]
    exact ValidMachine_in at' b1 o1 b2 o2 c1 c2 f1 f2 w q1 q2 h1 h2

end Go.Proofs.YtcfnoihjpiklhaaDoor
namespace Go.Proofs.YtcfnoihjpiklhaaDoor
open Go.RowKit
set_option maxHeartbeats 4000000 in
theorem toMachine_any (at' : Int) (A1 A2 : Option Addr) (n1 n2 c1 c2 : Nat) (f1 f2 : Nat → Int) (w : World) (hn1 : n1 ≤ 1048576) (hn2 : n2 ≤ 1048576) (h1 : Nums w A1 n1 f1) (h2 : Nums w A2 n2 f2) :
    Calls Tryd.prog 15 #[MV at' A1 n1 c1 A2 n2 c2] w (MachOk w at' n1 n2 f1 f2) := by
  obtain ⟨W1, hW1⟩ : ∃ W1 : World, ((w.alloc (.cells #[.int .i64 at', .slice A1 n1 c1, .slice A2 n2 c2] 40)).alloc (.cells #[.int .i64 0, .slice none 0 0, .slice none 0 0] 26)).alloc (.cells #[.int .i64 at', .slice none 0 0, .slice none 0 0] 26) = W1 := ⟨_, rfl⟩
  have e1 := ((Holds5.fresh w 40 #[.int .i64 at', .slice A1 n1 c1, .slice A2 n2 c2]).alloc (.cells #[.int .i64 0, .slice none 0 0, .slice none 0 0] 26)).alloc (.cells #[.int .i64 at', .slice none 0 0, .slice none 0 0] 26)
  have e2 := (Holds5.fresh (w.alloc (.cells #[.int .i64 at', .slice A1 n1 c1, .slice A2 n2 c2] 40)) 26 #[.int .i64 0, .slice none 0 0, .slice none 0 0]).alloc (.cells #[.int .i64 at', .slice none 0 0, .slice none 0 0] 26)
  have e3 := Holds5.fresh ((w.alloc (.cells #[.int .i64 at', .slice A1 n1 c1, .slice A2 n2 c2] 40)).alloc (.cells #[.int .i64 0, .slice none 0 0, .slice none 0 0] 26)) 26 #[.int .i64 at', .slice none 0 0, .slice none 0 0]
  have e4 := grown_same (grown_same (World.grownBy_alloc w (.cells #[.int .i64 at', .slice A1 n1 c1, .slice A2 n2 c2] 40) none) (World.grownBy_alloc _ (.cells #[.int .i64 0, .slice none 0 0, .slice none 0 0] 26) none)) (World.grownBy_alloc _ (.cells #[.int .i64 at', .slice none 0 0, .slice none 0 0] 26) none)
  have e5 := ((h1.alloc (.cells #[.int .i64 at', .slice A1 n1 c1, .slice A2 n2 c2] 40)).alloc (.cells #[.int .i64 0, .slice none 0 0, .slice none 0 0] 26)).alloc (.cells #[.int .i64 at', .slice none 0 0, .slice none 0 0] 26)
  have e6 := ((h2.alloc (.cells #[.int .i64 at', .slice A1 n1 c1, .slice A2 n2 c2] 40)).alloc (.cells #[.int .i64 0, .slice none 0 0, .slice none 0 0] 26)).alloc (.cells #[.int .i64 at', .slice none 0 0, .slice none 0 0] 26)
  rw [World.size_alloc] at e2 e3
  rw [World.size_alloc] at e3
  rw [hW1] at e1 e2 e3 e4 e5 e6
  have L2 : n2 = 0 ∨ ∀ b off, A2 = some ⟨b, off, none⟩ → b < w.heap.size := by
    rcases h2 with h | ⟨b', off', hA, hb, _⟩
    · exact .inl h
    · exact .inr (fun b off e => by
        rw [hA] at e
        injection e with e
        injection e with e
        omega)
  have HW1 := shade hW1
  have E1 := shade e1; have E2 := shade e2; have E3 := shade e3; have E4 := shade e4; have E5 := shade e5; have E6 := shade e6
  have HL2 := shade L2
  have z3 := e3.inside
  clear e1 e2 e3 e4 e5 e6 hW1 h1 h2 L2
  go_enter Tryd.func15, Tryd.ntmps15
  go_wp2_with fail
  rw [HW1.out]
  refine (toIntS_any A1 n1 c1 f1 W1 hn1 E5.out).mono ?_
  rintro e w1 ⟨rfl, ho1, hgr1⟩
  have x1 := E1.out.grown hgr1 (by intro e; cases e)
  have x2 := E2.out.grown hgr1 (by intro e; cases e)
  have x3 := E3.out.grown hgr1 (by intro e; cases e)
  have x6 := E6.out.grown hgr1 (by intro _ _ _ e; cases e)
  have x4 := grown_same E4.out hgr1
  have y0 := x1.look 0; have y1 := x1.look 1; have y2 := x1.look 2
  have q0 := x3.look 0; have q1 := x3.look 1; have q2 := x3.look 2; have t0 := x3.free 0; have t1 := x3.free 1; have t2 := x3.free 2
  simp at y0 y1 y2 q0 q1 q2
  have X1 := shade x1; have X2 := shade x2; have X3 := shade x3; have X4 := shade x4; have X6 := shade x6; have HO1 := shade ho1
  clear x1 x2 x3 x4 x6 ho1 hgr1 HW1 E1 E2 E3 E4 E5 E6
  go_wp2_with fail
  have g4 := grown_put (r := w.heap.size + 1 + 1) X4.out (by omega) 1 (.slice (some ⟨W1.heap.size, 0, none⟩) n1 n1)
  have k6 : Nums (w1.setCell ⟨w.heap.size + 1 + 1, 1, none⟩ (.slice (some ⟨W1.heap.size, 0, none⟩) n1 n1)) A2 n2 f2 := by
    rcases HL2.out with h | h
    · exact .inl h
    · exact X6.out.far (fun b off e => by have := h b off e; omega) _ _
  refine (toIntS_any A2 n2 c2 f2 _ hn2 k6).mono ?_
  rintro e w2 ⟨rfl, ho2, hgr2⟩
  rw [show (w1.setCell ⟨w.heap.size + 1 + 1, 1, none⟩ (.slice (some ⟨W1.heap.size, 0, none⟩) n1 n1)).heap.size = w1.heap.size from by simp] at ho2 ⊢
  have l1 := HO1.out.lt
  have l2 := ho2.lt
  have x1 := (X1.out.far (r := w.heap.size + 1 + 1) (by omega) 1 (.slice (some ⟨W1.heap.size, 0, none⟩) n1 n1)).grown hgr2 (by intro e; cases e)
  have x2 := (X2.out.far (r := w.heap.size + 1 + 1) (by omega) 1 (.slice (some ⟨W1.heap.size, 0, none⟩) n1 n1)).grown hgr2 (by intro e; cases e)
  have x3 := (X3.out.put 1 (.slice (some ⟨W1.heap.size, 0, none⟩) n1 n1)).grown hgr2 (by intro e; cases e)
  have x4 := grown_same g4 hgr2
  have xo1 := (HO1.out.far (r := w.heap.size + 1 + 1) (by omega) 1 (.slice (some ⟨W1.heap.size, 0, none⟩) n1 n1)).on hgr2
  simp at x3
  clear y0 y1 y2 q0 q1 q2 t0 t1 t2 g4 k6 X1 X2 X3 X4 X6 HO1 HL2 hgr2
  have q0 := x3.look 0; have q1 := x3.look 1; have q2 := x3.look 2; have t0 := x3.free 0; have t1 := x3.free 1; have t2 := x3.free 2
  have p0 := x2.look 0; have p1 := x2.look 1; have p2 := x2.look 2; have u0 := x2.free 0; have u1 := x2.free 1; have u2 := x2.free 2
  simp at q0 q1 q2 p0 p1 p2
  have X2 := shade x2; have X4 := shade x4; have HO1 := shade xo1; have HO2 := shade ho2
  clear x1 x2 x3 x4 xo1 ho2
  go_wp2_with fail
  have hH := (((X2.out.far (r := w.heap.size + 1 + 1) (by omega) 2 (.slice (some ⟨w1.heap.size, 0, none⟩) n2 n2)).put 0 (.int .i64 at')).put 1 (.slice (some ⟨W1.heap.size, 0, none⟩) n1 n1)).put 2 (.slice (some ⟨w1.heap.size, 0, none⟩) n2 n2)
  simp at hH
  refine bodyPost_ret (results_cell_row rfl _ _ _ _ _ (0, 0) _ rfl hH Tryd.underlying26 rfl (by kernel_rfl)) rfl ?_
  refine ⟨W1.heap.size, n1, w1.heap.size, n2, rfl, by omega, ?_, ?_, ?_⟩
  · exact ((((HO1.out.lower (B' := w.heap.size) (by omega)).far (r := w.heap.size + 1 + 1) (by omega) 2 (.slice (some ⟨w1.heap.size, 0, none⟩) n2 n2)).far (r := w.heap.size + 1) (by omega) 0 (.int .i64 at')).far (r := w.heap.size + 1) (by omega) 1 (.slice (some ⟨W1.heap.size, 0, none⟩) n1 n1)).far (r := w.heap.size + 1) (by omega) 2 (.slice (some ⟨w1.heap.size, 0, none⟩) n2 n2)
  · exact ((((HO2.out.lower (B' := w.heap.size) (by omega)).far (r := w.heap.size + 1 + 1) (by omega) 2 (.slice (some ⟨w1.heap.size, 0, none⟩) n2 n2)).far (r := w.heap.size + 1) (by omega) 0 (.int .i64 at')).far (r := w.heap.size + 1) (by omega) 1 (.slice (some ⟨W1.heap.size, 0, none⟩) n1 n1)).far (r := w.heap.size + 1) (by omega) 2 (.slice (some ⟨w1.heap.size, 0, none⟩) n2 n2)
  · exact grown_put (grown_put (grown_put (grown_put X4.out (by omega) _ _) (by omega) _ _) (by omega) _ _) (by omega) _ _

end Go.Proofs.YtcfnoihjpiklhaaDoor