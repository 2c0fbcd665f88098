/- ValidMachine answers as vmB says, for every machine whose numbers can be read. toMachine copies a machine, for every machine whose numbers can be read. -/
import Derived.Test.YtjeflaodeafhbaaDoorG37
namespace Go.Proofs.YtjeflaodeafhbaaDoor
open Go.RowKit
theorem equalIn_arr4 (d : Nat) (f g : Nat → Int) (W : World) : (Op.equalIn (d + 2) 50 (.agg #[.int .i64 (f 0), .int .i64 (f 1), .int .i64 (f 2), .int .i64 (f 3)]) (.agg #[.int .i64 (g 0), .int .i64 (g 1), .int .i64 (g 2), .int .i64 (g 3)])).run Tryd.prog W = .ok ((f 0 == g 0) && (f 1 == g 1) && (f 2 == g 2) && (f 3 == g 3)) W := by
  obtain ⟨i0, hi, hz0, hz1, hz2⟩ := info_parts info3
  have hs : ∀ W, (sizeOf 3).run Tryd.prog W = .ok 1 W := fun W => by simp [sizeOf, typeInfo, hi, hz1]
  have hq : ∀ (x y : Int) W, (Op.equalIn (d + 1) 3 (.int .i64 x) (.int .i64 y)).run Tryd.prog W = .ok (x == y) W := fun x y W => run_equalIn_int W d 3 .i64 .i64 x y Tryd.underlying3
  rw [Op.equalIn]
  simp only [Sem.run_bind, run_underlying Tryd.underlying50, Result.andThen_ok, hs]
  simp [Std.Legacy.Range.forIn_eq_forIn_range', List.range', part, hq]
  (repeat' split) <;> simp [*]
theorem equalIn_arr8 (d : Nat) (f g : Nat → Int) (W : World) : (Op.equalIn (d + 2) 51 (.agg #[.int .i64 (f 0), .int .i64 (f 1), .int .i64 (f 2), .int .i64 (f 3), .int .i64 (f 4), .int .i64 (f 5), .int .i64 (f 6), .int .i64 (f 7)]) (.agg #[.int .i64 (g 0), .int .i64 (g 1), .int .i64 (g 2), .int .i64 (g 3), .int .i64 (g 4), .int .i64 (g 5), .int .i64 (g 6), .int .i64 (g 7)])).run Tryd.prog W = .ok ((f 0 == g 0) && (f 1 == g 1) && (f 2 == g 2) && (f 3 == g 3) && (f 4 == g 4) && (f 5 == g 5) && (f 6 == g 6) && (f 7 == g 7)) W := by
  obtain ⟨i0, hi, hz0, hz1, hz2⟩ := info_parts info3
  have hs : ∀ W, (sizeOf 3).run Tryd.prog W = .ok 1 W := fun W => by simp [sizeOf, typeInfo, hi, hz1]
  have hq : ∀ (x y : Int) W, (Op.equalIn (d + 1) 3 (.int .i64 x) (.int .i64 y)).run Tryd.prog W = .ok (x == y) W := fun x y W => run_equalIn_int W d 3 .i64 .i64 x y Tryd.underlying3
  rw [Op.equalIn]
  simp only [Sem.run_bind, run_underlying Tryd.underlying51, Result.andThen_ok, hs]
  simp [Std.Legacy.Range.forIn_eq_forIn_range', List.range', part, hq]
  (repeat' split) <;> simp [*]
theorem eqArr4 (f g : Nat → Int) (v : Bool) (hv : ((f 0 == g 0) && (f 1 == g 1) && (f 2 == g 2) && (f 3 == g 3)) = v) (W : World) : (Op.equalIn 10000 50 (.agg #[.int .i64 (f 0), .int .i64 (f 1), .int .i64 (f 2), .int .i64 (f 3)]) (.agg #[.int .i64 (g 0), .int .i64 (g 1), .int .i64 (g 2), .int .i64 (g 3)])).run Tryd.prog W = .ok v W := by
  rw [← hv]
  exact equalIn_arr4 9998 f g W
theorem eqArr8 (f g : Nat → Int) (v : Bool) (hv : ((f 0 == g 0) && (f 1 == g 1) && (f 2 == g 2) && (f 3 == g 3) && (f 4 == g 4) && (f 5 == g 5) && (f 6 == g 6) && (f 7 == g 7)) = v) (W : World) : (Op.equalIn 10000 51 (.agg #[.int .i64 (f 0), .int .i64 (f 1), .int .i64 (f 2), .int .i64 (f 3), .int .i64 (f 4), .int .i64 (f 5), .int .i64 (f 6), .int .i64 (f 7)]) (.agg #[.int .i64 (g 0), .int .i64 (g 1), .int .i64 (g 2), .int .i64 (g 3), .int .i64 (g 4), .int .i64 (g 5), .int .i64 (g 6), .int .i64 (g 7)])).run Tryd.prog W = .ok v W := by
  rw [← hv]
  exact equalIn_arr8 9998 f g W
/-- A number is its own rest if it is a word. -/
theorem rest_self (x : Int) : (x % 256 == x) = inRB x 0 255 := by
  rw [Bool.eq_iff_iff]
  simp [inRB]
  omega
theorem okL4 (f : Nat → Int) : (((((f 0 % 256 == f 0) && (f 1 % 256 == f 1)) && (f 2 % 256 == f 2)) && (f 3 % 256 == f 3))) = okL 4 f := by
  simp only [rest_self]
  simp [okL, List.range, List.range.loop, Bool.and_assoc]
theorem okL8 (f : Nat → Int) : ((((((((f 0 % 256 == f 0) && (f 1 % 256 == f 1)) && (f 2 % 256 == f 2)) && (f 3 % 256 == f 3)) && (f 4 % 256 == f 4)) && (f 5 % 256 == f 5)) && (f 6 % 256 == f 6)) && (f 7 % 256 == f 7)) = okL 8 f := by
  simp only [rest_self]
  simp [okL, List.range, List.range.loop, Bool.and_assoc]


theorem vmB_no {at' : Int} {n1 n2 : Nat} {f1 f2 : Nat → Int} (h : at' < 0 ∨ 40 < at' ∨ n1 ≠ 4 ∨ n2 ≠ 8) : vmB at' n1 n2 f1 f2 = false := by
  rw [Bool.eq_false_iff]
  intro hv
  simp only [vmB, inRB, Bool.and_eq_true, decide_eq_true_eq] at hv
  omega
theorem vmB_in {at' : Int} {f1 f2 : Nat → Int} (h0 : 0 ≤ at') (h1 : at' ≤ 40) : vmB at' 4 8 f1 f2 = (okL 4 f1 && okL 8 f2) := by
  simp [vmB, inRB, h0, h1]
set_option maxHeartbeats 4000000 in
theorem ValidMachine_no (at' : Int) (A1 A2 : Option Addr) (n1 n2 c1 c2 : Nat) (w : World) (h : at' < 0 ∨ 40 < at' ∨ n1 ≠ 4 ∨ n2 ≠ 8) :
    Calls Tryd.prog 70 #[MV at' A1 n1 c1 A2 n2 c2] w fun e w' => e = .returned (.bool false) ∧ w.grownBy w' none := by
  by_cases q1 : at' < 0
  · clear h
    go_enter Tryd.func70, Tryd.ntmps70
    go_wp2
    go_ret
    exact ⟨rfl, World.grownBy_alloc _ _ _⟩
  by_cases q2 : 40 < at'
  · clear h
    have q1 : 0 ≤ at' := by omega
    go_enter Tryd.func70, Tryd.ntmps70
    go_wp2
    go_ret
    exact ⟨rfl, World.grownBy_alloc _ _ _⟩
  by_cases q3 : n1 = 4
  · have q4 : n2 ≠ 8 := by omega
    have q4 : ((n2 : Int) == 8) = false := by rw [beq_eq_false_iff_ne]; omega
    subst q3
    have q1 : 0 ≤ at' := by omega
    have q2 : at' ≤ 40 := by omega
    clear h
    go_enter Tryd.func70, Tryd.ntmps70
    go_wp2
    go_ret
    exact ⟨rfl, World.grownBy_alloc _ _ _⟩
  · have q3 : ((n1 : Int) == 4) = false := by rw [beq_eq_false_iff_ne]; omega
    have q1 : 0 ≤ at' := by omega
    have q2 : at' ≤ 40 := by omega
    clear h
    go_enter Tryd.func70, Tryd.ntmps70
    go_wp2
    go_ret
    exact ⟨rfl, World.grownBy_alloc _ _ _⟩
set_option maxHeartbeats 4000000 in
theorem ValidMachine_in (at' : Int) (b1 o1 b2 o2 c1 c2 : Nat) (f1 f2 : Nat → Int) (w : World) (h0 : 0 ≤ at') (h40 : at' ≤ 40) (h1 : Nums w (some ⟨b1, o1, none⟩) 4 f1) (h2 : Nums w (some ⟨b2, o2, none⟩) 8 f2) :
    Calls Tryd.prog 70 #[MV at' (some ⟨b1, o1, none⟩) 4 c1 (some ⟨b2, o2, none⟩) 8 c2] w fun e w' => e = .returned (.bool (okL 4 f1 && okL 8 f2)) ∧ w.grownBy w' none := by
  have HST := shade (fun o => stateOf_any at' b1 o1 b2 o2 c1 c2 f1 f2 (w.alloc o) (h1.alloc o) (h2.alloc o))
  have H1 := shade (fun o => h1.alloc o)
  have H2 := shade (fun o => h2.alloc o)
  clear h1 h2
  have E4 := eqArr4 (fun j => f1 j % 256) f1 (okL 4 f1) (okL4 f1)
  have E8 := eqArr8 (fun j => f2 j % 256) f2 (okL 8 f2) (okL8 f2)
  generalize okL 4 f1 = v1 at *
  generalize okL 8 f2 = v2 at *
  go_enter Tryd.func70, Tryd.ntmps70
  go_wp2_with fail
  refine (HST.out _).mono ?_
  rintro e w1 ⟨rfl, hgr⟩
  have P1 := (Holds5.fresh w 29 #[.int .i64 at', .slice (some ⟨b1, o1, none⟩) 4 c1, .slice (some ⟨b2, o2, none⟩) 8 c2]).grown hgr (by intro e; cases e)
  have z := P1.inside
  have x0 := P1.look 0; have x1 := P1.look 1; have x2 := P1.look 2
  simp at x0 x1 x2
  have N1 := (H1.out (.cells #[.int .i64 at', .slice (some ⟨b1, o1, none⟩) 4 c1, .slice (some ⟨b2, o2, none⟩) 8 c2] 29)).grown hgr (by intro _ _ _ e; cases e)
  have N2 := (H2.out (.cells #[.int .i64 at', .slice (some ⟨b1, o1, none⟩) 4 c1, .slice (some ⟨b2, o2, none⟩) 8 c2] 29)).grown hgr (by intro _ _ _ e; cases e)
  have HG := shade (grown_same (World.grownBy_alloc _ _ _) hgr)
  clear P1 hgr HST H1 H2
  have p0 := N1.cell (j := 0) (by omega); have p1 := N1.cell (j := 1) (by omega); have p2 := N1.cell (j := 2) (by omega); have p3 := N1.cell (j := 3) (by omega)
  have r0 := N2.cell (j := 0) (by omega); have r1 := N2.cell (j := 1) (by omega); have r2 := N2.cell (j := 2) (by omega); have r3 := N2.cell (j := 3) (by omega); have r4 := N2.cell (j := 4) (by omega); have r5 := N2.cell (j := 5) (by omega); have r6 := N2.cell (j := 6) (by omega); have r7 := N2.cell (j := 7) (by omega)
  have zb : b1 < w1.heap.size := World.block_lt_of_cell? w1 _ p0
  have zc : b2 < w1.heap.size := World.block_lt_of_cell? w1 _ r0
  simp only [Nat.add_zero] at p0 r0
  clear N1 N2
  go_wp2_with fail
  have A4 : ∀ W : World, (Instr.arrayAt 50 (.slice (some ⟨b1, o1, none⟩) 4 c1)).run Tryd.prog W = .ok (.pointer (some ⟨b1, o1, none⟩)) W := fun W => run_arrayAt W 50 3 4 _ 4 c1 Tryd.underlying50 (Nat.le_refl _)
  have A8 : ∀ W : World, (Instr.arrayAt 51 (.slice (some ⟨b2, o2, none⟩) 8 c2)).run Tryd.prog W = .ok (.pointer (some ⟨b2, o2, none⟩)) W := fun W => run_arrayAt W 51 3 8 _ 8 c2 Tryd.underlying51 (Nat.le_refl _)
  have S3 := Holds5.fresh w1 53 #[.int .i64 at', .int .i64 (f1 0 % 256), .int .i64 (f1 1 % 256), .int .i64 (f1 2 % 256), .int .i64 (f1 3 % 256), .int .i64 (f2 0 % 256), .int .i64 (f2 1 % 256), .int .i64 (f2 2 % 256), .int .i64 (f2 3 % 256), .int .i64 (f2 4 % 256), .int .i64 (f2 5 % 256), .int .i64 (f2 6 % 256), .int .i64 (f2 7 % 256)]
  have HG2 := shade (grown_same HG.out (World.grownBy_alloc w1 (.cells #[.int .i64 at', .int .i64 (f1 0 % 256), .int .i64 (f1 1 % 256), .int .i64 (f1 2 % 256), .int .i64 (f1 3 % 256), .int .i64 (f2 0 % 256), .int .i64 (f2 1 % 256), .int .i64 (f2 2 % 256), .int .i64 (f2 3 % 256), .int .i64 (f2 4 % 256), .int .i64 (f2 5 % 256), .int .i64 (f2 6 % 256), .int .i64 (f2 7 % 256)] 53) none))
  have hal := fun (a : Addr) (v : Value) (h : w1.cell? a = some v) => (World.cell?_alloc_some w1 a (.cells #[.int .i64 at', .int .i64 (f1 0 % 256), .int .i64 (f1 1 % 256), .int .i64 (f1 2 % 256), .int .i64 (f1 3 % 256), .int .i64 (f2 0 % 256), .int .i64 (f2 1 % 256), .int .i64 (f2 2 % 256), .int .i64 (f2 3 % 256), .int .i64 (f2 4 % 256), .int .i64 (f2 5 % 256), .int .i64 (f2 6 % 256), .int .i64 (f2 7 % 256)] 53) (by rw [h]; rfl)).trans h
  replace x0 := hal _ _ x0; replace x1 := hal _ _ x1; replace x2 := hal _ _ x2; replace p0 := hal _ _ p0; replace p1 := hal _ _ p1; replace p2 := hal _ _ p2; replace p3 := hal _ _ p3; replace r0 := hal _ _ r0; replace r1 := hal _ _ r1; replace r2 := hal _ _ r2; replace r3 := hal _ _ r3; replace r4 := hal _ _ r4; replace r5 := hal _ _ r5; replace r6 := hal _ _ r6; replace r7 := hal _ _ r7
  clear hal HG
  generalize (w1.alloc (.cells #[.int .i64 at', .int .i64 (f1 0 % 256), .int .i64 (f1 1 % 256), .int .i64 (f1 2 % 256), .int .i64 (f1 3 % 256), .int .i64 (f2 0 % 256), .int .i64 (f2 1 % 256), .int .i64 (f2 2 % 256), .int .i64 (f2 3 % 256), .int .i64 (f2 4 % 256), .int .i64 (f2 5 % 256), .int .i64 (f2 6 % 256), .int .i64 (f2 7 % 256)] 53)) = w2 at *
  have y0 := S3.look 0; have y1 := S3.look 1; have y2 := S3.look 2; have y3 := S3.look 3; have y4 := S3.look 4; have y5 := S3.look 5; have y6 := S3.look 6; have y7 := S3.look 7; have y8 := S3.look 8; have y9 := S3.look 9; have y10 := S3.look 10; have y11 := S3.look 11; have y12 := S3.look 12
  simp at y0 y1 y2 y3 y4 y5 y6 y7 y8 y9 y10 y11 y12
  clear S3 h0 h40
  rcases v1 with _ | _
  · go_quiet (fail)
    go_wp2
    go_ret
    exact ⟨rfl, grown_drewN HG2.out _⟩
  · rcases v2 with _ | _
    all_goals
      go_quiet (fail)
      go_wp2
      go_ret
      exact ⟨rfl, grown_drewN HG2.out _⟩


theorem ValidMachine_any (at' : Int) (A1 A2 : Option Addr) (n1 n2 c1 c2 : Nat) (f1 f2 : Nat → Int) (w : World) (h1 : Nums w A1 n1 f1) (h2 : Nums w A2 n2 f2) :
    Calls Tryd.prog 70 #[MV at' A1 n1 c1 A2 n2 c2] w fun e w' => e = .returned (.bool (vmB at' n1 n2 f1 f2)) ∧ w.grownBy w' none := by
  by_cases h : at' < 0 ∨ 40 < at' ∨ n1 ≠ 4 ∨ n2 ≠ 8
  · rw [vmB_no h]
    exact ValidMachine_no at' A1 A2 n1 n2 c1 c2 w h
  · obtain ⟨q1, q2, rfl, rfl⟩ : 0 ≤ at' ∧ at' ≤ 40 ∧ n1 = 4 ∧ n2 = 8 := by omega
    obtain ⟨b1, o1, rfl, _⟩ := h1.resolve_left (by omega)
    obtain ⟨b2, o2, rfl, _⟩ := h2.resolve_left (by omega)
    rw [vmB_in q1 q2]
    exact ValidMachine_in at' b1 o1 b2 o2 c1 c2 f1 f2 w q1 q2 h1 h2

end Go.Proofs.YtjeflaodeafhbaaDoor
namespace Go.Proofs.YtjeflaodeafhbaaDoor
open Go.RowKit
end Go.Proofs.YtjeflaodeafhbaaDoor