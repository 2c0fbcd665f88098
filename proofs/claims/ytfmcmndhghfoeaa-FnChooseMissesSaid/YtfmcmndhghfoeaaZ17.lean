/- The better one of two guesses, and what is learned of it. -/
import Derived.Test.YtfmcmndhghfoeaaZ16
namespace Go.Proofs.Ytfmcmndhghfoeaa
open Go.RowKit
abbrev TCH : TypeId := 65
/-- The guess by what went before, as a function value. -/
abbrev ltryV (g : Nat) : Value := .func (.func 45) #[.pointer (some ⟨g, 0, none⟩)] #[]
/-- The state of the better one of two, behind the first j jumps. -/
structure CH (w : World) (gc ga gb s : Nat) (J : Nat → Bool) (j : Nat) : Prop where
  box : Holds5 w gc TCH #[.int .i64 (cn (pg 0 J) (pg s J) J j), .int .i64 3, ltryV ga, ltryV gb]
  one : LB w ga 0 J j
  two : LB w gb s J j
  ab : ga ≠ gb
  ac : ga ≠ gc
  bc : gb ≠ gc
theorem LB.drew {w : World} {g s : Nat} {J : Nat → Bool} {j : Nat} (h : LB w g s J j) : LB w.drew g s J j := h
theorem below_row {a b : World} {g B : Nat} (h : a.grownBy b (some g)) (hB : B ≤ g) (hs : B ≤ a.heap.size) : Below B a b :=
  ⟨h.os, h.tape, h.output, h.size, fun i hi => h.block i (by omega) (by intro e; injection e with e; omega)⟩
theorem chs_right (a b J : Nat → Bool) (j : Nat) : (chg9 a b J j == J j) = if 2 ≤ cn a b J j then (b j == J j) else (a j == J j) := by
  unfold chg9
  split <;> rfl
set_option maxRecDepth 100000 in
set_option maxHeartbeats 4000000 in
theorem htry_any (gc ga gb s : Nat) (J : Nat → Bool) (j B : Nat) (hs : s ≤ 4) (w : World) (h : CH w gc ga gb s J j) (hBa : B ≤ ga) (hBb : B ≤ gb) (hBc : B ≤ gc) :
    Calls Try.prog 49 #[.pointer (some ⟨gc, 0, none⟩), .bool (J j)] w fun e w' => e = .returned (.bool (chg9 (pg 0 J) (pg s J) J j == J j)) ∧ CH w' gc ga gb s J (j + 1) ∧ Below B w w' := by
  have HA := shade (fun W (hW : LB W ga 0 J j) => ltry_any ga 0 J j (by omega) W hW)
  have HB := shade (fun W (hW : LB W gb s J j) => ltry_any gb s J j hs W hW)
  have hr := cn_rng (pg 0 J) (pg s J) J j
  have HS := shade (show cn (pg 0 J) (pg s J) J (j + 1) = if pg 0 J j = pg s J j then cn (pg 0 J) (pg s J) J j else stp (cn (pg 0 J) (pg s J) J j) (pg s J j == J j) 3 from rfl)
  have H := shade h
  have hbox := h.box
  rw [chs_right]
  clear h
  obtain ⟨c, hc⟩ : ∃ c, cn (pg 0 J) (pg s J) J j = c := ⟨_, rfl⟩
  rw [hc] at hbox hr HS ⊢
  obtain ⟨a, ha⟩ : ∃ a, pg 0 J j = a := ⟨_, rfl⟩
  obtain ⟨b, hb⟩ : ∃ b, pg s J j = b := ⟨_, rfl⟩
  obtain ⟨v, hv⟩ : ∃ v, J j = v := ⟨_, rfl⟩
  rw [ha, hv] at HA; rw [hb, hv] at HB; rw [ha, hb, hv] at HS; rw [ha, hb, hv]
  clear hc ha hb hv
  obtain ⟨r, hr'⟩ : ∃ r, (if 2 ≤ c then (b == v) else (a == v)) = r := ⟨_, rfl⟩
  have HR := shade hr'
  rw [hr']
  clear hr'
  have HX := shade hbox
  have q2 := hbox.look 1; have q3 := hbox.look 2; have q4 := hbox.look 3
  simp at q2 q3 q4
  clear hbox
  go_enter Try.func49, Try.ntmps49
  go_wp2_with fail
  go_region_held3 (fun w' => w'.cell? ⟨gc, 2, none⟩ = some (ltryV ga) ∧ w'.cell? ⟨gc, 3, none⟩ = some (ltryV gb)) (first | exact ⟨q3, q4⟩ | exact ⟨z3, z4⟩ | exact ⟨x3, x4⟩)
    (first
      | (go_at_call 45; (with_reducible refine (HA.out _ H.out.one.drew).mono ?_); rintro e w1 ⟨rfl, hA1, hg1⟩; have hb1 := LB.other H.out.two.drew hg1 (by intro e; injection e with e; exact H.out.ab e.symm); have hx1 := HX.out.drew.grown hg1 (by intro e; injection e with e; exact H.out.ac e.symm); have x3 := hx1.look 2; have x4 := hx1.look 3; simp at x3 x4)
      | (go_at_call 45; (with_reducible refine (HB.out _ hb1).mono ?_); rintro e w2 ⟨rfl, hB2, hg2⟩; have ha2 := LB.other hA1 hg2 (by intro e; injection e with e; exact H.out.ab e); have hx2 := hx1.grown hg2 (by intro e; injection e with e; exact H.out.bc e.symm); have z3 := hx2.look 2; have z4 := hx2.look 3; simp at z3 z4))
  have HA2 := shade ha2; have HB2 := shade hB2; have HX2 := shade hx2
  have HL2 := shade (show Below B w w2 from ((below_row (show w.grownBy w1 (some ga) from ⟨hg1.os, hg1.tape, hg1.output, hg1.size, hg1.block⟩) hBa (by have := HX.out.inside; omega))).trans (below_row hg2 hBb (by have := hx1.inside; omega)))
  have HZ2 := shade (show B ≤ w2.heap.size by have := hx2.inside; omega)
  have q0 := hx2.look 0; have q1 := hx2.look 1; have qf := hx2.free 0
  simp at q0 q1
  have HH := shade (isHigh_any gc 0 c 3 2 (.inr (.inl ⟨rfl, rfl⟩)) w2 q0 q1)
  have HC := shade (fun (k : Nat) => count_any gc 0 c 3 (b == v) hr.1 hr.2 (by omega) (w2.drewN k) q0 q1 qf)
  clear ha2 hB2 hx2 hx1 hg1 hg2 q0 q1 qf hA1 hb1 x3 x4 z3 z4 q2 q3 q4 HA HB HX
  have KN := shade (fun (k : Nat) (hk : cn (pg 0 J) (pg s J) J (j + 1) = c) => (show CH (w2.drewN k) gc ga gb s J (j + 1) from ⟨by rw [hk]; exact HX2.out.drewN k, HA2.out, HB2.out, H.out.ab, H.out.ac, H.out.bc⟩))
  have KG := shade (fun (k k2 : Nat) (x : Int) => (show w2.grownBy (((w2.drewN k).setCell ⟨gc, 0, none⟩ (.int .i64 x)).drewN k2) (some gc) from grown_drewN (grown_same (grown_drewN (grown_refl _ _) k) (grown_set gc 0 _)) k2))
  have KC := shade (fun (k k2 : Nat) (x : Int) (hk : cn (pg 0 J) (pg s J) J (j + 1) = x) => (show CH (((w2.drewN k).setCell ⟨gc, 0, none⟩ (.int .i64 x)).drewN k2) gc ga gb s J (j + 1) from ⟨by rw [hk]; exact ((HX2.out.drewN k).put 0 _).drewN k2, LB.other HA2.out (KG.out k k2 x) (fun e => H.out.ac (Option.some.inj e)), LB.other HB2.out (KG.out k k2 x) (fun e => H.out.bc (Option.some.inj e)), H.out.ab, H.out.ac, H.out.bc⟩))
  have KB := shade (fun (k k2 : Nat) (x : Int) => (show Below B w (((w2.drewN k).setCell ⟨gc, 0, none⟩ (.int .i64 x)).drewN k2) from HL2.out.trans (below_row (KG.out k k2 x) hBc HZ2.out)))
  clear HA2 HB2 HX2 KG
  by_cases hh : 2 ≤ c
  · have hd : decide (2 ≤ c) = true := decide_eq_true hh
    rw [hd] at HH
    have HR2 := shade ((if_pos hh).symm.trans HR.out)
    rcases a with _ | _ <;> rcases b with _ | _ <;> rcases v with _ | _
    all_goals
      go_wp2_with fail
      refine HH.out.mono ?_
      rintro e w3 ⟨rfl, k, rfl⟩
      go_wp2_with fail
      first
        | (refine (HC.out k).mono ?_
           rintro e w4 ⟨rfl, k2, rfl⟩
           go_wp2_with fail
           go_ret
           exact ⟨by rw [← HR2.out]; rfl, KC.out k k2 _ (HS.out.trans (if_neg (by decide))), KB.out k k2 _⟩)
        | (go_ret
           exact ⟨by rw [← HR2.out]; rfl, KN.out k (HS.out.trans (if_pos (by trivial))), ⟨HL2.out.os, HL2.out.tape, HL2.out.output, HL2.out.size, HL2.out.block⟩⟩)
  · have hd : decide (2 ≤ c) = false := decide_eq_false hh
    rw [hd] at HH
    have HR2 := shade ((if_neg hh).symm.trans HR.out)
    rcases a with _ | _ <;> rcases b with _ | _ <;> rcases v with _ | _
    all_goals
      go_wp2_with fail
      refine HH.out.mono ?_
      rintro e w3 ⟨rfl, k, rfl⟩
      go_wp2_with fail
      first
        | (refine (HC.out k).mono ?_
           rintro e w4 ⟨rfl, k2, rfl⟩
           go_wp2_with fail
           go_ret
           exact ⟨by rw [← HR2.out]; rfl, KC.out k k2 _ (HS.out.trans (if_neg (by decide))), KB.out k k2 _⟩)
        | (go_ret
           exact ⟨by rw [← HR2.out]; rfl, KN.out k (HS.out.trans (if_pos (by trivial))), ⟨HL2.out.os, HL2.out.tape, HL2.out.output, HL2.out.size, HL2.out.block⟩⟩)
end Go.Proofs.Ytfmcmndhghfoeaa
