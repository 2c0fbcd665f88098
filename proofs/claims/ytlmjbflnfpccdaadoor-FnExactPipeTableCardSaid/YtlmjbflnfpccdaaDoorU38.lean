/- In which part of the pipe an instruction is, by the program. -/
import Derived.Test.YtlmjbflnfpccdaaDoorG35
import Derived.Test.YtlmjbflnfpccdaaDoorG13
namespace Go.Proofs.YtlmjbflnfpccdaaDoor
open Go.RowKit
set_option linter.unusedSimpArgs false
set_option maxRecDepth 100000 in
set_option maxHeartbeats 8000000 in
theorem partAt_any (Ar : Option Addr) (cr : Nat) (A2 : Option Addr) (n c2 : Nat) (f : Nat → Int) (J : Nat → Bool) (k : Nat) (t : Int) (w : World) (hk : k < n) (hn : n ≤ 300) (ht0 : 0 ≤ t) (ht1 : t ≤ 2000) (hr : ∀ j, 2 ≤ f j ∧ f j ≤ 3 * (j : Int) + 2) (hrd : 1 ≤ rdP J f k ∧ rdP J f k ≤ 1000) (hs : st J f k ≤ f k) (hN : Nums w A2 n f) (hR : Nums w Ar n (rdP J f)) :
    Calls Tryd.prog 48 #[.agg #[.slice Ar n cr, .slice A2 n c2], .int .i64 (k : Int), .int .i64 t] w fun e w' => e = .returned (.int .i64 (prt J f k t)) ∧ w.grownBy w' none := by
  have hg := World.grownBy_alloc w (.cells #[.slice Ar n cr, .slice A2 n c2] 56) none
  obtain ⟨tb, tq, rfl, htb, -⟩ := hN.resolve_left (by omega)
  obtain ⟨rb, rq, rfl, hrb, -⟩ := hR.resolve_left (by omega)
  have c0 := hN.cell hk
  have c1 := hg.cell c0 (by intro e; cases e)
  have d0 := hR.cell hk
  have d1 := hg.cell d0 (by intro e; cases e)
  have hb := Holds5.fresh w 56 #[.slice (some ⟨rb, rq, none⟩) n cr, .slice (some ⟨tb, tq, none⟩) n c2]
  have hrk := hr k
  have i1 : (k : Int) < (n : Int) := by omega
  have i2 : (0 : Int) ≤ (k : Int) := by omega
  obtain ⟨P, hP⟩ : ∃ P, prt J f k t = P := ⟨_, rfl⟩
  have hrs : rdP J f k = st J f k - 1 := rfl
  unfold prt at hP
  have HPP := shade (show (prt J f k t) = P by unfold prt; exact hP)
  rw [HPP.out]
  clear HPP
  rw [show st J f k = rdP J f k + 1 by omega] at hP hs
  clear hrs hr
  generalize rdP J f k = rk at *
  generalize f k = fk at *
  have HCC := shade (show (w.alloc (.cells #[.slice (some ⟨rb, rq, none⟩) n cr, .slice (some ⟨tb, tq, none⟩) n c2] 56)).drew.cell? ⟨w.heap.size, 0, none⟩ = some (.slice (some ⟨rb, rq, none⟩) n cr) ∧ (w.alloc (.cells #[.slice (some ⟨rb, rq, none⟩) n cr, .slice (some ⟨tb, tq, none⟩) n c2] 56)).drew.cell? ⟨w.heap.size, 1, none⟩ = some (.slice (some ⟨tb, tq, none⟩) n c2) ∧ (w.alloc (.cells #[.slice (some ⟨rb, rq, none⟩) n cr, .slice (some ⟨tb, tq, none⟩) n c2] 56)).drew.cell? ⟨rb, rq + k, none⟩ = some (.int .i64 rk) ∧ (w.alloc (.cells #[.slice (some ⟨rb, rq, none⟩) n cr, .slice (some ⟨tb, tq, none⟩) n c2] 56)).drew.cell? ⟨tb, tq + k, none⟩ = some (.int .i64 fk) from ⟨hb.look 0, hb.look 1, d1, c1⟩)
  by_cases a0 : t = rk - 1
  · obtain rfl : P = 0 := by rw [← hP]; repeat' split <;> omega
    clear hP
    subst a0
    go_enter Tryd.func48, Tryd.ntmps48
    go_wp2_with fail
    go_region_held3 (fun w' => w'.cell? ⟨w.heap.size, 0, none⟩ = some (.slice (some ⟨rb, rq, none⟩) n cr) ∧ w'.cell? ⟨w.heap.size, 1, none⟩ = some (.slice (some ⟨tb, tq, none⟩) n c2) ∧ w'.cell? ⟨rb, rq + k, none⟩ = some (.int .i64 rk) ∧ w'.cell? ⟨tb, tq + k, none⟩ = some (.int .i64 fk)) (exact HCC.out) (fail)
    rename_i hHeld
    clear hHeld
    go_wp2_with fail
    go_ret
    exact ⟨rfl, grown_same hg (grown_drew1 _)⟩
  · have e0 : (t == rk - 1) = false := beq_eq_false_iff_ne.2 a0
    by_cases a1 : fk ≤ t
    · by_cases a2 : t < fk + 3
      · obtain rfl : P = 2 + t - fk := by rw [← hP]; repeat' split <;> omega
        clear hP
        go_enter Tryd.func48, Tryd.ntmps48
        go_wp2_with fail
        go_region_held3 (fun w' => w'.cell? ⟨w.heap.size, 0, none⟩ = some (.slice (some ⟨rb, rq, none⟩) n cr) ∧ w'.cell? ⟨w.heap.size, 1, none⟩ = some (.slice (some ⟨tb, tq, none⟩) n c2) ∧ w'.cell? ⟨rb, rq + k, none⟩ = some (.int .i64 rk) ∧ w'.cell? ⟨tb, tq + k, none⟩ = some (.int .i64 fk)) (exact HCC.out) (fail)
        rename_i hHeld
        clear hHeld
        go_wp2_with fail
        go_ret
        exact ⟨rfl, grown_same hg (grown_drew1 _)⟩
      · obtain rfl : P = -1 := by rw [← hP]; repeat' split <;> omega
        clear hP
        go_enter Tryd.func48, Tryd.ntmps48
        go_wp2_with fail
        go_region_held3 (fun w' => w'.cell? ⟨w.heap.size, 0, none⟩ = some (.slice (some ⟨rb, rq, none⟩) n cr) ∧ w'.cell? ⟨w.heap.size, 1, none⟩ = some (.slice (some ⟨tb, tq, none⟩) n c2) ∧ w'.cell? ⟨rb, rq + k, none⟩ = some (.int .i64 rk) ∧ w'.cell? ⟨tb, tq + k, none⟩ = some (.int .i64 fk)) (exact HCC.out) (fail)
        rename_i hHeld
        clear hHeld
        go_wp2_with fail
        go_ret
        exact ⟨rfl, grown_same hg (grown_drew1 _)⟩
    · by_cases a2 : rk ≤ t
      · obtain rfl : P = 1 := by rw [← hP]; repeat' split <;> omega
        clear hP
        go_enter Tryd.func48, Tryd.ntmps48
        go_wp2_with fail
        go_region_held3 (fun w' => w'.cell? ⟨w.heap.size, 0, none⟩ = some (.slice (some ⟨rb, rq, none⟩) n cr) ∧ w'.cell? ⟨w.heap.size, 1, none⟩ = some (.slice (some ⟨tb, tq, none⟩) n c2) ∧ w'.cell? ⟨rb, rq + k, none⟩ = some (.int .i64 rk) ∧ w'.cell? ⟨tb, tq + k, none⟩ = some (.int .i64 fk)) (exact HCC.out) (fail)
        rename_i hHeld
        clear hHeld
        go_wp2_with fail
        go_ret
        exact ⟨rfl, grown_same hg (grown_drew1 _)⟩
      · obtain rfl : P = -1 := by rw [← hP]; repeat' split <;> omega
        clear hP
        go_enter Tryd.func48, Tryd.ntmps48
        go_wp2_with fail
        go_region_held3 (fun w' => w'.cell? ⟨w.heap.size, 0, none⟩ = some (.slice (some ⟨rb, rq, none⟩) n cr) ∧ w'.cell? ⟨w.heap.size, 1, none⟩ = some (.slice (some ⟨tb, tq, none⟩) n c2) ∧ w'.cell? ⟨rb, rq + k, none⟩ = some (.int .i64 rk) ∧ w'.cell? ⟨tb, tq + k, none⟩ = some (.int .i64 fk)) (exact HCC.out) (fail)
        rename_i hHeld
        clear hHeld
        go_wp2_with fail
        go_ret
        exact ⟨rfl, grown_same hg (grown_drew1 _)⟩
end Go.Proofs.YtlmjbflnfpccdaaDoor
