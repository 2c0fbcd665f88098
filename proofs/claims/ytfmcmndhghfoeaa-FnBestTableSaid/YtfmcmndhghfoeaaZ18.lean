/- How many jumps a function value guesses wrongly, whatever the function, if it keeps a state of its own. -/
import Derived.Test.YtfmcmndhghfoeaaZ17
namespace Go.Proofs.Ytfmcmndhghfoeaa
open Go.RowKit
set_option maxRecDepth 100000 in
set_option maxHeartbeats 4000000 in
theorem missesOf_any (AJ : Option Addr) (m cj : Nat) (J g : Nat → Bool) (kc : Nat) (lb lc : Array Value) (P : Nat → World → Prop) (w : World) (hm : m ≤ 300) (h0 : P 0 w)
    (hB : ∀ j W, P j W → Bols W AJ m J)
    (eg : ∀ args W, (callFunc kc args).run Try.prog W = .ok (.enter kc args) W)
    (hg : ∀ j W, j < m → P j W → Calls Try.prog kc (lb.push (.bool (J j)) ++ lc) W fun e w' => e = .returned (.bool (g j == J j)) ∧ P (j + 1) w') :
    Calls Try.prog 34 #[.slice AJ m cj, .func (.func kc) lb lc] w fun e w' => e = .returned (.int .i64 (msB J g m : Int)) ∧ P m w' := by
  have H0 := shade h0; have HB := shade hB; have HG := shade hg
  clear h0 hB hg
  go_enter Try.func34, Try.ntmps34
  go_wp2_with fail
  go_loopw [5, 10] (fun v i wr => ∃ j : Nat, j ≤ m ∧ i = .int .i64 (j : Int) ∧ v = .int .i64 (msB J g j : Int) ∧ P j wr) (fun _ i _ => m - (intOf i).toNat)
  case atStart => exact ⟨0, Nat.zero_le _, rfl, rfl, H0.out⟩
  case round =>
    clear H0
    obtain ⟨j, hj, rfl, rfl, hP⟩ := hrel
    by_cases hlt : j < m
    · obtain ⟨b, o, rfl, -⟩ := (HB.out j wr hP).resolve_left (by omega)
      have hc := (HB.out j wr hP).cell hlt
      have hk := msB_le J g j
      have hs : msB J g (j + 1) = msB J g j + (if (J j != g j) = true then 1 else 0) := rfl
      have HC := shade (HG.out j wr hlt hP)
      have HS := shade hs
      clear hP hs
      generalize msB J g j = x at *
      generalize J j = v at *
      generalize g j = u at *
      have i1 : (j : Int) < (m : Int) := by omega
      have i2 : (0 : Int) ≤ (j : Int) := by omega
      go_wp2_with fail
      refine HC.out.mono ?_
      rintro e w3 ⟨rfl, hP3⟩
      have HP3 := shade hP3
      clear hP3 HC
      rcases u with _ | _ <;> rcases v with _ | _
      all_goals
        go_wp2_with fail
        go_roundw
        case rel => exact ⟨j + 1, by omega, by go_num, by rw [HS.out]; simp, HP3.out⟩
        case measure => simp [intOf]; omega
    · obtain rfl : j = m := by omega
      have HP := shade hP
      clear hP
      go_wp2_with fail
      go_ret
      exact ⟨rfl, HP.out⟩
end Go.Proofs.Ytfmcmndhghfoeaa
