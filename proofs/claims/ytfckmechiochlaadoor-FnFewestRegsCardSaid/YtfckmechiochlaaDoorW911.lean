/- Are two numbers needed at once: the model's clash. -/
import Derived.Test.YtfckmechiochlaaDoorW910
namespace Go.Proofs.YtfckmechiochlaaDoor
open Go.RowKit
set_option linter.unusedSimpArgs false
set_option maxRecDepth 100000 in
set_option maxHeartbeats 8000000 in
theorem clash_any (A : Option Addr) (n c a b : Nat) (R : Nat → Nat) (w : World) (hn : n ≤ 8) (hR : ∀ i, i < n → R i < 256) (ha : a ≤ 8) (hb : b ≤ 8) (h : Nums w A n (fun j => (R j : Int))) :
    Calls Tryd.prog 90 #[.slice A n c, .int .i64 a, .int .i64 b] w fun e w' => e = .returned (.bool (clB R a b n)) ∧ ∃ m, w.drewN m = w' := by
  have HN := shade h
  have HR := shade hR
  clear h hR
  go_enter Tryd.func90, Tryd.ntmps90
  go_wp2_with fail
  go_loopw [6, 7] (fun _ i wr => ∃ j m : Nat, j ≤ n ∧ i = .int .i64 (j : Int) ∧ w.drewN m = wr ∧ clB R a b j = false) (fun _ i _ => n - (intOf i).toNat)
  case atStart => exact ⟨0, 0, Nat.zero_le _, rfl, rfl, rfl⟩
  case round =>
    obtain ⟨j, m, hj, rfl, rfl, hc⟩ := hrel
    by_cases hjn : j < n
    · obtain ⟨g, o, rfl, -⟩ := HN.out.resolve_left (by omega)
      have q0 : _ = some (Value.int .i64 ((R j : Nat) : Int)) := HN.out.cell hjn
      have HA := shade (fun W => bitS_any (R j) a W (HR.out j hjn) ha)
      have HB := shade (fun W => bitS_any (R j) b W (HR.out j hjn) hb)
      have HX := shade (show clB R a b (j + 1) = (clB R a b j || ((R j).testBit a && (R j).testBit b)) from rfl)
      rw [hc] at HX
      have HC := shade hc
      clear hc
      unfold bi at HA HB
      generalize (R j).testBit a = ta at *
      generalize (R j).testBit b = tb at *
      generalize R j = r at *
      rcases ta with _ | _
      · rw [if_neg (by decide)] at HA
        go_wp2_with (first
          | (go_at_call 88; with_reducible refine (HA.out _).mono ?_; rintro e w' ⟨rfl, rfl⟩)
          | (go_at_call 88; with_reducible refine (HB.out _).mono ?_; rintro e w' ⟨rfl, rfl⟩)
          | go_in)
        go_roundw
        case rel => exact ⟨j + 1, _, by omega, by go_num, rfl, HX.out⟩
        case measure => simp [intOf]; omega
      · rw [if_pos rfl] at HA
        rcases tb with _ | _
        · rw [if_neg (by decide)] at HB
          go_wp2_with (first
            | (go_at_call 88; with_reducible refine (HA.out _).mono ?_; rintro e w' ⟨rfl, rfl⟩)
            | (go_at_call 88; with_reducible refine (HB.out _).mono ?_; rintro e w' ⟨rfl, rfl⟩)
            | go_in)
          go_roundw
          case rel => exact ⟨j + 1, _, by omega, by go_num, rfl, HX.out⟩
          case measure => simp [intOf]; omega
        · rw [if_pos rfl] at HB
          have HT := shade (show clB R a b n = true from by
            have h1 : clB R a b (j + 1) = true := HX.out
            obtain ⟨i, h2, h3⟩ := clB_iff.1 h1
            exact clB_iff.2 ⟨i, by omega, h3⟩)
          go_wp2_with (first
            | (go_at_call 88; with_reducible refine (HA.out _).mono ?_; rintro e w' ⟨rfl, rfl⟩)
            | (go_at_call 88; with_reducible refine (HB.out _).mono ?_; rintro e w' ⟨rfl, rfl⟩)
            | go_in)
          go_ret
          exact ⟨ret_b HT.out.symm, _, rfl⟩
    · obtain rfl : j = n := by omega
      go_wp2_with fail
      go_ret
      exact ⟨ret_b hc.symm, m, rfl⟩
end Go.Proofs.YtfckmechiochlaaDoor
