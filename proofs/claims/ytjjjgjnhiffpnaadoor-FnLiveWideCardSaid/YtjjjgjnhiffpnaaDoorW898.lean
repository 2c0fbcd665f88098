/- The draws of wide instructions and of what is kept; powers and bits of the laws. -/
import Derived.Test.YtjjjgjnhiffpnaaDoorW892
import Derived.Test.YtjjjgjnhiffpnaaDoorW846
namespace Go.Proofs.YtjjjgjnhiffpnaaDoor
open Go.RowKit Go.Shelf
set_option linter.unusedSimpArgs false
set_option maxHeartbeats 4000000 in
theorem lpower_nat (n : Nat) (hn : n ≤ 40) (w : World) : Calls Tryd.prog 47 #[.int .i64 (n : Int)] w fun e w' => e = .returned (.int .i64 ((2 ^ n : Nat) : Int)) ∧ w = w' := by
  go_enter Tryd.func47, Tryd.ntmps47
  go_wp2
  go_loopw [0, 3] (fun q o w2 => ∃ (m k : Nat), m + k = n ∧ q = .int .i64 (m : Int) ∧ o = .int .i64 ((2 ^ k : Nat) : Int) ∧ w = w2) (fun q _ _ => (intOf q).toNat)
  case atStart => exact ⟨n, 0, by omega, rfl, rfl, rfl⟩
  case round =>
    obtain ⟨m, k, hmk, rfl, rfl, rfl⟩ := hrel
    rcases m with _ | m
    · obtain rfl : k = n := by omega
      go_wp2
      go_ret
      exact ⟨rfl, rfl⟩
    · have h40 : 2 ^ k ≤ 2 ^ 40 := pow40 (by omega)
      have e1 : ((2 ^ (k + 1) : Nat) : Int) = 2 * ((2 ^ k : Nat) : Int) := by rw [Nat.pow_succ]; omega
      have HE := shade e1
      clear e1
      generalize 2 ^ k = x at *
      have b1 : 0 ≤ 2 * (x : Int) := by omega
      have b2 : 2 * (x : Int) ≤ 9223372036854775807 := by omega
      have b3 : (m : Int) ≤ 40 := by omega
      go_wp2
      go_roundw
      case rel => exact ⟨m, k + 1, by omega, by go_num, by rw [HE.out], trivial⟩
      case measure => simp [intOf]

set_option maxHeartbeats 4000000 in
theorem lbit_nat (x j : Nat) (hx : x < 2 ^ 62) (hj : j ≤ 40) (w : World) : Calls Tryd.prog 46 #[.int .i64 (x : Int), .int .i64 (j : Int)] w fun e w' => e = .returned (.int .i64 ((x / 2 ^ j % 2 : Nat) : Int)) ∧ w = w' := by
  have HP := shade (lpower_nat j hj w)
  have h40 : 2 ^ j ≤ 2 ^ 40 := pow40 hj
  have h0 : 0 < 2 ^ j := Nat.two_pow_pos j
  obtain ⟨p, hp⟩ : ∃ p : Nat, 2 ^ j = p := ⟨_, rfl⟩
  rw [hp] at HP h40 h0 ⊢
  clear hp
  have e0 : ((p : Int) == 0) = false := beq_eq_false_iff_ne.2 (by omega)
  have e1 : Int.tdiv (x : Int) (p : Int) = ((x / p : Nat) : Int) := rfl
  have e2 : Int.tmod ((x / p : Nat) : Int) 2 = ((x / p % 2 : Nat) : Int) := rfl
  have e3 : x / p ≤ x := Nat.div_le_self x p
  go_enter Tryd.func46, Tryd.ntmps46
  go_wp2_with fail
  refine HP.out.mono ?_
  rintro e w1 ⟨rfl, rfl⟩
  go_wp2_with fail
  go_ret
  refine ⟨?_, rfl⟩
  rw [show wrap64 ((x : Int) / (p : Int)) = ((x / p : Nat) : Int) from wrap64_63 (x / p) (by omega), e2]
  rfl
/-- What is drawn: some wide instructions and a number; nothing that was there has changed. -/
def DrawX (w : World) (e : Ending) (w' : World) : Prop :=
  ∃ (g' k c : Nat) (f : Nat → Wid) (x : Int), e = .returned (.tuple #[.slice (some ⟨g', 0, none⟩) k c, .int .i64 x]) ∧ k ≤ 8 ∧ (k ≤ c ∧ c ≤ maxLen) ∧ Wds w' (some ⟨g', 0, none⟩) k f ∧ w.grownBy w' none
set_option maxHeartbeats 4000000 in
theorem DrawLiveWide_any (A : Option Addr) (n cap : Nat) (zs : List Int) (w : World) (hB : Bys w A n cap zs) :
    Calls Tryd.prog 45 #[.slice A n cap] w (DrawX w) := by
  have HN := shade (newReader_any A n cap zs w hB)
  clear hB
  go_enter Tryd.func45, Tryd.ntmps45
  go_wp2_with fail
  refine HN.out.mono ?_
  rintro e w1 ⟨m, rfl, hR, hb⟩
  have HG := shade (grown_of_below hb)
  have HR := shade hR
  clear HN hR hb
  go_wp2_with fail
  refine (someWide_any HR.out (by omega)).mono ?_
  rintro e w2 ⟨g', k, c, f, rfl, hk, hcp, hC, hg, q, hq, hR⟩
  have HG2 := shade (grown_row HG.out hg (fun k e => by injection e with e; omega))
  have HC := shade hC
  have HR2 := shade hR
  have hl1 := HR.out.blk.inside
  have hl2 := hcp.2.2
  have HPW := shade (fun W => power_nat k (by omega) W)
  have hp0 : 0 < 2 ^ k := Nat.two_pow_pos k
  have hp1 : 2 ^ k ≤ 256 := pow8 hk
  clear hg HG HR hC hR
  obtain ⟨y, hy⟩ : ∃ y : Nat, 2 ^ k = y := ⟨_, rfl⟩
  rw [hy] at HPW hp0 hp1
  clear hy
  have ey : ((y : Int) == 0) = false := beq_eq_false_iff_ne.2 (by omega)
  go_wp2_with fail
  refine (pick_rel 256 HR2.out (by omega)).mono ?_
  rintro e w3 ⟨x, ⟨x0, x1, _⟩, rfl, hR, hG⟩
  have x2 := x1 (by omega)
  have HR3 := shade hR
  have HG3 := shade (grown_row HG2.out hG (fun k e => by injection e with e; omega))
  have HC3 := shade (HC.out.grown hG (by intro b off e; injection e with e; injection e with e1 e2; intro e3; injection e3 with e3; omega))
  clear hR hG x1 HR2 HG2 HC
  go_wp2_with fail
  refine (HPW.out _).mono ?_
  rintro e w4 ⟨rfl, rfl⟩
  go_wp2_with fail
  refine (HPW.out _).mono ?_
  rintro e w4 ⟨rfl, rfl⟩
  go_wp2_with fail
  refine (HPW.out _).mono ?_
  rintro e w4 ⟨rfl, rfl⟩
  go_wp2_with fail
  refine (one_rel (fun _ => True) (HR3.out.alloc _) (by omega) _ _ _ (by omega) (by omega) (by omega) (by have := HR3.out.blk.inside; omega) (by
    intro j hj
    rw [World.cell?_alloc_new]
    rcases (show j = 0 ∨ j = 1 ∨ j = 2 ∨ j = 3 ∨ j = 4 ∨ j = 5 by omega) with rfl | rfl | rfl | rfl | rfl | rfl <;> exact ⟨_, trivial, rfl⟩)).mono ?_
  rintro e w5 ⟨z, -, rfl, -, hG⟩
  have HG5 := shade (grown_row (grown_same HG3.out (World.grownBy_alloc _ _ none)) hG (fun k e => by injection e with e; omega))
  have HC5 := shade ((HC3.out.alloc _).grown hG (by intro b off e; injection e with e; injection e with e1 e2; intro e3; injection e3 with e3; omega))
  clear hG HR3 HG3 HC3
  go_wp2_with fail
  go_ret2
  exact ⟨g', k, c, f, z, rfl, hk, ⟨hcp.1, hcp.2.1⟩, HC5.out, HG5.out⟩
theorem bit_one {s i : Nat} (h : s.testBit i = true) : s / 2 ^ i % 2 = 1 := by
  rw [Nat.testBit_eq_decide_div_mod_eq, decide_eq_true_iff] at h
  exact h
theorem row_own (F : Nat → Wid) (y n i : Nat) : rowW F y n i / 2 ^ i % 2 = 1 := by
  apply bit_one
  unfold rowW
  rw [Nat.testBit_or, Nat.testBit_two_pow_self, Bool.or_true]
theorem row_takes (F : Nat → Wid) (y n i : Nat) (hi : i + 1 < n) (h0 : wordN (F (i + 1)).op.toList ≠ 0) : rowW F y n i / 2 ^ (F (i + 1)).a.toNat % 2 = 1 ∧ rowW F y n i / 2 ^ (F (i + 1)).b.toNat % 2 = 1 := by
  have h := lvl_step F y n (i + 1) hi
  rw [show n - (i + 1) = n - 1 - i by omega] at h
  constructor
  all_goals
    apply bit_one
    unfold rowW
    rw [h, Nat.testBit_or, Nat.testBit_or]
    unfold tk
    rw [if_neg h0, Nat.testBit_or, Nat.testBit_two_pow_self]
    simp
theorem row_last (F : Nat → Wid) (y n : Nat) : rowW F y (n + 1) n = y ||| 2 ^ n := by
  unfold rowW
  rw [show n + 1 - 1 - n = 0 by omega]
  rfl
end Go.Proofs.YtjjjgjnhiffpnaaDoor
