/- Sets of numbers, by the program. -/
import Derived.Test.YtfckmechiochlaaDoorW830
namespace Go.Proofs.YtfckmechiochlaaDoor
open Go.RowKit
set_option linter.unusedSimpArgs false
theorem sets_with : ∀ s : Fin 256, ∀ i : Fin 8, bits .or .i64 (s.val : Int) (wrap64 (2 ^ i.val)) = ((s.val ||| 2 ^ i.val : Nat) : Int) := by decide +kernel
theorem sets_has : ∀ s : Fin 256, ∀ i : Fin 8, (bits .and .i64 ((s.val : Int) / 2 ^ i.val) 1 == 1) = s.val.testBit i.val := by decide +kernel
theorem sets_without : ∀ s : Fin 256, ∀ i : Fin 8, s.val < 2 ^ (i.val + 1) → bits .andNot .i64 (s.val : Int) (wrap64 (2 ^ i.val)) = ((s.val % 2 ^ i.val : Nat) : Int) := by decide +kernel
theorem with_any (s i : Nat) (w : World) (hs : s < 256) (hi : i < 8) :
    Calls Tryd.prog 78 #[.int .i64 s, .int .i64 i] w fun e w' => e = .returned (.int .i64 ((s ||| 2 ^ i : Nat) : Int)) ∧ w = w' := by
  have i0 : (0 : Int) ≤ (i : Int) := by omega
  have i8 : (i : Int) < 8 := by omega
  go_enter Tryd.func78, Tryd.ntmps78
  go_wp2
  go_ret
  exact ⟨by rw [← sets_with ⟨s, hs⟩ ⟨i, hi⟩]; rfl, rfl⟩
theorem has_any (s i : Nat) (w : World) (hs : s < 256) (hi : i < 8) :
    Calls Tryd.prog 86 #[.int .i64 s, .int .i64 i] w fun e w' => e = .returned (.bool (s.testBit i)) ∧ w = w' := by
  have i0 : (0 : Int) ≤ (i : Int) := by omega
  have i8 : (i : Int) < 8 := by omega
  go_enter Tryd.func86, Tryd.ntmps86
  go_wp2
  go_ret
  exact ⟨by rw [← sets_has ⟨s, hs⟩ ⟨i, hi⟩]; rfl, rfl⟩
theorem without_any (s i : Nat) (w : World) (hs : s < 256) (hi : i < 8) (hl : s < 2 ^ (i + 1)) :
    Calls Tryd.prog 79 #[.int .i64 s, .int .i64 i] w fun e w' => e = .returned (.int .i64 ((s % 2 ^ i : Nat) : Int)) ∧ w = w' := by
  have i0 : (0 : Int) ≤ (i : Int) := by omega
  have i8 : (i : Int) < 8 := by omega
  go_enter Tryd.func79, Tryd.ntmps79
  go_wp2
  go_ret
  exact ⟨by rw [← sets_without ⟨s, hs⟩ ⟨i, hi⟩ hl]; rfl, rfl⟩
/-- A set without one. -/
def cutS (s i : Nat) : Nat := if s.testBit i then s - 2 ^ i else s
theorem cutS_le (s i : Nat) : cutS s i ≤ s := by
  unfold cutS
  split
  · exact Nat.sub_le _ _
  · exact Nat.le_refl _
theorem sets_cut : ∀ s : Fin 256, ∀ i : Fin 8, bits .andNot .i64 (s.val : Int) (wrap64 (2 ^ i.val)) = ((cutS s.val i.val : Nat) : Int) := by decide +kernel
theorem cut_mod : ∀ s : Fin 256, ∀ i : Fin 8, s.val < 2 ^ (i.val + 1) → cutS s.val i.val = s.val % 2 ^ i.val := by decide +kernel
theorem without_cut (s i : Nat) (w : World) (hs : s < 256) (hi : i < 8) :
    Calls Tryd.prog 79 #[.int .i64 s, .int .i64 i] w fun e w' => e = .returned (.int .i64 ((cutS s i : Nat) : Int)) ∧ w = w' := by
  have i0 : (0 : Int) ≤ (i : Int) := by omega
  have i8 : (i : Int) < 8 := by omega
  go_enter Tryd.func79, Tryd.ntmps79
  go_wp2
  go_ret
  exact ⟨by rw [← sets_cut ⟨s, hs⟩ ⟨i, hi⟩]; rfl, rfl⟩
/-- What a wide instruction takes. -/
def tk (c : Wid) : Nat := if wordN c.op.toList = 0 then 0 else 2 ^ c.a.toNat ||| 2 ^ c.b.toNat
theorem pow_lt {a n : Nat} (h : a < n) : 2 ^ a < 2 ^ n := Nat.pow_lt_pow_right (by omega) h
theorem tk_lt (c : Wid) (i : Nat) (hv : okW i c = true) : tk c < 2 ^ i := by
  obtain ⟨op, a, b, k⟩ := c
  have hv := (okW_told op a b k i).symm.trans hv
  rw [decide_eq_true_iff] at hv
  unfold tk
  by_cases h0 : wordN op.toList = 0
  · rw [if_pos h0]
    exact Nat.two_pow_pos i
  · rw [if_neg h0]
    exact Nat.or_lt_two_pow (pow_lt (show a.toNat < i by omega)) (pow_lt (show b.toNat < i by omega))
theorem lt256 {s i : Nat} (h : s < 2 ^ i) (hi : i ≤ 8) : s < 256 := Nat.lt_of_lt_of_le h (Nat.pow_le_pow_right (by omega) hi)
set_option maxRecDepth 100000 in
set_option maxHeartbeats 4000000 in
theorem takenBy_any (op : ByteArray) (a b k : Int) (i : Nat) (w : World) (hg : WT w) (hv : okW i ⟨op, a, b, k⟩ = true) (hi : i ≤ 8) :
    Calls Tryd.prog 80 #[.agg #[.string op, .int .i64 a, .int .i64 b, .int .i64 k]] w fun e w' => e = .returned (.int .i64 (tk ⟨op, a, b, k⟩ : Nat)) ∧ w.grownBy w' none := by
  have HW := shade (fun W (hW : WT W) => wordOf_any op W hW)
  have HG := shade hg
  have hok := (okW_told op a b k i).symm.trans hv
  rw [decide_eq_true_iff] at hok
  clear hg hv
  unfold tk
  by_cases e0 : wordN op.toList = 0
  · show Calls _ _ _ _ (fun e w' => e = .returned (.int .i64 ((if wordN op.toList = 0 then 0 else 2 ^ a.toNat ||| 2 ^ b.toNat : Nat) : Int)) ∧ _)
    rw [if_pos e0]
    rw [e0] at HW
    clear hok e0
    go_enter Tryd.func80, Tryd.ntmps80
    go_wp2_with (first | (go_at_call 61; refine (HW.out _ (HG.out.alloc _)).mono ?_; rintro e w' ⟨rfl, rfl⟩) | go_in)
    go_ret
    exact ⟨rfl, World.grownBy_alloc _ _ _⟩
  · show Calls _ _ _ _ (fun e w' => e = .returned (.int .i64 ((if wordN op.toList = 0 then 0 else 2 ^ a.toNat ||| 2 ^ b.toNat : Nat) : Int)) ∧ _)
    rw [if_neg e0]
    obtain ⟨a, rfl⟩ := Int.eq_ofNat_of_zero_le (show 0 ≤ a by omega)
    obtain ⟨b, rfl⟩ := Int.eq_ofNat_of_zero_le (show 0 ≤ b by omega)
    have ha : a < i := by omega
    have hb : b < i := by omega
    simp only [Int.toNat_natCast]
    have hne : (wordN op.toList == 0) = false := beq_eq_false_iff_ne.2 e0
    have H1 := shade (fun W => show Calls Tryd.prog 78 #[.int .i64 0, .int .i64 a] W fun e w' => e = .returned (.int .i64 ((0 ||| 2 ^ a : Nat) : Int)) ∧ w' = W from (with_any 0 a W (by omega) (by omega)).mono fun _ _ h => ⟨h.1, h.2.symm⟩)
    have H2 := shade (fun W => (with_any (2 ^ a) b W (lt256 (pow_lt ha) hi) (by omega)).mono (R' := fun e w' => e = .returned (.int .i64 ((2 ^ a ||| 2 ^ b : Nat) : Int)) ∧ w' = W) fun _ _ h => ⟨h.1, h.2.symm⟩)
    rw [show (0 ||| 2 ^ a : Nat) = 2 ^ a from Nat.zero_or _] at H1
    clear hok e0 ha hb
    generalize wordN op.toList = m at *
    generalize (2 ^ a ||| 2 ^ b : Nat) = r at *
    generalize (2 ^ a : Nat) = q at *
    go_enter Tryd.func80, Tryd.ntmps80
    go_wp2_with (first
      | (go_at_call 61; refine (HW.out _ (HG.out.alloc _)).mono ?_; rintro e w' ⟨rfl, rfl⟩)
      | go_in)
    go_quiet (first
      | (go_at_call 78; with_reducible exact Calls.quiet_of_same (H1.out _))
      | (go_at_call 78; with_reducible exact Calls.quiet_of_same (H2.out _)))
    go_wp2
    go_ret
    exact ⟨rfl, grown_drewN (World.grownBy_alloc _ _ _) _⟩
end Go.Proofs.YtfckmechiochlaaDoor
