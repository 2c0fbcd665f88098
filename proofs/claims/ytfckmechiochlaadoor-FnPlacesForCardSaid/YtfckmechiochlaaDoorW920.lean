/- How many are needed at once: no more than there are, and all if all are kept; and the registers of those that are needed at once. Plain facts for the laws over draws. -/
import Derived.Test.YtfckmechiochlaaDoorW870
namespace Go.Proofs.YtfckmechiochlaaDoor
open Go.RowKit
theorem wd_len {R : Nat → Nat} {n : Nat} (h : IV R n) : wd R n ≤ n :=
  col_wd h (p := fun k => k) ⟨fun k hk => hk, fun i a b _ hab _ _ => by
    show a ≠ b
    omega⟩
theorem all_or : ∀ n : Fin 8, popc ((2 ^ (n.val + 1) - 1) ||| 2 ^ n.val) = n.val + 1 := by decide +kernel
theorem wd_all {F : Nat → Wid} {n : Nat} (hn : n ≤ 8) (hv : ∀ j, j < n → okW j (F j) = true) : wd (rowW F (2 ^ n - 1) n) n = n := by
  have hp := Nat.two_pow_pos n
  have hiv := rows_iv (F := F) (x := 2 ^ n - 1) hn hv (by omega)
  have h1 := wd_len hiv
  rcases n with _ | n
  · omega
  · have h2 := wd_ge (rowW F (2 ^ (n + 1) - 1) (n + 1)) (n + 1) n (by omega)
    have h3 : rowW F (2 ^ (n + 1) - 1) (n + 1) n = (2 ^ (n + 1) - 1) ||| 2 ^ n := by
      unfold rowW
      rw [show n + 1 - 1 - n = 0 by omega]
      rfl
    rw [h3] at h2
    have h4 := all_or ⟨n, by omega⟩
    simp only [] at h4
    omega
/-- Two that are needed at once have different least registers. -/
theorem pl_apart {R : Nat → Nat} {n i a b : Nat} (h : IV R n) (hi : i < n) (hab : a < b) (ha : (R i).testBit a = true) (hb : (R i).testBit b = true) : pl R a ≠ pl R b := (pl_col h).ne i a b hi hab ha hb
theorem pl_zero (R : Nat → Nat) : pl R 0 = 0 := by
  have h1 := pl_le R 1 0 (by omega) (by omega)
  omega
end Go.Proofs.YtfckmechiochlaaDoor
