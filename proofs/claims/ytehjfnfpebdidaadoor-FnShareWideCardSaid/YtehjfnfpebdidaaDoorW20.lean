/- The reader's pick returns a number below its argument, moves on by one place and changes nothing but the reader, for a reader of at most 2000 bytes that has been asked fewer than a million times. -/
import Derived.Test.YtehjfnfpebdidaaDoorW0
import Derived.BigQuiet
import Derived.Deep.QuietTactic
import Derived.Laws.AppendOwn
import Derived.OwnWalk
import Derived.Deep.RegionHeld
namespace Go.Proofs.YtehjfnfpebdidaaDoor
open Go.RowKit


/-- What a pick leaves: a number below m, 0 if there is none. -/
def PickOk (m : Int) (W : World) (e : Ending) (w' : World) : Prop := ∃ v : Int, (0 ≤ v ∧ (1 ≤ m → v < m) ∧ (m < 1 → v = 0)) ∧ e = .returned (.int .i64 v) ∧ ∃ k : Nat, W.drewN k = w'
/-- A reader at block g over n bytes, that has been asked p times. -/
structure Rd (w : World) (g : Nat) (A : Option Addr) (n cap : Nat) (zs : List Int) (p : Nat) : Prop where
  blk : Holds5 w g 59 #[.slice A n cap, .int .i64 p]
  len : n ≤ 2000
  cap : n ≤ cap
  cells : 0 < n → ∃ b off, A = some ⟨b, off, none⟩ ∧ b ≠ g ∧ ∀ j, j < n → w.cell? ⟨b, off + j, none⟩ = some (.int .u8 (zs.getD j 0))
  rng : ∀ j, j < n → 0 ≤ zs.getD j 0 ∧ zs.getD j 0 ≤ 255
  few : p < 1000000
theorem xor_nat (a b : Nat) (ha : a < 9223372036854775808) (hb : b < 9223372036854775808) : ∃ c : Nat, bits .xor .i64 (a : Int) (b : Int) = (c : Int) := by
  have h1 : (BitVec.ofInt 64 (a : Int)).toNat = a := by
    rw [BitVec.ofInt_natCast, BitVec.toNat_ofNat]
    exact Nat.mod_eq_of_lt (by omega)
  have h2 : (BitVec.ofInt 64 (b : Int)).toNat = b := by
    rw [BitVec.ofInt_natCast, BitVec.toNat_ofNat]
    exact Nat.mod_eq_of_lt (by omega)
  have hx : a ^^^ b < 2 ^ 63 := Nat.xor_lt_two_pow (by omega) (by omega)
  refine ⟨a ^^^ b, ?_⟩
  show IntKind.i64.wrap ((BitVec.ofInt 64 (a : Int) ^^^ BitVec.ofInt 64 (b : Int)).toNat : Int) = _
  rw [BitVec.toNat_xor, h1, h2, IntKind.wrap_i64]
  omega


set_option maxHeartbeats 2000000 in
theorem pick_small (A : Option Addr) (n cap g : Nat) (zs : List Int) (p : Nat) (m : Int) (w : World) (h : Rd w g A n cap zs p) (hm : m < 1) :
    Calls Tryd.prog 34 #[.pointer (some ⟨g, 0, none⟩), .int .i64 m] w (PickOk m (w.setCell ⟨g, 1, none⟩ (.int .i64 (p + 1)))) := by
  obtain ⟨hblk, hlen, hcap, hcells, hrng, hfew⟩ := h
  have c0 := hblk.look 0; have c1 := hblk.look 1; have f1 := hblk.free 1
  simp at c0 c1
  clear hblk hcells hrng
  go_enter Tryd.func34, Tryd.ntmps34
  go_wp2
  go_ret
  exact ⟨0, ⟨by omega, by omega, by omega⟩, rfl, 0, rfl⟩
set_option maxHeartbeats 2000000 in
theorem pick_none (A : Option Addr) (n cap g : Nat) (zs : List Int) (p : Nat) (m : Int) (w : World) (h : Rd w g A n cap zs p) (hm : 1 ≤ m) (hn : n = 0) :
    Calls Tryd.prog 34 #[.pointer (some ⟨g, 0, none⟩), .int .i64 m] w (PickOk m (w.setCell ⟨g, 1, none⟩ (.int .i64 (p + 1)))) := by
  subst hn
  obtain ⟨hblk, hlen, hcap, hcells, hrng, hfew⟩ := h
  have c0 := hblk.look 0; have c1 := hblk.look 1; have f1 := hblk.free 1
  simp at c0 c1
  clear hblk hcells hrng
  go_enter Tryd.func34, Tryd.ntmps34
  go_wp2
  go_ret
  exact ⟨0, ⟨by omega, by omega, by omega⟩, rfl, 0, rfl⟩
set_option maxHeartbeats 2000000 in
theorem pick_near (A : Option Addr) (n cap g : Nat) (zs : List Int) (p : Nat) (m : Int) (w : World) (h : Rd w g A n cap zs p) (hm : 1 ≤ m) (hp : p < n) :
    Calls Tryd.prog 34 #[.pointer (some ⟨g, 0, none⟩), .int .i64 m] w (PickOk m (w.setCell ⟨g, 1, none⟩ (.int .i64 (p + 1)))) := by
  obtain ⟨hblk, hlen, hcap, hcells, hrng, hfew⟩ := h
  have c0 := hblk.look 0; have c1 := hblk.look 1; have f1 := hblk.free 1
  simp at c0 c1
  obtain ⟨b, off, rfl, hfar, hcells⟩ := hcells (by omega)
  have hc := hcells p hp
  obtain ⟨r0, r1⟩ := hrng p hp
  clear hblk hcells hrng
  generalize zs.getD p 0 = z at *
  have hn0 : ((n : Int) == 0) = false := by rw [beq_eq_false_iff_ne]; omega
  go_enter Tryd.func34, Tryd.ntmps34
  go_wp2
  go_ret
  exact ⟨z % m, ⟨Int.emod_nonneg _ (by omega), fun _ => Int.emod_lt_of_pos _ (by omega), by omega⟩, rfl, 0, rfl⟩
set_option maxHeartbeats 4000000 in
theorem pick_far (A : Option Addr) (n cap g : Nat) (zs : List Int) (p : Nat) (m : Int) (w : World) (h : Rd w g A n cap zs p) (hm : 1 ≤ m) (hn : 0 < n) (hp : n ≤ p) :
    Calls Tryd.prog 34 #[.pointer (some ⟨g, 0, none⟩), .int .i64 m] w (PickOk m (w.setCell ⟨g, 1, none⟩ (.int .i64 (p + 1)))) := by
  obtain ⟨hblk, hlen, hcap, hcells, hrng, hfew⟩ := h
  have c0 := hblk.look 0; have c1 := hblk.look 1; have f1 := hblk.free 1
  simp at c0 c1
  obtain ⟨b, off, rfl, hfar, hcells⟩ := hcells (by omega)
  have hc := hcells (p % n) (Nat.mod_lt _ hn)
  have hd := hcells ((p * 7 + 3) % n) (Nat.mod_lt _ hn)
  obtain ⟨r0, r1⟩ := hrng (p % n) (Nat.mod_lt _ hn)
  obtain ⟨s0, s1⟩ := hrng ((p * 7 + 3) % n) (Nat.mod_lt _ hn)
  clear hblk hcells hrng
  generalize zs.getD (p % n) 0 = y at *
  generalize zs.getD ((p * 7 + 3) % n) 0 = z at *
  have hn0 : ((n : Int) == 0) = false := by rw [beq_eq_false_iff_ne]; omega
  have d0 : (0 : Int) ≤ (p : Int) / (n : Int) := Int.ediv_nonneg (by omega) (by omega)
  have d1 : (p : Int) / (n : Int) ≤ 1000000 := Int.le_trans (Int.ediv_le_self _ (by omega)) (by omega)
  have l0 : (0 : Int) ≤ (p : Int) % (n : Int) := Int.emod_nonneg _ (by omega)
  have l1 : (p : Int) % (n : Int) < (n : Int) := Int.emod_lt_of_pos _ (by omega)
  have k0 : (0 : Int) ≤ ((p : Int) * 7 + 3) % (n : Int) := Int.emod_nonneg _ (by omega)
  have k1 : ((p : Int) * 7 + 3) % (n : Int) < (n : Int) := Int.emod_lt_of_pos _ (by omega)
  go_enter Tryd.func34, Tryd.ntmps34
  go_wp2
  go_quiet (fail)
  have x0 : 0 ≤ y * 131 + z * 1117 + (p : Int) * 29 + (p : Int) / (n : Int) * 53 := by omega
  have x1 : y * 131 + z * 1117 + (p : Int) * 29 + (p : Int) / (n : Int) * 53 ≤ 1000000000 := by omega
  generalize y * 131 + z * 1117 + (p : Int) * 29 + (p : Int) / (n : Int) * 53 = X at *
  obtain ⟨x, rfl⟩ := Int.eq_ofNat_of_zero_le x0
  obtain ⟨c, hx⟩ := xor_nat x (x / 64) (by omega) (by omega)
  have hx' : bits .xor .i64 (x : Int) ((x : Int) / 64) = (c : Int) := by simpa using hx
  clear hx c0 c1 f1 hc hd
  go_wp2
  go_ret
  exact ⟨(c : Int) % m, ⟨Int.emod_nonneg _ (by omega), fun _ => Int.emod_lt_of_pos _ (by omega), by omega⟩, rfl, _, rfl⟩
theorem pick_any (A : Option Addr) (n cap g : Nat) (zs : List Int) (p : Nat) (m : Int) (w : World) (h : Rd w g A n cap zs p) :
    Calls Tryd.prog 34 #[.pointer (some ⟨g, 0, none⟩), .int .i64 m] w (PickOk m (w.setCell ⟨g, 1, none⟩ (.int .i64 (p + 1)))) := by
  by_cases hm : m < 1
  · exact pick_small A n cap g zs p m w h hm
  by_cases hn : n = 0
  · exact pick_none A n cap g zs p m w h (by omega) hn
  by_cases hp : p < n
  · exact pick_near A n cap g zs p m w h (by omega) hp
  · exact pick_far A n cap g zs p m w h (by omega) (by omega) (by omega)
end Go.Proofs.YtehjfnfpebdidaaDoor