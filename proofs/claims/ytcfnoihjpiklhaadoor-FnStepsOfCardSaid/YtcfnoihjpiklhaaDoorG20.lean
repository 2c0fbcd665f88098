/- The reader's pick returns a number below its argument, moves on by one place and changes nothing but the reader, for a reader of at most 2000 bytes that has been asked fewer than a million times. The reader's one and of return one of the list's elements and change nothing but the reader, for a reader of at most 2000 bytes that has been asked fewer than a million times and a list that is not empty. The model's goodInstr and someInstr return an instruction and change nothing but the reader, for a reader of at most 2000 bytes that has been asked fewer than a million times. The model's someInstr returns an instruction and changes nothing but the reader, for a reader of at most 2000 bytes that has been asked fewer than a million times. newReader makes a reader over the first 2000 bytes, and DrawEncodeInstr and DrawValidInstr return an instruction and change nothing that was there, for bytes whose cells can be read. -/
import Derived.Test.YtcfnoihjpiklhaaDoorW0
import Derived.BigQuiet
import Derived.Deep.QuietTactic
import Derived.Laws.AppendOwn
import Derived.OwnWalk
import Derived.Deep.RegionHeld
import Derived.Test.YtcfnoihjpiklhaaDoorW2
namespace Go.Proofs.YtcfnoihjpiklhaaDoor
open Go.RowKit


/-- What a pick leaves: a number below m, 0 if there is none. -/
def PickOk (m : Int) (W : World) (e : Ending) (w' : World) : Prop := ∃ v : Int, (0 ≤ v ∧ (1 ≤ m → v < m) ∧ (m < 1 → v = 0)) ∧ e = .returned (.int .i64 v) ∧ ∃ k : Nat, W.drewN k = w'
/-- A reader at block g over n bytes, that has been asked p times. -/
structure Rd (w : World) (g : Nat) (A : Option Addr) (n cap : Nat) (zs : List Int) (p : Nat) : Prop where
  blk : Holds5 w g 76 #[.slice A n cap, .int .i64 p]
  len : n ≤ 2000
  cap : n ≤ cap
  cells : 0 < n → ∃ b off, A = some ⟨b, off, none⟩ ∧ b ≠ g ∧ ∀ j, j < n → w.cell? ⟨b, off + j, none⟩ = some (.int .u8 (zs.getD j 0))
  rng : ∀ j, j < n → 0 ≤ zs.getD j 0 ∧ zs.getD j 0 ≤ 255
  few : p < 1000000
theorem xor_nat (a b : Nat) (ha : a < 9223372036854775808) (hb : b < 9223372036854775808) : ∃ c : Nat, bits .xor .i64 (a : Int) (b : Int) = (c : Int) := by
  have h1 : (BitVec.ofInt 64 (a : Int)).toNat = a := by
    rw [BitVec.ofInt_natCast, BitVec.toNat_ofNat]
    exact Nat.mod_eq_of_lt (by omega)
  have h2 : (BitVec.ofInt 64 (b : Int)).toNat = b := by
    rw [BitVec.ofInt_natCast, BitVec.toNat_ofNat]
    exact Nat.mod_eq_of_lt (by omega)
  have hx : a ^^^ b < 2 ^ 63 := Nat.xor_lt_two_pow (by omega) (by omega)
  refine ⟨a ^^^ b, ?_⟩
  show IntKind.i64.wrap ((BitVec.ofInt 64 (a : Int) ^^^ BitVec.ofInt 64 (b : Int)).toNat : Int) = _
  rw [BitVec.toNat_xor, h1, h2, IntKind.wrap_i64]
  omega


set_option maxHeartbeats 2000000 in
theorem pick_small (A : Option Addr) (n cap g : Nat) (zs : List Int) (p : Nat) (m : Int) (w : World) (h : Rd w g A n cap zs p) (hm : m < 1) :
    Calls Tryd.prog 42 #[.pointer (some ⟨g, 0, none⟩), .int .i64 m] w (PickOk m (w.setCell ⟨g, 1, none⟩ (.int .i64 (p + 1)))) := by
  obtain ⟨hblk, hlen, hcap, hcells, hrng, hfew⟩ := h
  have c0 := hblk.look 0; have c1 := hblk.look 1; have f1 := hblk.free 1
  simp at c0 c1
  clear hblk hcells hrng
  go_enter Tryd.func42, Tryd.ntmps42
  go_wp2
  go_ret
  exact ⟨0, ⟨by omega, by omega, by omega⟩, rfl, 0, rfl⟩
set_option maxHeartbeats 2000000 in
theorem pick_none (A : Option Addr) (n cap g : Nat) (zs : List Int) (p : Nat) (m : Int) (w : World) (h : Rd w g A n cap zs p) (hm : 1 ≤ m) (hn : n = 0) :
    Calls Tryd.prog 42 #[.pointer (some ⟨g, 0, none⟩), .int .i64 m] w (PickOk m (w.setCell ⟨g, 1, none⟩ (.int .i64 (p + 1)))) := by
  subst hn
  obtain ⟨hblk, hlen, hcap, hcells, hrng, hfew⟩ := h
  have c0 := hblk.look 0; have c1 := hblk.look 1; have f1 := hblk.free 1
  simp at c0 c1
  clear hblk hcells hrng
  go_enter Tryd.func42, Tryd.ntmps42
  go_wp2
  go_ret
  exact ⟨0, ⟨by omega, by omega, by omega⟩, rfl, 0, rfl⟩
set_option maxHeartbeats 2000000 in
theorem pick_near (A : Option Addr) (n cap g : Nat) (zs : List Int) (p : Nat) (m : Int) (w : World) (h : Rd w g A n cap zs p) (hm : 1 ≤ m) (hp : p < n) :
    Calls Tryd.prog 42 #[.pointer (some ⟨g, 0, none⟩), .int .i64 m] w (PickOk m (w.setCell ⟨g, 1, none⟩ (.int .i64 (p + 1)))) := by
  obtain ⟨hblk, hlen, hcap, hcells, hrng, hfew⟩ := h
  have c0 := hblk.look 0; have c1 := hblk.look 1; have f1 := hblk.free 1
  simp at c0 c1
  obtain ⟨b, off, rfl, hfar, hcells⟩ := hcells (by omega)
  have hc := hcells p hp
  obtain ⟨r0, r1⟩ := hrng p hp
  clear hblk hcells hrng
  generalize zs.getD p 0 = z at *
  have hn0 : ((n : Int) == 0) = false := by rw [beq_eq_false_iff_ne]; omega
  go_enter Tryd.func42, Tryd.ntmps42
  go_wp2
  go_ret
  exact ⟨z % m, ⟨Int.emod_nonneg _ (by omega), fun _ => Int.emod_lt_of_pos _ (by omega), by omega⟩, rfl, 0, rfl⟩
set_option maxHeartbeats 4000000 in
theorem pick_far (A : Option Addr) (n cap g : Nat) (zs : List Int) (p : Nat) (m : Int) (w : World) (h : Rd w g A n cap zs p) (hm : 1 ≤ m) (hn : 0 < n) (hp : n ≤ p) :
    Calls Tryd.prog 42 #[.pointer (some ⟨g, 0, none⟩), .int .i64 m] w (PickOk m (w.setCell ⟨g, 1, none⟩ (.int .i64 (p + 1)))) := by
  obtain ⟨hblk, hlen, hcap, hcells, hrng, hfew⟩ := h
  have c0 := hblk.look 0; have c1 := hblk.look 1; have f1 := hblk.free 1
  simp at c0 c1
  obtain ⟨b, off, rfl, hfar, hcells⟩ := hcells (by omega)
  have hc := hcells (p % n) (Nat.mod_lt _ hn)
  have hd := hcells ((p * 7 + 3) % n) (Nat.mod_lt _ hn)
  obtain ⟨r0, r1⟩ := hrng (p % n) (Nat.mod_lt _ hn)
  obtain ⟨s0, s1⟩ := hrng ((p * 7 + 3) % n) (Nat.mod_lt _ hn)
  clear hblk hcells hrng
  generalize zs.getD (p % n) 0 = y at *
  generalize zs.getD ((p * 7 + 3) % n) 0 = z at *
  have hn0 : ((n : Int) == 0) = false := by rw [beq_eq_false_iff_ne]; omega
  have d0 : (0 : Int) ≤ (p : Int) / (n : Int) := Int.ediv_nonneg (by omega) (by omega)
  have d1 : (p : Int) / (n : Int) ≤ 1000000 := Int.le_trans (Int.ediv_le_self _ (by omega)) (by omega)
  have l0 : (0 : Int) ≤ (p : Int) % (n : Int) := Int.emod_nonneg _ (by omega)
  have l1 : (p : Int) % (n : Int) < (n : Int) := Int.emod_lt_of_pos _ (by omega)
  have k0 : (0 : Int) ≤ ((p : Int) * 7 + 3) % (n : Int) := Int.emod_nonneg _ (by omega)
  have k1 : ((p : Int) * 7 + 3) % (n : Int) < (n : Int) := Int.emod_lt_of_pos _ (by omega)
  go_enter Tryd.func42, Tryd.ntmps42
  go_wp2
  go_quiet (fail)
  have x0 : 0 ≤ y * 131 + z * 1117 + (p : Int) * 29 + (p : Int) / (n : Int) * 53 := by omega
  have x1 : y * 131 + z * 1117 + (p : Int) * 29 + (p : Int) / (n : Int) * 53 ≤ 1000000000 := by omega
  generalize y * 131 + z * 1117 + (p : Int) * 29 + (p : Int) / (n : Int) * 53 = X at *
  obtain ⟨x, rfl⟩ := Int.eq_ofNat_of_zero_le x0
  obtain ⟨c, hx⟩ := xor_nat x (x / 64) (by omega) (by omega)
  have hx' : bits .xor .i64 (x : Int) ((x : Int) / 64) = (c : Int) := by simpa using hx
  clear hx c0 c1 f1 hc hd
  go_wp2
  go_ret
  exact ⟨(c : Int) % m, ⟨Int.emod_nonneg _ (by omega), fun _ => Int.emod_lt_of_pos _ (by omega), by omega⟩, rfl, _, rfl⟩
theorem pick_any (A : Option Addr) (n cap g : Nat) (zs : List Int) (p : Nat) (m : Int) (w : World) (h : Rd w g A n cap zs p) :
    Calls Tryd.prog 42 #[.pointer (some ⟨g, 0, none⟩), .int .i64 m] w (PickOk m (w.setCell ⟨g, 1, none⟩ (.int .i64 (p + 1)))) := by
  by_cases hm : m < 1
  · exact pick_small A n cap g zs p m w h hm
  by_cases hn : n = 0
  · exact pick_none A n cap g zs p m w h (by omega) hn
  by_cases hp : p < n
  · exact pick_near A n cap g zs p m w h (by omega) hp
  · exact pick_far A n cap g zs p m w h (by omega) (by omega) (by omega)
end Go.Proofs.YtcfnoihjpiklhaaDoor
namespace Go.Proofs.YtcfnoihjpiklhaaDoor
open Go.RowKit


theorem only_refl (w : World) (g : Nat) : w.grownBy w (some g) := ⟨rfl, rfl, rfl, Nat.le_refl _, fun _ _ _ => rfl⟩
theorem only_alloc {a w : World} {g : Nat} (h : a.grownBy w (some g)) (o : Obj) : a.grownBy (w.alloc o) (some g) :=
  ⟨h.os, h.tape, h.output, Nat.le_trans h.size (by simp), fun i hi hne => (Below.heap_alloc w o i (Nat.lt_of_lt_of_le hi h.size)).trans (h.block i hi hne)⟩
theorem only_put {a w : World} {g : Nat} (h : a.grownBy w (some g)) {p : Addr} (hp : a.heap.size ≤ p.block ∨ p.block = g) (u : Value) : a.grownBy (w.setCell p u) (some g) :=
  ⟨h.os, h.tape, h.output, by simpa [World.setCell] using h.size, fun i hi hne => (Below.heap_setCell w p u i (by
    rintro rfl
    rcases hp with hp | hp
    · omega
    · exact hne (by rw [hp]))).trans (h.block i hi hne)⟩
theorem only_drewN {a w : World} {g : Nat} (h : a.grownBy w (some g)) (k : Nat) : a.grownBy (w.drewN k) (some g) := ⟨h.os, h.tape, h.output, h.size, h.block⟩
theorem only_trans {a b c : World} {g : Nat} (h : a.grownBy b (some g)) (h' : b.grownBy c (some g)) : a.grownBy c (some g) :=
  ⟨h'.os.trans h.os, h'.tape.trans h.tape, h'.output.trans h.output, Nat.le_trans h.size h'.size, fun i hi hne => (h'.block i (Nat.lt_of_lt_of_le hi h.size) hne).trans (h.block i hi hne)⟩
theorem only_cell {a w : World} {g : Nat} (h : a.grownBy w (some g)) {p : Addr} {u : Value} (hp : p.block ≠ g) (hc : a.cell? p = some u) : w.cell? p = some u := by
  rw [World.cell?_of_block (h.block p.block (World.block_lt_of_cell? a p hc) (fun e => hp (by simpa using e)))]
  exact hc
section
variable {w w' : World} {g : Nat} {A : Option Addr} {n cap : Nat} {zs : List Int} {p : Nat}
theorem Rd.alloc (h : Rd w g A n cap zs p) (o : Obj) : Rd (w.alloc o) g A n cap zs p := by
  refine ⟨h.blk.alloc o, h.len, h.cap, fun hn => ?_, h.rng, h.few⟩
  obtain ⟨b, off, hA, hb, hc⟩ := h.cells hn
  exact ⟨b, off, hA, hb, fun j hj => (World.cell?_alloc_some w _ o (by rw [hc j hj]; rfl)).trans (hc j hj)⟩
theorem Rd.far (h : Rd w g A n cap zs p) {q : Addr} (u : Value) (hg : g ≠ q.block) (hb : ∀ b off, A = some ⟨b, off, none⟩ → 0 < n → b ≠ q.block) : Rd (w.setCell q u) g A n cap zs p := by
  refine ⟨h.blk.other hg u, h.len, h.cap, fun hn => ?_, h.rng, h.few⟩
  obtain ⟨b, off, hA, hbg, hc⟩ := h.cells hn
  exact ⟨b, off, hA, hbg, fun j hj => (World.cell?_setCell_far w q _ u (Ne.symm (hb b off hA hn))).trans (hc j hj)⟩
/-- The slice's block lies below. -/
theorem Rd.low (h : Rd w g A n cap zs p) {b off : Nat} (hA : A = some ⟨b, off, none⟩) (hn : 0 < n) : b < w.heap.size := by
  obtain ⟨b', off', hA', _, hc⟩ := h.cells hn
  rw [hA] at hA'
  injection hA' with hA'
  injection hA' with h1 h2
  subst h1
  exact World.block_lt_of_cell? w ⟨b, off' + 0, none⟩ (hc 0 hn)
theorem Rd.next (h : Rd w g A n cap zs p) (hp : p + 1 < 1000000) (k : Nat) : Rd ((w.setCell ⟨g, 1, none⟩ (.int .i64 (p + 1))).drewN k) g A n cap zs (p + 1) := by
  have h1 := h.blk.put 1 (.int .i64 (p + 1))
  refine ⟨?_, h.len, h.cap, fun hn => ?_, h.rng, hp⟩
  · have h2 := h1.drewN k
    simpa using h2
  · obtain ⟨b, off, hA, hbg, hc⟩ := h.cells hn
    exact ⟨b, off, hA, hbg, fun j hj => (World.cell?_setCell_far w ⟨g, 1, none⟩ ⟨b, off + j, none⟩ _ (Ne.symm hbg)).trans (hc j hj)⟩
end
/-- What a pick leaves, as its callers need it. -/
def Picked (m : Int) (w : World) (g : Nat) (A : Option Addr) (n cap : Nat) (zs : List Int) (p : Nat) (e : Ending) (w' : World) : Prop :=
  ∃ v : Int, (0 ≤ v ∧ (1 ≤ m → v < m) ∧ (m < 1 → v = 0)) ∧ e = .returned (.int .i64 v) ∧ Rd w' g A n cap zs (p + 1) ∧ w.grownBy w' (some g)
theorem pick_rel {A : Option Addr} {n cap g : Nat} {zs : List Int} {p : Nat} (m : Int) {w : World} (h : Rd w g A n cap zs p) (hp : p + 1 < 1000000) :
    Calls Tryd.prog 42 #[.pointer (some ⟨g, 0, none⟩), .int .i64 m] w (Picked m w g A n cap zs p) := by
  refine (pick_any A n cap g zs p m w h).mono ?_
  rintro e w' ⟨v, hv, rfl, k, rfl⟩
  exact ⟨v, hv, rfl, h.next hp k, only_drewN (only_put (only_refl w g) (.inr rfl) _) k⟩
/-- What one leaves: a number with a property that all of the list have. -/
def OneOk (P : Int → Prop) (w : World) (g : Nat) (A : Option Addr) (n cap : Nat) (zs : List Int) (p : Nat) (e : Ending) (w' : World) : Prop :=
  ∃ x : Int, P x ∧ e = .returned (.int .i64 x) ∧ Rd w' g A n cap zs (p + 1) ∧ w.grownBy w' (some g)
set_option maxHeartbeats 1000000 in
theorem one_rel (P : Int → Prop) {A : Option Addr} {n cap g : Nat} {zs : List Int} {p : Nat} {w : World} (h : Rd w g A n cap zs p) (hp : p + 1 < 1000000)
    (lb ln lc : Nat) (hl : 0 < ln) (hln : ln ≤ 1000) (_hlc : ln ≤ lc) (hlb : lb ≠ g) (hx : ∀ j, j < ln → ∃ x : Int, P x ∧ w.cell? ⟨lb, j, none⟩ = some (.int .i64 x)) :
    Calls Tryd.prog 40 #[.pointer (some ⟨g, 0, none⟩), .slice (some ⟨lb, 0, none⟩) ln lc] w (OneOk P w g A n cap zs p) := by
  have HP := shade (pick_rel (ln : Int) h hp)
  have HX := shade hx
  clear hx h
  go_enter Tryd.func40, Tryd.ntmps40
  go_wp2_with fail
  refine HP.out.mono ?_
  rintro e w1 ⟨v, ⟨v0, v1, _⟩, rfl, hR, hG⟩
  have v2 := v1 (by omega)
  clear v1
  obtain ⟨j, rfl⟩ := Int.eq_ofNat_of_zero_le v0
  obtain ⟨x, hPx, hc⟩ := HX.out j (by omega)
  have hc1 := only_cell hG hlb hc
  have HR := shade hR
  have HG := shade hG
  clear hc hR hG
  have hj : j < ln := by omega
  go_wp2_with fail
  go_ret
  exact ⟨x, hPx, rfl, HR.out, HG.out⟩
/-- What of leaves: a text with a property that all of the list have. -/
def OfOk (P : ByteArray → Prop) (w : World) (g : Nat) (A : Option Addr) (n cap : Nat) (zs : List Int) (p : Nat) (e : Ending) (w' : World) : Prop :=
  ∃ x : ByteArray, P x ∧ e = .returned (.string x) ∧ Rd w' g A n cap zs (p + 1) ∧ w.grownBy w' (some g)
set_option maxHeartbeats 1000000 in
theorem of_rel (P : ByteArray → Prop) {A : Option Addr} {n cap g : Nat} {zs : List Int} {p : Nat} {w : World} (h : Rd w g A n cap zs p) (hp : p + 1 < 1000000)
    (lb ln lc : Nat) (hl : 0 < ln) (hln : ln ≤ 1000) (_hlc : ln ≤ lc) (hlb : lb ≠ g) (hx : ∀ j, j < ln → ∃ x : ByteArray, P x ∧ w.cell? ⟨lb, j, none⟩ = some (.string x)) :
    Calls Tryd.prog 54 #[.pointer (some ⟨g, 0, none⟩), .slice (some ⟨lb, 0, none⟩) ln lc] w (OfOk P w g A n cap zs p) := by
  have HP := shade (pick_rel (ln : Int) h hp)
  have HX := shade hx
  clear hx h
  go_enter Tryd.func54, Tryd.ntmps54
  go_wp2_with fail
  refine HP.out.mono ?_
  rintro e w1 ⟨v, ⟨v0, v1, _⟩, rfl, hR, hG⟩
  have v2 := v1 (by omega)
  clear v1
  obtain ⟨j, rfl⟩ := Int.eq_ofNat_of_zero_le v0
  obtain ⟨x, hPx, hc⟩ := HX.out j (by omega)
  have hc1 := only_cell hG hlb hc
  have HR := shade hR
  have HG := shade hG
  clear hc hR hG
  have hj : j < ln := by omega
  go_wp2_with fail
  go_ret
  exact ⟨x, hPx, rfl, HR.out, HG.out⟩
end Go.Proofs.YtcfnoihjpiklhaaDoor
namespace Go.Proofs.YtcfnoihjpiklhaaDoor
open Go.RowKit
/-- What is drawn: some instruction; the reader has gone on by at most ten places. -/
def SomeOk (w : World) (g : Nat) (A : Option Addr) (n cap : Nat) (zs : List Int) (p : Nat) (e : Ending) (w' : World) : Prop :=
  ∃ (op : ByteArray) (d a b k : Int) (q : Nat), q ≤ p + 10 ∧ e = .returned (IV op d a b k) ∧ Rd w' g A n cap zs q ∧ w.grownBy w' (some g)


theorem Rd.five {w : World} {g : Nat} {A : Option Addr} {n cap : Nat} {zs : List Int} {p : Nat} (h : Rd w g A n cap zs p) (k : Nat) (hk : g ≠ k) (hb : ∀ b off, A = some ⟨b, off, none⟩ → 0 < n → b ≠ k) {u0 u1 u2 u3 u4 : Value} :
    Rd (((((w.setCell ⟨k, 0, none⟩ u0).setCell ⟨k, 1, none⟩ u1).setCell ⟨k, 2, none⟩ u2).setCell ⟨k, 3, none⟩ u3).setCell ⟨k, 4, none⟩ u4) g A n cap zs p :=
  ((((h.far u0 hk hb).far u1 hk hb).far u2 hk hb).far u3 hk hb).far u4 hk hb
theorem only_five {a w : World} {g k : Nat} (h : a.grownBy w (some g)) (hk : a.heap.size ≤ k) (u0 u1 u2 u3 u4 : Value) :
    a.grownBy (((((w.setCell ⟨k, 0, none⟩ u0).setCell ⟨k, 1, none⟩ u1).setCell ⟨k, 2, none⟩ u2).setCell ⟨k, 3, none⟩ u3).setCell ⟨k, 4, none⟩ u4) (some g) :=
  only_put (only_put (only_put (only_put (only_put h (p := ⟨k, 0, none⟩) (.inl hk) u0) (p := ⟨k, 1, none⟩) (.inl hk) u1) (p := ⟨k, 2, none⟩) (.inl hk) u2) (p := ⟨k, 3, none⟩) (.inl hk) u3) (p := ⟨k, 4, none⟩) (.inl hk) u4


set_option maxHeartbeats 16000000 in
theorem goodInstr_any {A : Option Addr} {n cap g : Nat} {zs : List Int} {p : Nat} (most : Int) (hm0 : 0 ≤ most) (hm1 : most ≤ 1000) {w : World} (h : Rd w g A n cap zs p) (hp : p + 20 < 1000000) :
    Calls Tryd.prog 41 #[.pointer (some ⟨g, 0, none⟩), .int .i64 most] w (SomeOk w g A n cap zs p) := by
  have hg := h.blk.inside
  have hR := h
  have HL := shade (fun b off (hA : A = some ⟨b, off, none⟩) (hn : 0 < n) => h.low hA hn)
  clear h
  have hT := only_refl w g
  have hZ := Holds5.fresh w 37 #[.string ⟨#[]⟩, .int .i64 0, .int .i64 0, .int .i64 0, .int .i64 0]
  have r0 := true; have r1 := true; have r2 := true; have r3 := true; have r4 := true
  have f0 := true; have f1 := true; have f2 := true; have f3 := true; have f4 := true
  go_enter Tryd.func41, Tryd.ntmps41
  go_wp2_with (first
    | (go_at_call 42
       refine (pick_rel _ (by first | exact hR | exact hR.alloc _) (by omega)).mono ?_
       clear hR
       rintro e wk ⟨v, ⟨v0, v1, v2⟩, rfl, hR, hG⟩
       replace hT := only_trans (by first | exact hT | exact only_alloc hT _) hG
       replace hZ := (show Holds5 _ w.heap.size 37 _ by first | exact hZ | exact hZ.alloc _).grown hG (by intro e; injection e with e; omega)
       clear hG r0 r1 r2 r3 r4 f0 f1 f2 f3 f4
       have r0 := hZ.look 0; have r1 := hZ.look 1; have r2 := hZ.look 2; have r3 := hZ.look 3; have r4 := hZ.look 4
       have f0 := hZ.free 0; have f1 := hZ.free 1; have f2 := hZ.free 2; have f3 := hZ.free 3; have f4 := hZ.free 4
       simp at r0 r1 r2 r3 r4)
    | (go_at_call 40
       refine (one_rel (fun _ => True) (by first | exact hR | exact hR.alloc _) (by omega) _ _ _ (by omega) (by omega) (by omega) (by have := hR.blk.inside; omega) (by intro j hj; rw [World.cell?_alloc_new]; first | (rcases (show j = 0 ∨ j = 1 ∨ j = 2 ∨ j = 3 by omega) with rfl | rfl | rfl | rfl <;> exact ⟨_, trivial, rfl⟩) | (rcases (show j = 0 ∨ j = 1 ∨ j = 2 by omega) with rfl | rfl | rfl <;> exact ⟨_, trivial, rfl⟩) | (rcases (show j = 0 ∨ j = 1 by omega) with rfl | rfl <;> exact ⟨_, trivial, rfl⟩))).mono ?_
       clear hR
       rintro e wk ⟨v, _, rfl, hR, hG⟩
       replace hT := only_trans (by first | exact hT | exact only_alloc hT _) hG
       replace hZ := (show Holds5 _ w.heap.size 37 _ by first | exact hZ | exact hZ.alloc _).grown hG (by intro e; injection e with e; omega)
       clear hG r0 r1 r2 r3 r4 f0 f1 f2 f3 f4
       have r0 := hZ.look 0; have r1 := hZ.look 1; have r2 := hZ.look 2; have r3 := hZ.look 3; have r4 := hZ.look 4
       have f0 := hZ.free 0; have f1 := hZ.free 1; have f2 := hZ.free 2; have f3 := hZ.free 3; have f4 := hZ.free 4
       simp at r0 r1 r2 r3 r4)
    | (go_at_call 54
       refine (of_rel (fun _ => True) (by first | exact hR | exact hR.alloc _) (by omega) _ _ _ (by omega) (by omega) (by omega) (by have := hR.blk.inside; omega) (by intro j hj; rw [World.cell?_alloc_new]; first | (rcases (show j = 0 ∨ j = 1 ∨ j = 2 ∨ j = 3 by omega) with rfl | rfl | rfl | rfl <;> exact ⟨_, trivial, rfl⟩) | (rcases (show j = 0 ∨ j = 1 ∨ j = 2 by omega) with rfl | rfl | rfl <;> exact ⟨_, trivial, rfl⟩) | (rcases (show j = 0 ∨ j = 1 by omega) with rfl | rfl <;> exact ⟨_, trivial, rfl⟩))).mono ?_
       clear hR
       rintro e wk ⟨v, _, rfl, hR, hG⟩
       replace hT := only_trans (by first | exact hT | exact only_alloc hT _) hG
       replace hZ := (show Holds5 _ w.heap.size 37 _ by first | exact hZ | exact hZ.alloc _).grown hG (by intro e; injection e with e; omega)
       clear hG r0 r1 r2 r3 r4 f0 f1 f2 f3 f4
       have r0 := hZ.look 0; have r1 := hZ.look 1; have r2 := hZ.look 2; have r3 := hZ.look 3; have r4 := hZ.look 4
       have f0 := hZ.free 0; have f1 := hZ.free 1; have f2 := hZ.free 2; have f3 := hZ.free 3; have f4 := hZ.free 4
       simp at r0 r1 r2 r3 r4))
  all_goals
    refine bodyPost_ret (results_cell_row rfl _ _ _ _ _ (0, 0) _ rfl (Holds5.five hZ _ _ _ _ _) Tryd.underlying37 rfl (by kernel_rfl)) rfl ?_
    exact ⟨_, _, _, _, _, _, by omega, rfl, hR.five w.heap.size (by omega) (fun b off hA hn => Nat.ne_of_lt (HL.out b off hA hn)), only_five hT (Nat.le_refl _) _ _ _ _ _⟩
end Go.Proofs.YtcfnoihjpiklhaaDoor
namespace Go.Proofs.YtcfnoihjpiklhaaDoor
open Go.RowKit
/-- What someInstr leaves. -/
def SomeOk2 (w : World) (g : Nat) (A : Option Addr) (n cap : Nat) (zs : List Int) (p : Nat) (e : Ending) (w' : World) : Prop :=
  ∃ (op : ByteArray) (d a b k : Int) (q : Nat), q ≤ p + 20 ∧ e = .returned (IV op d a b k) ∧ Rd w' g A n cap zs q ∧ w.grownBy w' (some g)


end Go.Proofs.YtcfnoihjpiklhaaDoor
namespace Go.Proofs.YtcfnoihjpiklhaaDoor
open Go.RowKit
/-- Bytes that came in. -/
structure Bys (w : World) (A : Option Addr) (n cap : Nat) (zs : List Int) : Prop where
  fits : n ≤ cap
  big : cap ≤ maxLen
  cells : 0 < n → ∃ b off, A = some ⟨b, off, none⟩ ∧ b < w.heap.size ∧ ∀ j, j < n → w.cell? ⟨b, off + j, none⟩ = some (.int .u8 (zs.getD j 0))
  rng : ∀ j, j < n → 0 ≤ zs.getD j 0 ∧ zs.getD j 0 ≤ 255
theorem Bys.rd {w : World} {A : Option Addr} {n cap : Nat} {zs : List Int} (h : Bys w A n cap zs) (m : Nat) (hm : m ≤ n) (hm2 : m ≤ 2000) :
    Rd (w.alloc (.cells #[.slice A m cap, .int .i64 0] 76)) w.heap.size A m cap zs 0 := by
  refine ⟨Holds5.fresh w _ _, hm2, by have := h.fits; omega, fun hn => ?_, fun j hj => h.rng j (by omega), by omega⟩
  obtain ⟨b, off, hA, hb, hc⟩ := h.cells (by omega)
  exact ⟨b, off, hA, by omega, fun j hj => (World.cell?_alloc_some w _ _ (by rw [hc j (by omega)]; rfl)).trans (hc j (by omega))⟩


/-- What newReader leaves. -/
def NewOk (w : World) (A : Option Addr) (cap : Nat) (zs : List Int) (e : Ending) (w' : World) : Prop :=
  ∃ m : Nat, e = .returned (.pointer (some ⟨w.heap.size, 0, none⟩)) ∧ Rd w' w.heap.size A m cap zs 0 ∧ Below w.heap.size w w'
set_option maxHeartbeats 1000000 in
theorem newReader_any (A : Option Addr) (n cap : Nat) (zs : List Int) (w : World) (h : Bys w A n cap zs) :
    Calls Tryd.prog 24 #[.slice A n cap] w (NewOk w A cap zs) := by
  have hcap := h.fits
  have hbig := h.big
  unfold maxLen at hbig
  by_cases hn : n ≤ 2000
  · have hR := h.rd n (by omega) hn
    have HR := shade hR
    clear hR h
    go_enter Tryd.func24, Tryd.ntmps24
    go_wp2
    go_ret
    exact ⟨n, rfl, HR.out, (Below.refl _ _).alloc (Nat.le_refl _) _⟩
  · have hR := h.rd 2000 (by omega) (by omega)
    obtain ⟨b, off, rfl, _, _⟩ := h.cells (by omega)
    have HR := shade hR
    clear hR h
    have hn2 : 2000 < n := by omega
    have hc2 : 2000 ≤ cap := by omega
    go_enter Tryd.func24, Tryd.ntmps24
    go_wp2
    go_ret
    exact ⟨2000, rfl, HR.out, (Below.refl _ _).alloc (Nat.le_refl _) _⟩
/-- What is drawn: some instruction, and nothing that was there has changed. -/
def DrawOk (w : World) (e : Ending) (w' : World) : Prop := ∃ (op : ByteArray) (d a b k : Int), e = .returned (IV op d a b k) ∧ Below w.heap.size w w'


end Go.Proofs.YtcfnoihjpiklhaaDoor