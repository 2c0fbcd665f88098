/- The reader's one and of return one of the list's elements and change nothing but the reader, for a reader of at most 2000 bytes that has been asked fewer than a million times and a list that is not empty. -/
import Derived.Test.YtehjfnfpebdidaaDoorW20
namespace Go.Proofs.YtehjfnfpebdidaaDoor
open Go.RowKit


theorem only_refl (w : World) (g : Nat) : w.grownBy w (some g) := ⟨rfl, rfl, rfl, Nat.le_refl _, fun _ _ _ => rfl⟩
theorem only_alloc {a w : World} {g : Nat} (h : a.grownBy w (some g)) (o : Obj) : a.grownBy (w.alloc o) (some g) :=
  ⟨h.os, h.tape, h.output, Nat.le_trans h.size (by simp), fun i hi hne => (Below.heap_alloc w o i (Nat.lt_of_lt_of_le hi h.size)).trans (h.block i hi hne)⟩
theorem only_put {a w : World} {g : Nat} (h : a.grownBy w (some g)) {p : Addr} (hp : a.heap.size ≤ p.block ∨ p.block = g) (u : Value) : a.grownBy (w.setCell p u) (some g) :=
  ⟨h.os, h.tape, h.output, by simpa [World.setCell] using h.size, fun i hi hne => (Below.heap_setCell w p u i (by
    rintro rfl
    rcases hp with hp | hp
    · omega
    · exact hne (by rw [hp]))).trans (h.block i hi hne)⟩
theorem only_drewN {a w : World} {g : Nat} (h : a.grownBy w (some g)) (k : Nat) : a.grownBy (w.drewN k) (some g) := ⟨h.os, h.tape, h.output, h.size, h.block⟩
theorem only_trans {a b c : World} {g : Nat} (h : a.grownBy b (some g)) (h' : b.grownBy c (some g)) : a.grownBy c (some g) :=
  ⟨h'.os.trans h.os, h'.tape.trans h.tape, h'.output.trans h.output, Nat.le_trans h.size h'.size, fun i hi hne => (h'.block i (Nat.lt_of_lt_of_le hi h.size) hne).trans (h.block i hi hne)⟩
theorem only_cell {a w : World} {g : Nat} (h : a.grownBy w (some g)) {p : Addr} {u : Value} (hp : p.block ≠ g) (hc : a.cell? p = some u) : w.cell? p = some u := by
  rw [World.cell?_of_block (h.block p.block (World.block_lt_of_cell? a p hc) (fun e => hp (by simpa using e)))]
  exact hc
section
variable {w w' : World} {g : Nat} {A : Option Addr} {n cap : Nat} {zs : List Int} {p : Nat}
theorem Rd.alloc (h : Rd w g A n cap zs p) (o : Obj) : Rd (w.alloc o) g A n cap zs p := by
  refine ⟨h.blk.alloc o, h.len, h.cap, fun hn => ?_, h.rng, h.few⟩
  obtain ⟨b, off, hA, hb, hc⟩ := h.cells hn
  exact ⟨b, off, hA, hb, fun j hj => (World.cell?_alloc_some w _ o (by rw [hc j hj]; rfl)).trans (hc j hj)⟩
theorem Rd.far (h : Rd w g A n cap zs p) {q : Addr} (u : Value) (hg : g ≠ q.block) (hb : ∀ b off, A = some ⟨b, off, none⟩ → 0 < n → b ≠ q.block) : Rd (w.setCell q u) g A n cap zs p := by
  refine ⟨h.blk.other hg u, h.len, h.cap, fun hn => ?_, h.rng, h.few⟩
  obtain ⟨b, off, hA, hbg, hc⟩ := h.cells hn
  exact ⟨b, off, hA, hbg, fun j hj => (World.cell?_setCell_far w q _ u (Ne.symm (hb b off hA hn))).trans (hc j hj)⟩
/-- The slice's block lies below. -/
theorem Rd.low (h : Rd w g A n cap zs p) {b off : Nat} (hA : A = some ⟨b, off, none⟩) (hn : 0 < n) : b < w.heap.size := by
  obtain ⟨b', off', hA', _, hc⟩ := h.cells hn
  rw [hA] at hA'
  injection hA' with hA'
  injection hA' with h1 h2
  subst h1
  exact World.block_lt_of_cell? w ⟨b, off' + 0, none⟩ (hc 0 hn)
theorem Rd.next (h : Rd w g A n cap zs p) (hp : p + 1 < 1000000) (k : Nat) : Rd ((w.setCell ⟨g, 1, none⟩ (.int .i64 (p + 1))).drewN k) g A n cap zs (p + 1) := by
  have h1 := h.blk.put 1 (.int .i64 (p + 1))
  refine ⟨?_, h.len, h.cap, fun hn => ?_, h.rng, hp⟩
  · have h2 := h1.drewN k
    simpa using h2
  · obtain ⟨b, off, hA, hbg, hc⟩ := h.cells hn
    exact ⟨b, off, hA, hbg, fun j hj => (World.cell?_setCell_far w ⟨g, 1, none⟩ ⟨b, off + j, none⟩ _ (Ne.symm hbg)).trans (hc j hj)⟩
end
/-- What a pick leaves, as its callers need it. -/
def Picked (m : Int) (w : World) (g : Nat) (A : Option Addr) (n cap : Nat) (zs : List Int) (p : Nat) (e : Ending) (w' : World) : Prop :=
  ∃ v : Int, (0 ≤ v ∧ (1 ≤ m → v < m) ∧ (m < 1 → v = 0)) ∧ e = .returned (.int .i64 v) ∧ Rd w' g A n cap zs (p + 1) ∧ w.grownBy w' (some g)
theorem pick_rel {A : Option Addr} {n cap g : Nat} {zs : List Int} {p : Nat} (m : Int) {w : World} (h : Rd w g A n cap zs p) (hp : p + 1 < 1000000) :
    Calls Tryd.prog 34 #[.pointer (some ⟨g, 0, none⟩), .int .i64 m] w (Picked m w g A n cap zs p) := by
  refine (pick_any A n cap g zs p m w h).mono ?_
  rintro e w' ⟨v, hv, rfl, k, rfl⟩
  exact ⟨v, hv, rfl, h.next hp k, only_drewN (only_put (only_refl w g) (.inr rfl) _) k⟩
/-- What one leaves: a number with a property that all of the list have. -/
def OneOk (P : Int → Prop) (w : World) (g : Nat) (A : Option Addr) (n cap : Nat) (zs : List Int) (p : Nat) (e : Ending) (w' : World) : Prop :=
  ∃ x : Int, P x ∧ e = .returned (.int .i64 x) ∧ Rd w' g A n cap zs (p + 1) ∧ w.grownBy w' (some g)
set_option maxHeartbeats 1000000 in
theorem one_rel (P : Int → Prop) {A : Option Addr} {n cap g : Nat} {zs : List Int} {p : Nat} {w : World} (h : Rd w g A n cap zs p) (hp : p + 1 < 1000000)
    (lb ln lc : Nat) (hl : 0 < ln) (hln : ln ≤ 1000) (_hlc : ln ≤ lc) (hlb : lb ≠ g) (hx : ∀ j, j < ln → ∃ x : Int, P x ∧ w.cell? ⟨lb, j, none⟩ = some (.int .i64 x)) :
    Calls Tryd.prog 33 #[.pointer (some ⟨g, 0, none⟩), .slice (some ⟨lb, 0, none⟩) ln lc] w (OneOk P w g A n cap zs p) := by
  have HP := shade (pick_rel (ln : Int) h hp)
  have HX := shade hx
  clear hx h
  go_enter Tryd.func33, Tryd.ntmps33
  go_wp2_with fail
  refine HP.out.mono ?_
  rintro e w1 ⟨v, ⟨v0, v1, _⟩, rfl, hR, hG⟩
  have v2 := v1 (by omega)
  clear v1
  obtain ⟨j, rfl⟩ := Int.eq_ofNat_of_zero_le v0
  obtain ⟨x, hPx, hc⟩ := HX.out j (by omega)
  have hc1 := only_cell hG hlb hc
  have HR := shade hR
  have HG := shade hG
  clear hc hR hG
  have hj : j < ln := by omega
  go_wp2_with fail
  go_ret
  exact ⟨x, hPx, rfl, HR.out, HG.out⟩
/-- What of leaves: a text with a property that all of the list have. -/
def OfOk (P : ByteArray → Prop) (w : World) (g : Nat) (A : Option Addr) (n cap : Nat) (zs : List Int) (p : Nat) (e : Ending) (w' : World) : Prop :=
  ∃ x : ByteArray, P x ∧ e = .returned (.string x) ∧ Rd w' g A n cap zs (p + 1) ∧ w.grownBy w' (some g)
set_option maxHeartbeats 1000000 in
theorem of_rel (P : ByteArray → Prop) {A : Option Addr} {n cap g : Nat} {zs : List Int} {p : Nat} {w : World} (h : Rd w g A n cap zs p) (hp : p + 1 < 1000000)
    (lb ln lc : Nat) (hl : 0 < ln) (hln : ln ≤ 1000) (_hlc : ln ≤ lc) (hlb : lb ≠ g) (hx : ∀ j, j < ln → ∃ x : ByteArray, P x ∧ w.cell? ⟨lb, j, none⟩ = some (.string x)) :
    Calls Tryd.prog 35 #[.pointer (some ⟨g, 0, none⟩), .slice (some ⟨lb, 0, none⟩) ln lc] w (OfOk P w g A n cap zs p) := by
  have HP := shade (pick_rel (ln : Int) h hp)
  have HX := shade hx
  clear hx h
  go_enter Tryd.func35, Tryd.ntmps35
  go_wp2_with fail
  refine HP.out.mono ?_
  rintro e w1 ⟨v, ⟨v0, v1, _⟩, rfl, hR, hG⟩
  have v2 := v1 (by omega)
  clear v1
  obtain ⟨j, rfl⟩ := Int.eq_ofNat_of_zero_le v0
  obtain ⟨x, hPx, hc⟩ := HX.out j (by omega)
  have hc1 := only_cell hG hlb hc
  have HR := shade hR
  have HG := shade hG
  clear hc hR hG
  have hj : j < ln := by omega
  go_wp2_with fail
  go_ret
  exact ⟨x, hPx, rfl, HR.out, HG.out⟩
end Go.Proofs.YtehjfnfpebdidaaDoor