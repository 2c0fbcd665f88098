/- Draws: readers, and rows of jumps. -/
import Derived.Test.YtfmcmndhghfoeaaZ32
import Derived.Test.YtfmcmndhghfoeaaW21
import Derived.Deep.DeepCutAuto
namespace Go.Proofs.Ytfmcmndhghfoeaa
open Go.RowKit
set_option linter.unusedSimpArgs false
/-- Bytes that came in. -/
structure Bys (w : World) (A : Option Addr) (n cap : Nat) (zs : List Int) : Prop where
  fits : n ≤ cap
  big : cap ≤ maxLen
  cells : 0 < n → ∃ b off, A = some ⟨b, off, none⟩ ∧ b < w.heap.size ∧ ∀ j, j < n → w.cell? ⟨b, off + j, none⟩ = some (.int .u8 (zs.getD j 0))
  rng : ∀ j, j < n → 0 ≤ zs.getD j 0 ∧ zs.getD j 0 ≤ 255
theorem Bys.rd {w : World} {A : Option Addr} {n cap : Nat} {zs : List Int} (h : Bys w A n cap zs) (m : Nat) (hm : m ≤ n) (hm2 : m ≤ 2000) :
    Rd (w.alloc (.cells #[.slice A m cap, .int .i64 0] 68)) w.heap.size A m cap zs 0 := by
  refine ⟨Holds5.fresh w _ _, hm2, by have := h.fits; omega, fun hn => ?_, fun j hj => h.rng j (by omega), by omega⟩
  obtain ⟨b, off, hA, hb, hc⟩ := h.cells (by omega)
  exact ⟨b, off, hA, by omega, fun j hj => (World.cell?_alloc_some w _ _ (by rw [hc j (by omega)]; rfl)).trans (hc j (by omega))⟩
/-- What newReader leaves. -/
def NewOk (w : World) (A : Option Addr) (cap : Nat) (zs : List Int) (e : Ending) (w' : World) : Prop :=
  ∃ m : Nat, e = .returned (.pointer (some ⟨w.heap.size, 0, none⟩)) ∧ Rd w' w.heap.size A m cap zs 0 ∧ Below w.heap.size w w'
set_option maxHeartbeats 1000000 in
theorem newReader_any (A : Option Addr) (n cap : Nat) (zs : List Int) (w : World) (h : Bys w A n cap zs) :
    Calls Try.prog 31 #[.slice A n cap] w (NewOk w A cap zs) := by
  have hcap := h.fits
  have hbig := h.big
  unfold maxLen at hbig
  by_cases hn : n ≤ 2000
  · have hR := h.rd n (by omega) hn
    have HR := shade hR
    clear hR h
    go_enter Try.func31, Try.ntmps31
    go_wp2
    go_ret
    exact ⟨n, rfl, HR.out, (Below.refl _ _).alloc (Nat.le_refl _) _⟩
  · have hR := h.rd 2000 (by omega) (by omega)
    obtain ⟨b, off, rfl, _, _⟩ := h.cells (by omega)
    have HR := shade hR
    clear hR h
    have hn2 : 2000 < n := by omega
    have hc2 : 2000 ≤ cap := by omega
    go_enter Try.func31, Try.ntmps31
    go_wp2
    go_ret
    exact ⟨2000, rfl, HR.out, (Below.refl _ _).alloc (Nat.le_refl _) _⟩


theorem Rd.below {w w' : World} {g : Nat} {A : Option Addr} {n cap : Nat} {zs : List Int} {p : Nat} (h : Rd w g A n cap zs p) (hb : Below w.heap.size w w') : Rd w' g A n cap zs p := by
  refine ⟨h.blk.below hb h.blk.inside, h.len, h.cap, fun hn => ?_, h.rng, h.few⟩
  obtain ⟨b, off, hA, hbg, hc⟩ := h.cells hn
  have hl := h.low hA hn
  exact ⟨b, off, hA, hbg, fun j hj => (hb.cell (p := ⟨b, off + j, none⟩) hl).trans (hc j hj)⟩
theorem Rd.drew {w : World} {g : Nat} {A : Option Addr} {n cap : Nat} {zs : List Int} {p : Nat} (h : Rd w g A n cap zs p) : Rd w.drew g A n cap zs p := ⟨h.blk, h.len, h.cap, h.cells, h.rng, h.few⟩
theorem only_of {a b : World} {g : Nat} (h : a.grownBy b none) : a.grownBy b (some g) := ⟨h.os, h.tape, h.output, h.size, fun i hi _ => h.block i hi (by simp)⟩
theorem Rd.other {w w' : World} {g : Nat} {A : Option Addr} {n cap : Nat} {zs : List Int} {p : Nat} {row : Option Nat} (h : Rd w g A n cap zs p) (hg : w.grownBy w' row) (hr : some g ≠ row) (hA : ∀ b off, A = some ⟨b, off, none⟩ → 0 < n → some b ≠ row) : Rd w' g A n cap zs p := by
  refine ⟨h.blk.grown hg hr, h.len, h.cap, fun hn => ?_, h.rng, h.few⟩
  obtain ⟨b, off, e, hbg, hc⟩ := h.cells hn
  exact ⟨b, off, e, hbg, fun j hj => hg.cell (hc j hj) (hA b off e hn)⟩
/-- A slice's length. -/
def lenV : Value → Nat
  | .slice _ n _ => n
  | _ => 0
/-- What stands while jumps are drawn. -/
structure SJm (w wr : World) (g : Nat) (A : Option Addr) (n cap : Nat) (zs : List Int) (p k : Nat) (f : Nat → Bool) (v : Value) : Prop where
  rd : Rd wr g A n cap zs p
  out : wr.ownsRow w.heap.size 4 1 v k (bolL k f)
  low : w.grownBy wr (some g)
  gin : g < w.heap.size
  ain : ∀ b off, A = some ⟨b, off, none⟩ → 0 < n → b < w.heap.size
/-- What is drawn: some jumps; and the reader. -/
def JmD (w : World) (g : Nat) (A : Option Addr) (n cap : Nat) (zs : List Int) (e : Ending) (w' : World) : Prop :=
  ∃ (AJ : Option Addr) (m cj : Nat) (J : Nat → Bool) (p : Nat), e = .returned (.slice AJ m cj) ∧ m ≤ 40 ∧ Bols w' AJ m J ∧ (∀ b off, AJ = some ⟨b, off, none⟩ → w.heap.size ≤ b) ∧ Rd w' g A n cap zs p ∧ p ≤ 1000 ∧ w.grownBy w' (some g)
theorem SJm.app {w wr w2 w8 : World} {g : Nat} {A : Option Addr} {n cap : Nat} {zs : List Int} {p p2 k : Nat} {f : Nat → Bool} {v v' : Value} (h : SJm w wr g A n cap zs p k f v) (x : Bool) (hR : Rd w2 g A n cap zs p2) (hG : wr.grownBy w2 (some g)) (o : Obj)
    (ho : w8.ownsRow w.heap.size 4 1 v' (k + 1) (bolL k f ++ [.bool x])) (hg8 : (w2.alloc o).grownBy w8 v.ownBlock) :
    SJm w w8 g A n cap zs p2 (k + 1) (fun i => if i < k then f i else x) v' := by
  have hA : ∀ r, v.ownBlock = some r → w.heap.size ≤ r := fun r e => (World.ownsRow.lt h.out r e).1
  have hga := World.grownBy_alloc w2 o none
  refine ⟨(hR.alloc o).other hg8 (fun e => by have := hA g e.symm; have := h.gin; omega) (fun b off e hn e' => by have := hA b e'.symm; have := h.ain b off e hn; omega), ?_, ?_, h.gin, h.ain⟩
  · have e : bolL k f ++ [.bool x] = bolL (k + 1) (fun i => if i < k then f i else x) := by
      rw [← bolL_snoc, bolL_congr k f (fun i => if i < k then f i else x) (fun i hi => by rw [if_pos hi])]
      simp
    rw [e] at ho
    exact ho
  · have h2 : w.grownBy (w2.alloc o) (some g) := only_trans (only_trans h.low hG) (only_of hga)
    exact ⟨hg8.os.trans h2.os, hg8.tape.trans h2.tape, hg8.output.trans h2.output, Nat.le_trans h2.size hg8.size, fun i hi hn => (hg8.block i (Nat.lt_of_lt_of_le hi h2.size) (fun e => by have := hA i e.symm; omega)).trans (h2.block i hi hn)⟩
theorem SJm.keep {w wr w2 : World} {g : Nat} {A : Option Addr} {n cap : Nat} {zs : List Int} {p p2 k : Nat} {f : Nat → Bool} {v : Value} (h : SJm w wr g A n cap zs p k f v) (hR : Rd w2 g A n cap zs p2) (hG : wr.grownBy w2 (some g)) : SJm w w2 g A n cap zs p2 k f v := by
  refine ⟨hR, World.ownsRow.kept h.out hG (.inr (fun e => ?_)), only_trans h.low hG, h.gin, h.ain⟩
  have h1 := (World.ownsRow.lt h.out g e).1
  have h2 := h.gin
  omega
end Go.Proofs.Ytfmcmndhghfoeaa
