/- newReader makes a reader over the first 2000 bytes, and DrawEncodeInstr and DrawValidInstr return an instruction and change nothing that was there, for bytes whose cells can be read. -/
import Derived.Test.YtlhfmjlcpcopkaaDoorW23
namespace Go.Proofs.YtlhfmjlcpcopkaaDoor
open Go.RowKit
/-- Bytes that came in. -/
structure Bys (w : World) (A : Option Addr) (n cap : Nat) (zs : List Int) : Prop where
  fits : n ≤ cap
  big : cap ≤ maxLen
  cells : 0 < n → ∃ b off, A = some ⟨b, off, none⟩ ∧ b < w.heap.size ∧ ∀ j, j < n → w.cell? ⟨b, off + j, none⟩ = some (.int .u8 (zs.getD j 0))
  rng : ∀ j, j < n → 0 ≤ zs.getD j 0 ∧ zs.getD j 0 ≤ 255
theorem Bys.rd {w : World} {A : Option Addr} {n cap : Nat} {zs : List Int} (h : Bys w A n cap zs) (m : Nat) (hm : m ≤ n) (hm2 : m ≤ 2000) :
    Rd (w.alloc (.cells #[.slice A m cap, .int .i64 0] 95)) w.heap.size A m cap zs 0 := by
  refine ⟨Holds5.fresh w _ _, hm2, by have := h.fits; omega, fun hn => ?_, fun j hj => h.rng j (by omega), by omega⟩
  obtain ⟨b, off, hA, hb, hc⟩ := h.cells (by omega)
  exact ⟨b, off, hA, by omega, fun j hj => (World.cell?_alloc_some w _ _ (by rw [hc j (by omega)]; rfl)).trans (hc j (by omega))⟩


/-- What newReader leaves. -/
def NewOk (w : World) (A : Option Addr) (cap : Nat) (zs : List Int) (e : Ending) (w' : World) : Prop :=
  ∃ m : Nat, e = .returned (.pointer (some ⟨w.heap.size, 0, none⟩)) ∧ Rd w' w.heap.size A m cap zs 0 ∧ Below w.heap.size w w'
set_option maxHeartbeats 1000000 in
theorem newReader_any (A : Option Addr) (n cap : Nat) (zs : List Int) (w : World) (h : Bys w A n cap zs) :
    Calls Tryd.prog 81 #[.slice A n cap] w (NewOk w A cap zs) := by
  have hcap := h.fits
  have hbig := h.big
  unfold maxLen at hbig
  by_cases hn : n ≤ 2000
  · have hR := h.rd n (by omega) hn
    have HR := shade hR
    clear hR h
    go_enter Tryd.func81, Tryd.ntmps81
    go_wp2
    go_ret
    exact ⟨n, rfl, HR.out, (Below.refl _ _).alloc (Nat.le_refl _) _⟩
  · have hR := h.rd 2000 (by omega) (by omega)
    obtain ⟨b, off, rfl, _, _⟩ := h.cells (by omega)
    have HR := shade hR
    clear hR h
    have hn2 : 2000 < n := by omega
    have hc2 : 2000 ≤ cap := by omega
    go_enter Tryd.func81, Tryd.ntmps81
    go_wp2
    go_ret
    exact ⟨2000, rfl, HR.out, (Below.refl _ _).alloc (Nat.le_refl _) _⟩
/-- What is drawn: some instruction, and nothing that was there has changed. -/
def DrawOk (w : World) (e : Ending) (w' : World) : Prop := ∃ (op : ByteArray) (d a b k : Int), e = .returned (IV op d a b k) ∧ Below w.heap.size w w'


end Go.Proofs.YtlhfmjlcpcopkaaDoor