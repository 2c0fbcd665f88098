/- newReader makes a reader over the first 2000 bytes, and DrawEncodeInstr and DrawValidInstr return an instruction and change nothing that was there, for bytes whose cells can be read. -/
import Derived.Test.YtghpgpklhenleaaDoorW23
namespace Go.Proofs.YtghpgpklhenleaaDoor
open Go.RowKit
/-- Bytes that came in. -/
structure Bys (w : World) (A : Option Addr) (n cap : Nat) (zs : List Int) : Prop where
  fits : n ≤ cap
  big : cap ≤ maxLen
  cells : 0 < n → ∃ b off, A = some ⟨b, off, none⟩ ∧ b < w.heap.size ∧ ∀ j, j < n → w.cell? ⟨b, off + j, none⟩ = some (.int .u8 (zs.getD j 0))
  rng : ∀ j, j < n → 0 ≤ zs.getD j 0 ∧ zs.getD j 0 ≤ 255
theorem Bys.rd {w : World} {A : Option Addr} {n cap : Nat} {zs : List Int} (h : Bys w A n cap zs) (m : Nat) (hm : m ≤ n) (hm2 : m ≤ 2000) :
    Rd (w.alloc (.cells #[.slice A m cap, .int .i64 0] 98)) w.heap.size A m cap zs 0 := by
  refine ⟨Holds5.fresh w _ _, hm2, by have := h.fits; omega, fun hn => ?_, fun j hj => h.rng j (by omega), by omega⟩
  obtain ⟨b, off, hA, hb, hc⟩ := h.cells (by omega)
  exact ⟨b, off, hA, by omega, fun j hj => (World.cell?_alloc_some w _ _ (by rw [hc j (by omega)]; rfl)).trans (hc j (by omega))⟩


/-- What newReader leaves. -/
def NewOk (w : World) (A : Option Addr) (cap : Nat) (zs : List Int) (e : Ending) (w' : World) : Prop :=
  ∃ m : Nat, e = .returned (.pointer (some ⟨w.heap.size, 0, none⟩)) ∧ Rd w' w.heap.size A m cap zs 0 ∧ Below w.heap.size w w'
set_option maxHeartbeats 1000000 in
theorem newReader_any (A : Option Addr) (n cap : Nat) (zs : List Int) (w : World) (h : Bys w A n cap zs) :
    Calls Tryd.prog 48 #[.slice A n cap] w (NewOk w A cap zs) := by
  have hcap := h.fits
  have hbig := h.big
  unfold maxLen at hbig
  by_cases hn : n ≤ 2000
  · have hR := h.rd n (by omega) hn
    have HR := shade hR
    clear hR h
    go_enter Tryd.func48, Tryd.ntmps48
    go_wp2
    go_ret
    exact ⟨n, rfl, HR.out, (Below.refl _ _).alloc (Nat.le_refl _) _⟩
  · have hR := h.rd 2000 (by omega) (by omega)
    obtain ⟨b, off, rfl, _, _⟩ := h.cells (by omega)
    have HR := shade hR
    clear hR h
    have hn2 : 2000 < n := by omega
    have hc2 : 2000 ≤ cap := by omega
    go_enter Tryd.func48, Tryd.ntmps48
    go_wp2
    go_ret
    exact ⟨2000, rfl, HR.out, (Below.refl _ _).alloc (Nat.le_refl _) _⟩
/-- What is drawn: some instruction, and nothing that was there has changed. -/
def DrawOk (w : World) (e : Ending) (w' : World) : Prop := ∃ (op : ByteArray) (d a b k : Int), e = .returned (IV op d a b k) ∧ Below w.heap.size w w'


set_option maxHeartbeats 1000000 in
theorem DrawValidInstr_any (A : Option Addr) (n cap : Nat) (zs : List Int) (w : World) (h : Bys (w.alloc (.cells #[.string ⟨#[]⟩, .int .i64 0, .int .i64 0, .int .i64 0, .int .i64 0] 24)) A n cap zs) :
    Calls Tryd.prog 11 #[.slice A n cap] w (DrawOk w) := by
  have HN := shade (newReader_any A n cap zs _ h)
  clear h
  go_enter Tryd.func11, Tryd.ntmps11
  go_wp2_with fail
  refine HN.out.mono ?_
  rintro e w1 ⟨m, rfl, hR, hb1⟩
  rw [World.size_alloc] at hR
  have hZ := (Holds5.fresh w 24 #[.string ⟨#[]⟩, .int .i64 0, .int .i64 0, .int .i64 0, .int .i64 0]).below hb1 (by simp)
  have hlt := hR.blk.inside
  have HB1 := shade (show Below w.heap.size w w1 from ((Below.refl _ _).alloc (Nat.le_refl _) _).trans (hb1.mono (by simp)))
  have HS := shade (someInstr_any hR (by omega))
  clear hb1 hR
  go_wp2_with fail
  refine HS.out.mono ?_
  rintro e w2 ⟨op, d, a, b, k, q, hq, rfl, hR, hG⟩
  have hZ2 := hZ.grown hG (by intro e; injection e with e; simp at e)
  have hB2 : Below w.heap.size w w2 := HB1.out.grown hG HB1.out.size (by intro g hg; injection hg with hg; subst hg; simp)
  have r0 := hZ2.look 0; have r1 := hZ2.look 1; have r2 := hZ2.look 2; have r3 := hZ2.look 3; have r4 := hZ2.look 4
  have f0 := hZ2.free 0; have f1 := hZ2.free 1; have f2 := hZ2.free 2; have f3 := hZ2.free 3; have f4 := hZ2.free 4
  simp at r0 r1 r2 r3 r4
  clear hR hG hZ
  have HB2 := shade hB2
  clear hB2
  go_wp2_with fail
  refine bodyPost_ret (results_cell_row rfl _ _ _ _ _ (0, 0) _ rfl (Holds5.five hZ2 _ _ _ _ _) Tryd.underlying24 rfl (by kernel_rfl)) rfl ?_
  have hB := HB2.out
  exact ⟨op, d, a, b, k, rfl, by go_grown⟩

set_option maxHeartbeats 1000000 in
theorem DrawEncodeInstr_any (A : Option Addr) (n cap : Nat) (zs : List Int) (w : World) (h : Bys (w.alloc (.cells #[.string ⟨#[]⟩, .int .i64 0, .int .i64 0, .int .i64 0, .int .i64 0] 24)) A n cap zs) :
    Calls Tryd.prog 18 #[.slice A n cap] w (DrawOk w) := by
  have HN := shade (newReader_any A n cap zs _ h)
  clear h
  go_enter Tryd.func18, Tryd.ntmps18
  go_wp2_with fail
  refine HN.out.mono ?_
  rintro e w1 ⟨m, rfl, hR, hb1⟩
  rw [World.size_alloc] at hR
  have hZ := (Holds5.fresh w 24 #[.string ⟨#[]⟩, .int .i64 0, .int .i64 0, .int .i64 0, .int .i64 0]).below hb1 (by simp)
  have hlt := hR.blk.inside
  have HB1 := shade (show Below w.heap.size w w1 from ((Below.refl _ _).alloc (Nat.le_refl _) _).trans (hb1.mono (by simp)))
  have HS := shade (someInstr_any hR (by omega))
  clear hb1 hR
  go_wp2_with fail
  refine HS.out.mono ?_
  rintro e w2 ⟨op, d, a, b, k, q, hq, rfl, hR, hG⟩
  have hZ2 := hZ.grown hG (by intro e; injection e with e; simp at e)
  have hB2 : Below w.heap.size w w2 := HB1.out.grown hG HB1.out.size (by intro g hg; injection hg with hg; subst hg; simp)
  have r0 := hZ2.look 0; have r1 := hZ2.look 1; have r2 := hZ2.look 2; have r3 := hZ2.look 3; have r4 := hZ2.look 4
  have f0 := hZ2.free 0; have f1 := hZ2.free 1; have f2 := hZ2.free 2; have f3 := hZ2.free 3; have f4 := hZ2.free 4
  simp at r0 r1 r2 r3 r4
  clear hR hG hZ
  have HB2 := shade hB2
  clear hB2
  go_wp2_with fail
  refine bodyPost_ret (results_cell_row rfl _ _ _ _ _ (0, 0) _ rfl (Holds5.five hZ2 _ _ _ _ _) Tryd.underlying24 rfl (by kernel_rfl)) rfl ?_
  have hB := HB2.out
  exact ⟨op, d, a, b, k, rfl, by go_grown⟩
end Go.Proofs.YtghpgpklhenleaaDoor