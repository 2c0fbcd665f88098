/- Plain facts: a number that EncodeInstr gives is decoded to the instruction; and bytes that came in, opened. -/
import Derived.Test.YtcfnoihjpiklhaaDoorG20
import Derived.Test.YtcfnoihjpiklhaaDoorW17
import Derived.Test.YtcfnoihjpiklhaaDoorW14
namespace Go.Proofs.YtcfnoihjpiklhaaDoor
open Go.ChangeShapes Go.WideShapes Go.ChangeAt Go.WideMaps Go.WideElems Go.RowKit
theorem op_is (op : ByteArray) (n : Nat) (hn : n < 10) (hw : wordN op.toList = n) : op = wT n := by
  rcases word_is op.toList n hn hw with ⟨rfl, h⟩ | ⟨rfl, h⟩ | ⟨rfl, h⟩ | ⟨rfl, h⟩ | ⟨rfl, h⟩ | ⟨rfl, h⟩ | ⟨rfl, h⟩ | ⟨rfl, h⟩ | ⟨rfl, h⟩ | ⟨rfl, h⟩
  · exact op_eq_0 op (beq_iff_eq.2 (beq_iff_eq.1 h).symm)
  · exact op_eq_1 op (beq_iff_eq.2 (beq_iff_eq.1 h).symm)
  · exact op_eq_2 op (beq_iff_eq.2 (beq_iff_eq.1 h).symm)
  · exact op_eq_3 op (beq_iff_eq.2 (beq_iff_eq.1 h).symm)
  · exact op_eq_4 op (beq_iff_eq.2 (beq_iff_eq.1 h).symm)
  · exact op_eq_5 op (beq_iff_eq.2 (beq_iff_eq.1 h).symm)
  · exact op_eq_6 op (beq_iff_eq.2 (beq_iff_eq.1 h).symm)
  · exact op_eq_7 op (beq_iff_eq.2 (beq_iff_eq.1 h).symm)
  · exact op_eq_8 op (beq_iff_eq.2 (beq_iff_eq.1 h).symm)
  · exact op_eq_9 op (beq_iff_eq.2 (beq_iff_eq.1 h).symm)
/-- What EncodeInstr gives for a valid instruction, and what stands in it. -/
theorem enc_parts (op : ByteArray) (d a b k : Int) (hv : vB op.toList d a b k = true) :
    ∃ (e : Int) (q : Nat), encV op.toList d a b k = e ∧ 0 ≤ e ∧ e < 163840 ∧ e / 16384 = q ∧ q < 10 ∧ wT q = op ∧ e / 4096 % 4 = d ∧ e / 1024 % 4 = a ∧ e / 256 % 4 = b ∧ e % 256 = k ∧ decOk e = true := by
  obtain ⟨⟨n0, n1⟩, ⟨b1, b1'⟩, ⟨b2, b2'⟩, ⟨b3, b3'⟩, ⟨b4, b4'⟩⟩ := VI_bounds (vB_true.1 hv)
  obtain ⟨n, hn⟩ := Int.eq_ofNat_of_zero_le n0
  have hop := op_is op n (by omega) hn
  have e0 : 0 ≤ ((((n : Int) * 4 + d) * 4 + a) * 4 + b) * 256 + k := by omega
  have e1 : ((((n : Int) * 4 + d) * 4 + a) * 4 + b) * 256 + k < 163840 := by omega
  have e2 : (((((n : Int) * 4 + d) * 4 + a) * 4 + b) * 256 + k) / 16384 = n := by omega
  have e3 : (((((n : Int) * 4 + d) * 4 + a) * 4 + b) * 256 + k) / 4096 % 4 = d := by omega
  have e4 : (((((n : Int) * 4 + d) * 4 + a) * 4 + b) * 256 + k) / 1024 % 4 = a := by omega
  have e5 : (((((n : Int) * 4 + d) * 4 + a) * 4 + b) * 256 + k) / 256 % 4 = b := by omega
  have e6 : (((((n : Int) * 4 + d) * 4 + a) * 4 + b) * 256 + k) % 256 = k := by omega
  refine ⟨_, n, enc_yes hv, ?_⟩
  rw [hn]
  refine ⟨e0, e1, e2, by omega, hop.symm, e3, e4, e5, e6, ?_⟩
  rw [decOk_eq _ n e0 e1 e2, e3, e4, e5, e6, ← hop]
  exact hv
theorem Bys.alloc {w : World} {A : Option Addr} {n cap : Nat} {zs : List Int} (h : Bys w A n cap zs) (o : Obj) : Bys (w.alloc o) A n cap zs := by
  refine ⟨h.fits, h.big, fun hn => ?_, h.rng⟩
  obtain ⟨b, off, hA, hb, hc⟩ := h.cells hn
  exact ⟨b, off, hA, by simp; omega, fun j hj => (World.cell?_alloc_some w _ o (by rw [hc j hj]; rfl)).trans (hc j hj)⟩
theorem cells5 : Tryd.prog.cellsOf 5 = 1 := by kernel_rfl
set_option maxRecDepth 100000 in
/-- Bytes that came in, opened. -/
theorem open_bytes {H : Type} {enc : TypeId × Value → H} {W : World} {base : Nat} {v1 : Value} {d1 : DataW H} {p1 : List MemPlace} (hval : Value.okWide Tryd.prog W .any base 22 v1) (h1 : DataW.Trod enc Tryd.prog W 0 (fun _ => true) true 22 v1 d1 p1) :
    ∃ A n cap zs, v1 = .slice A n cap ∧ Bys W A n cap zs := by
  obtain ⟨a1, len, cap, rfl⟩ := okWide_slice Tryd.underlying22 hval
  obtain ⟨fuel, hf⟩ := h1
  rcases open_ints Tryd.underlying22 Tryd.underlying5 cells5 hf with ⟨hcs, hx⟩ | ⟨a, len', cap', zs, hcs, _, hl, hm, hz, hx, hcell, hwz⟩
  · simp [Value.cells] at hcs
    obtain ⟨rfl, rfl, rfl⟩ := hcs
    exact ⟨none, 0, 0, [], rfl, Nat.le_refl _, Nat.zero_le _, fun h => absurd h (by omega), fun j h => by omega⟩
  · simp [Value.cells] at hcs
    obtain ⟨rfl, rfl, rfl⟩ := hcs
    simp only [if_true] at hz
    refine ⟨some a, len, cap, zs, rfl, hl, hm, fun hn => ?_, fun j hj => ?_⟩
    · obtain ⟨ab, ao, spot⟩ := a
      have hspot : spot = none := by simpa [Addr.add] using World.cell?_spot (hcell 0 (by omega))
      subst hspot
      refine ⟨ab, ao, rfl, ?_, fun j hj => ?_⟩
      · have := hcell 0 (by omega)
        rw [Addr.add_lit] at this
        exact World.block_lt_of_cell? W _ this
      · have := hcell j (by omega)
        rw [Addr.add_lit] at this
        exact this
    · have := range_u8 hwz j
      rwa [← List.getD_eq_getElem?_getD] at this
end Go.Proofs.YtcfnoihjpiklhaaDoor
