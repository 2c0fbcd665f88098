/- PlacesOf, over whatever runOf leaves. -/
import Derived.Test.YtcfnoihjpiklhaaDoorG94
namespace Go.Proofs.YtcfnoihjpiklhaaDoor
open Go.RowKit
set_option linter.unusedSimpArgs false
/-- The cell that a step reads or writes, if it does; for a write, eight more. -/
def plOpt (F : Nat → Ins) (s : Sta) : List Int :=
  if nOf F s.at' = 5 then [(placeN s.r (raOf F s.at') (kOf F s.at') : Int)] else if nOf F s.at' = 6 then [(placeN s.r (raOf F s.at') (kOf F s.at') : Int) + 8] else []
/-- The cells of the first i states, in order. -/
def plL (F : Nat → Ins) (g : Nat → Sta) : Nat → List Int
  | 0 => []
  | i + 1 => plL F g i ++ plOpt F (g i)
theorem plOpt_le (F : Nat → Ins) (s : Sta) : (plOpt F s).length ≤ 1 := by
  unfold plOpt
  split
  · exact Nat.le_refl _
  · split
    · exact Nat.le_refl _
    · exact Nat.zero_le _
theorem plL_le (F : Nat → Ins) (g : Nat → Sta) : ∀ i, (plL F g i).length ≤ i := by
  intro i
  induction i with
  | zero => exact Nat.le_refl _
  | succ i ih =>
    show (plL F g i ++ plOpt F (g i)).length ≤ i + 1
    rw [List.length_append]
    have := plOpt_le F (g i)
    omega
/-- A list of numbers as cells. -/
def valL (l : List Int) : List Value := l.map (Value.int .i64)
theorem valL_snoc (l : List Int) (x : Int) : valL l ++ [.int .i64 x] = valL (l ++ [x]) := by
  unfold valL
  rw [List.map_append]
  rfl
theorem numL_list (l : List Int) : numL l.length (fun j => l.getD j 0) = valL l := by
  unfold numL valL
  apply List.ext_getElem
  · simp
  · intro i h1 h2
    have hi : i < l.length := by simpa using h1
    simp [hi]
/-- What stands while the cells are put together: those of i states so far. -/
structure PlO (w wr : World) (B R : Nat) (A0 : Option Addr) (l0 c0 : Nat) (A3 : Option Addr) (k : Nat) (g : Nat → Sta) (F : Nat → Ins) (i : Nat) (v : Value) : Prop where
  own : wr.ownsRow B 3 1 v (plL F g i).length (valL (plL F g i))
  sta : Stas wr A3 k g
  low : w.grownBy wr none
  big : B ≤ wr.heap.size
  code : wr.cell? ⟨R, 0, none⟩ = some (.slice A0 l0 c0)
section
variable {w wr w7 w7' w8 : World} {B R : Nat} {A0 : Option Addr} {l0 c0 : Nat} {A3 : Option Addr} {k : Nat} {g : Nat → Sta} {F : Nat → Ins} {i : Nat} {v v' : Value}
theorem PlO.app (h : PlO w wr B R A0 l0 c0 A3 k g F i v) (hB : w.heap.size ≤ B) (hR : R < B) (hl : ∀ b off, A3 = some ⟨b, off, none⟩ → b < B) (hg : wr.grownBy w7 none) (ho : w8.ownsRow B 3 1 v' (plL F g (i + 1)).length (valL (plL F g (i + 1)))) (hgr : w7.grownBy w8 v.ownBlock) : PlO w w8 B R A0 l0 c0 A3 k g F (i + 1) v' := by
  have ho7 := ownsRow_on h.own hg
  refine ⟨ho, (h.sta.on hg).grown hgr (fun b off e e' => ?_), grown_row (grown_same h.low hg) hgr (fun j e => ?_), Nat.le_trans h.big (Nat.le_trans hg.size hgr.size), hgr.cell (hg.cell h.code (by intro e; cases e)) (fun e => ?_)⟩
  · have h1 := hl b off e
    have h2 := (World.ownsRow.lt ho7 b e'.symm).1
    omega
  · have h2 := (World.ownsRow.lt ho7 j e).1
    omega
  · have h2 := (World.ownsRow.lt ho7 R e.symm).1
    omega
theorem PlO.skip (h : PlO w wr B R A0 l0 c0 A3 k g F i v) (hg : wr.grownBy w7 none) (he : plL F g (i + 1) = plL F g i) : PlO w w7 B R A0 l0 c0 A3 k g F (i + 1) v :=
  ⟨by rw [he]; exact ownsRow_on h.own hg, h.sta.on hg, grown_same h.low hg, Nat.le_trans h.big hg.size, hg.cell h.code (by intro e; cases e)⟩
end
end Go.Proofs.YtcfnoihjpiklhaaDoor
