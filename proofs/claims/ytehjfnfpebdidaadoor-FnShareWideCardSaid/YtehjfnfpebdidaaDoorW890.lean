/- Wide instructions that are drawn: the reader kept, and a row of wide instructions that grows by one. -/
import Derived.Test.YtehjfnfpebdidaaDoorW21
import Derived.Test.YtehjfnfpebdidaaDoorW802
namespace Go.Proofs.YtehjfnfpebdidaaDoor
open Go.RowKit
/-- Bytes that came in. -/
structure Bys (w : World) (A : Option Addr) (n cap : Nat) (zs : List Int) : Prop where
  fits : n ≤ cap
  big : cap ≤ maxLen
  cells : 0 < n → ∃ b off, A = some ⟨b, off, none⟩ ∧ b < w.heap.size ∧ ∀ j, j < n → w.cell? ⟨b, off + j, none⟩ = some (.int .u8 (zs.getD j 0))
  rng : ∀ j, j < n → 0 ≤ zs.getD j 0 ∧ zs.getD j 0 ≤ 255
theorem Bys.rd {w : World} {A : Option Addr} {n cap : Nat} {zs : List Int} (h : Bys w A n cap zs) (m : Nat) (hm : m ≤ n) (hm2 : m ≤ 2000) :
    Rd (w.alloc (.cells #[.slice A m cap, .int .i64 0] 59)) w.heap.size A m cap zs 0 := by
  refine ⟨Holds5.fresh w _ _, hm2, by have := h.fits; omega, fun hn => ?_, fun j hj => h.rng j (by omega), by omega⟩
  obtain ⟨b, off, hA, hb, hc⟩ := h.cells (by omega)
  exact ⟨b, off, hA, by omega, fun j hj => (World.cell?_alloc_some w _ _ (by rw [hc j (by omega)]; rfl)).trans (hc j (by omega))⟩
/-- What newReader leaves. -/
def NewOk (w : World) (A : Option Addr) (cap : Nat) (zs : List Int) (e : Ending) (w' : World) : Prop :=
  ∃ m : Nat, e = .returned (.pointer (some ⟨w.heap.size, 0, none⟩)) ∧ Rd w' w.heap.size A m cap zs 0 ∧ Below w.heap.size w w'
set_option maxHeartbeats 1000000 in
theorem newReader_any (A : Option Addr) (n cap : Nat) (zs : List Int) (w : World) (h : Bys w A n cap zs) :
    Calls Tryd.prog 21 #[.slice A n cap] w (NewOk w A cap zs) := by
  have hcap := h.fits
  have hbig := h.big
  unfold maxLen at hbig
  by_cases hn : n ≤ 2000
  · have hR := h.rd n (by omega) hn
    have HR := shade hR
    clear hR h
    go_enter Tryd.func21, Tryd.ntmps21
    go_wp2
    go_ret
    exact ⟨n, rfl, HR.out, (Below.refl _ _).alloc (Nat.le_refl _) _⟩
  · have hR := h.rd 2000 (by omega) (by omega)
    obtain ⟨b, off, rfl, _, _⟩ := h.cells (by omega)
    have HR := shade hR
    clear hR h
    have hn2 : 2000 < n := by omega
    have hc2 : 2000 ≤ cap := by omega
    go_enter Tryd.func21, Tryd.ntmps21
    go_wp2
    go_ret
    exact ⟨2000, rfl, HR.out, (Below.refl _ _).alloc (Nat.le_refl _) _⟩
theorem rowL_append (m m' : Nat) (g : Nat → Value) : rowL m g ++ (List.range m').map (fun j => g (m + j)) = rowL (m + m') g := by
  unfold rowL
  rw [List.range_add, List.map_append, List.map_map]
  rfl
theorem Rd.kept {w w' : World} {g : Nat} {A : Option Addr} {n cap : Nat} {zs : List Int} {p : Nat} {row : Option Nat} (h : Rd w g A n cap zs p) (hG : w.grownBy w' row) (hg : some g ≠ row) (hb : ∀ b off, A = some ⟨b, off, none⟩ → 0 < n → some b ≠ row) : Rd w' g A n cap zs p := by
  refine ⟨h.blk.grown hG hg, h.len, h.cap, fun hn => ?_, h.rng, h.few⟩
  obtain ⟨b, off, hA, hbg, hc⟩ := h.cells hn
  exact ⟨b, off, hA, hbg, fun j hj => hG.cell (hc j hj) (hb b off hA hn)⟩
theorem Rd.on {w w' : World} {g : Nat} {A : Option Addr} {n cap : Nat} {zs : List Int} {p : Nat} (h : Rd w g A n cap zs p) (hG : w.grownBy w' none) : Rd w' g A n cap zs p := h.kept hG (by intro e; cases e) (by intro _ _ _ _ e; cases e)
theorem only_row {a b c : World} {g : Nat} {row : Option Nat} (h : a.grownBy b (some g)) (h' : b.grownBy c row) (hr : ∀ k, row = some k → a.heap.size ≤ k) : a.grownBy c (some g) :=
  ⟨h'.os.trans h.os, h'.tape.trans h.tape, h'.output.trans h.output, Nat.le_trans h.size h'.size, fun i hi hne => (h'.block i (Nat.lt_of_lt_of_le hi h.size) (fun e => by
    have := hr i e.symm
    omega)).trans (h.block i hi hne)⟩
theorem only_of {a b : World} {g : Nat} (h : a.grownBy b none) : a.grownBy b (some g) := ⟨h.os, h.tape, h.output, h.size, fun i hi _ => h.block i hi (by simp)⟩
/-- A slice's length. -/
def lenOf : Value → Nat
  | .slice _ n _ => n
  | _ => 0
theorem wideL_snoc (k : Nat) (f : Nat → Wid) (c : Wid) : wideL k f ++ [.string c.op, .int .i64 c.a, .int .i64 c.b, .int .i64 c.k] = wideL (k + 1) (fun j => if j = k then c else f j) := by
  have e : wideL (k + 1) (fun j => if j = k then c else f j) = rowL (k * 4 + 4) (fun i => ((fun j => if j = k then c else f j) (i / 4)).part (i % 4)) := by
    unfold wideL
    rw [show (k + 1) * 4 = k * 4 + 4 by omega]
  rw [e, ← rowL_append]
  congr 1
  · unfold wideL
    apply rowL_congr
    intro i hi
    show _ = (if i / 4 = k then c else f (i / 4)).part (i % 4)
    rw [if_neg (by omega)]
  · show _ = [(if (k * 4 + 0) / 4 = k then c else f ((k * 4 + 0) / 4)).part ((k * 4 + 0) % 4), (if (k * 4 + 1) / 4 = k then c else f ((k * 4 + 1) / 4)).part ((k * 4 + 1) % 4), (if (k * 4 + 2) / 4 = k then c else f ((k * 4 + 2) / 4)).part ((k * 4 + 2) % 4), (if (k * 4 + 3) / 4 = k then c else f ((k * 4 + 3) / 4)).part ((k * 4 + 3) % 4)]
    rw [if_pos (by omega), if_pos (by omega), if_pos (by omega), if_pos (by omega), show (k * 4 + 0) % 4 = 0 by omega, show (k * 4 + 1) % 4 = 1 by omega, show (k * 4 + 2) % 4 = 2 by omega, show (k * 4 + 3) % 4 = 3 by omega]
    rfl
/-- What stands while wide instructions are drawn: k so far. -/
structure SCW (w wr : World) (g : Nat) (A : Option Addr) (n cap : Nat) (zs : List Int) (p : Nat) (v : Value) (k : Nat) (f : Nat → Wid) : Prop where
  rd : Rd wr g A n cap zs p
  own : wr.ownsRow w.heap.size 43 4 v k (wideL k f)
  low : w.grownBy wr (some g)
  sep : g < w.heap.size ∧ ∀ b off, A = some ⟨b, off, none⟩ → 0 < n → b < w.heap.size
  pos : v ≠ .slice none 0 0
theorem own_cap {w : World} {B g n c : Nat} {f : Nat → Wid} (h : OwnW w B (some ⟨g, 0, none⟩) n c f) : n ≤ c ∧ c ≤ maxLen ∧ B ≤ g := by
  have hb := (World.ownsRow.lt h g rfl).1
  rcases h.2 with ⟨e, _⟩ | ⟨_, _, _, e, _, _, h1, h2, _⟩
  · injection e with e
    cases e
  · injection e with _ _ e
    subst e
    exact ⟨h1, h2, hb⟩
theorem SCW.val {w wr : World} {g : Nat} {A : Option Addr} {n cap : Nat} {zs : List Int} {p : Nat} {v : Value} {k : Nat} {f : Nat → Wid} (h : SCW w wr g A n cap zs p v k f) :
    ∃ g' c, v = .slice (some ⟨g', 0, none⟩) k c ∧ Wds wr (some ⟨g', 0, none⟩) k f ∧ w.heap.size ≤ g' := by
  rcases h.own.2 with ⟨e, h0⟩ | ⟨g', c, cur, e, hb, _⟩
  · exact absurd e h.pos
  · refine ⟨g', c, e, ?_, hb⟩
    have ho := h.own
    rw [e] at ho
    exact OwnW.wds ho
theorem SCW.step {w wr w2 : World} {g : Nat} {A : Option Addr} {n cap : Nat} {zs : List Int} {p p2 : Nat} {v : Value} {k : Nat} {f : Nat → Wid} (h : SCW w wr g A n cap zs p v k f) (hR : Rd w2 g A n cap zs p2) (hG : wr.grownBy w2 (some g)) : SCW w w2 g A n cap zs p2 v k f := by
  refine ⟨hR, World.ownsRow.kept h.own hG ?_, only_trans h.low hG, h.sep, h.pos⟩
  rcases hv : v.ownBlock with _ | k'
  · exact .inl rfl
  · refine .inr (fun e => ?_)
    injection e with e
    have := World.ownsRow.lt h.own k' hv
    have := h.sep.1
    omega
theorem SCW.on {w wr w2 : World} {g : Nat} {A : Option Addr} {n cap : Nat} {zs : List Int} {p : Nat} {v : Value} {k : Nat} {f : Nat → Wid} (h : SCW w wr g A n cap zs p v k f) (hG : wr.grownBy w2 none) : SCW w w2 g A n cap zs p v k f := h.step (h.rd.on hG) (only_of hG)
theorem SCW.far {w wr : World} {g : Nat} {A : Option Addr} {n cap : Nat} {zs : List Int} {p : Nat} {v : Value} {k : Nat} {f : Nat → Wid} (h : SCW w wr g A n cap zs p v k f) (r o : Nat) (u : Value) (hr : w.heap.size ≤ r) (hv : ∀ j, v.ownBlock = some j → j ≠ r) : SCW w (wr.setCell ⟨r, o, none⟩ u) g A n cap zs p v k f := by
  refine ⟨h.rd.kept (grown_set r o u) (fun e => ?_) (fun b off hA hn e => ?_), World.ownsRow.kept h.own (grown_set r o u) ?_, only_row h.low (grown_set r o u) (fun j e => ?_), h.sep, h.pos⟩
  · injection e with e
    have := h.sep.1
    omega
  · injection e with e
    have := h.sep.2 b off hA hn
    omega
  · rcases he : v.ownBlock with _ | j
    · exact .inl rfl
    · refine .inr (fun e => ?_)
      injection e with e
      exact hv j he e
  · injection e with e
    omega
/-- What someWide leaves. -/
def SWOk (w : World) (g : Nat) (A : Option Addr) (n cap : Nat) (zs : List Int) (p : Nat) (e : Ending) (w' : World) : Prop :=
  ∃ (g' k c : Nat) (f : Nat → Wid), e = .returned (.slice (some ⟨g', 0, none⟩) k c) ∧ k ≤ 8 ∧ (k ≤ c ∧ c ≤ maxLen ∧ w.heap.size ≤ g') ∧ Wds w' (some ⟨g', 0, none⟩) k f ∧ w.grownBy w' (some g) ∧ ∃ q, q ≤ p + 120 ∧ Rd w' g A n cap zs q
theorem SCW.snoc {w wr w2 w3 : World} {g : Nat} {A : Option Addr} {n cap : Nat} {zs : List Int} {p : Nat} {v v' : Value} {k k' : Nat} {f f' : Nat → Wid} (h : SCW w wr g A n cap zs p v k f) (hG : wr.grownBy w2 none)
    (ho : w3.ownsRow w.heap.size 43 4 v' k' (wideL k' f')) (hG' : w2.grownBy w3 v.ownBlock) (hn : v' ≠ .slice none 0 0) : SCW w w3 g A n cap zs p v' k' f' := by
  have h2 := h.on hG
  refine ⟨h2.rd.kept hG' (fun e => ?_) (fun b off hA hn e => ?_), ho, only_row h2.low hG' (fun j e => (World.ownsRow.lt h2.own j e).1), h.sep, hn⟩
  · have := (World.ownsRow.lt h2.own g e.symm).1
    have := h.sep.1
    omega
  · have := (World.ownsRow.lt h2.own b e.symm).1
    have := h.sep.2 b off hA hn
    omega
theorem cells_new4 (w : World) (t : TypeId) (op : ByteArray) (a b k : Int) : ∀ j u, ([.string op, .int .i64 a, .int .i64 b, .int .i64 k] : List Value)[j]? = some u → (w.alloc (.cells #[.string op, .int .i64 a, .int .i64 b, .int .i64 k] t)).cell? ((⟨w.heap.size, 0, none⟩ : Addr).add j) = some u := by
  intro j u h
  rw [Addr.add_lit, Nat.zero_add, World.cell?_alloc_new]
  simpa using h
theorem one_cells4 (op : ByteArray) (a b k : Int) : ∀ u ∈ ([.string op, .int .i64 a, .int .i64 b, .int .i64 k] : List Value), u.oneCell' = true := by
  intro u hu
  simp only [List.mem_cons, List.not_mem_nil, or_false] at hu
  rcases hu with rfl | rfl | rfl | rfl <;> rfl
end Go.Proofs.YtehjfnfpebdidaaDoor
