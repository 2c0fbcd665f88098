/- An append, guarded, whose old row is kept by all that keeps the new one and leaves what is below. -/
import Derived.Test.YtfckmechiochlaaDoorW914
import Derived.Test.YtfckmechiochlaaDoorW829
namespace Go.Proofs.YtfckmechiochlaaDoor
open Go.RowKit
set_option linter.unusedSimpArgs false
/-- What an append leaves for later: the new row, and the old one as long as the new one stands. -/
def Kept (w : World) (base : Nat) (e : TypeId) (size : Nat) (v : Value) (n : Nat) (xs : List Value) (v' : Value) (n' : Nat) (xs' : List Value) (w' : World) : Prop :=
  ∃ B', base ≤ B' ∧ B' ≤ w'.heap.size ∧ w'.ownsRow B' e size v' n' xs' ∧ Below base w w' ∧ ∀ W, W.ownsRow B' e size v' n' xs' → Below B' w' W → W.ownsRow base e size v n xs
theorem below_of_row {w w' : World} {base : Nat} {row : Option Nat} (h : w.grownBy w' row) (hb : base ≤ w.heap.size) (hr : ∀ b, row = some b → base ≤ b) : Below base w w' :=
  ⟨h.os, h.tape, h.output, h.size, fun k hk => h.block k (by omega) (fun e => by
    have := hr k e.symm
    omega)⟩
theorem wp_append_keep {P : Program} {w : World} {o : Oper} {a : Act} {K : Act → World → Prop} {Q : Exit → Act → World → Prop} (s x : Operand) (t : TypeId)
    (ho : o.op = .call { callee := .builtin .append, args := #[s, x], argTypes := #[t, t] })
    (base : Nat) (e : TypeId) (i : TypeInfo) (z : Value) (size bytes : Nat) (ht : P.underlying t = some (.slice e)) (hi : P.info? e = some i) (hz : i.zero = some z)
    (hsize : i.size = size) (hby : i.bytes = bytes) (hzs : z.cells.size = size) (hsz : 0 < size)
    (v : Value) (n : Nat) (xs : List Value) (hs : a.eval s = v) (hown : w.ownsRow base e size v n xs)
    (ad : Addr) (m c : Nat) (news : List Value) (hx : a.eval x = .slice (some ad) m c) (hl : news.length = m * size) (hnews : ∀ j u, news[j]? = some u → w.cell? (ad.add j) = some u) (h1 : ∀ u ∈ news, u.oneCell' = true)
    (hm : 0 < m) (h63 : n + m ≤ maxLen) (hbytes : (n + m) * bytes ≤ 140737488355328) (hbase : base ≤ w.heap.size)
    (h : ∀ v' w', Kept w base e size v n xs v' (n + m) (xs ++ news) w' → K (a.put o.dst v') w') : o.wp P a w K Q := by
  have grows : ∀ (ao : Option Addr) (cap : Nat), v = .slice ao n cap → (ao = none → n = 0 ∧ cap = 0) → (∀ b, ao = some b → ∀ j u, xs[j]? = some u → w.cell? (b.add j) = some u) → cap < n + m → o.wp P a w K Q := by
    intro ao cap hv hnone hcells hfull
    subst hv
    have hst := step_append_grows (P := P) (ops := #[]) (o := { o with guard := none }) (a := a) (w := w) (K := K) (Q := Q) (E := True) rfl s x t ho e i z size bytes ht hi hz hsize hby hzs hsz ao n cap xs hs hnone hown.1 hcells ad m c news hx hl hnews h1 hfull h63 hbytes (fun v' w' h2 h3 => h v' w' ?_)
    · have hw : Region.wanted ({ o with guard := none } : Oper) (yielded #[] a.tmps) = true := by simp [Region.wanted]
      rw [if_pos hw] at hst
      exact hst
    · refine ⟨w.heap.size, hbase, h3.size, h2, below_of_row h3 hbase (by intro _ e; cases e), fun W hW hb => ?_⟩
      rcases hown.2 with ⟨e1, e2⟩ | ⟨g, cap', cur, e1, hg, hc, hrest⟩
      · exact ⟨hown.1, .inl ⟨e1, e2⟩⟩
      · have hlt : g < w.heap.size := (World.ownsRow.lt hown g (by rw [e1]; rfl)).2
        exact ⟨hown.1, .inr ⟨g, cap', cur, e1, hg, by rw [hb.block g hlt, h3.block g hlt (by simp), hc], hrest⟩⟩
  rcases hown.2 with ⟨e1, e2⟩ | ⟨g, cap, cur, e1, hg, hc, hnc, hcm, hcs, htake⟩
  · subst e2
    refine grows none 0 e1 (fun _ => ⟨rfl, rfl⟩) (by intro _ e; cases e) (by omega)
  · by_cases hroom : n + m ≤ cap
    · subst e1
      refine wp_append_own_spare w s x t ho base e i size ht hi hsize g n cap xs hs hown ad m c news hx hl hnews h1 hroom fun w' h2 h3 => h _ w' ⟨base, Nat.le_refl _, Nat.le_trans hbase h3.size, h2, below_of_row h3 hbase (by intro b e; injection e with e; omega), fun W hW _ => ?_⟩
      rcases hW.2 with ⟨e1, _⟩ | ⟨g2, cap2, cur2, e1, hg2, hc2, hnc2, hcm2, hcs2, htake2⟩
      · injection e1 with e1
        cases e1
      · refine ⟨hown.1, .inr ⟨g2, cap2, cur2, ?_, hg2, hc2, by omega, hcm2, hcs2, ?_⟩⟩
        · injection e1 with e1 e2 e3
          injection e1 with e1
          injection e1 with e1
          subst e1
          subst e3
          rfl
        · have hx1 := hown.1
          have h5 : cur2.toList.take (n * size) = (cur2.toList.take ((n + m) * size)).take (n * size) := by
            rw [List.take_take, Nat.min_eq_left (Nat.mul_le_mul_right size (by omega))]
          rw [h5, htake2, ← hx1, List.take_left]
    · exact grows (some ⟨g, 0, none⟩) cap e1 (by intro e; cases e) (fun b hb j u hu => by
        injection hb with hb
        subst hb
        exact World.ownsRow.cells hown (g := g) (by rw [e1]; rfl) j u hu) (by omega)
theorem wpList_append_keep {P : Program} {w : World} {ops : Array Oper} {rest : List Oper} {o : Oper} {a : Act} {Q : Exit → Act → World → Prop} (hgd : Region.wanted o (yielded ops a.tmps) = true) (s x : Operand) (t : TypeId)
    (ho : o.op = .call { callee := .builtin .append, args := #[s, x], argTypes := #[t, t] })
    (base : Nat) (e : TypeId) (i : TypeInfo) (z : Value) (size bytes : Nat) (ht : P.underlying t = some (.slice e)) (hi : P.info? e = some i) (hz : i.zero = some z)
    (hsize : i.size = size) (hby : i.bytes = bytes) (hzs : z.cells.size = size) (hsz : 0 < size)
    (v : Value) (n : Nat) (xs : List Value) (hs : a.eval s = v) (hown : w.ownsRow base e size v n xs)
    (ad : Addr) (m c : Nat) (news : List Value) (hx : a.eval x = .slice (some ad) m c) (hl : news.length = m * size) (hnews : ∀ j u, news[j]? = some u → w.cell? (ad.add j) = some u) (h1 : ∀ u ∈ news, u.oneCell' = true)
    (hm : 0 < m) (h63 : n + m ≤ maxLen) (hbytes : (n + m) * bytes ≤ 140737488355328) (hbase : base ≤ w.heap.size)
    (h : ∀ v' w', Kept w base e size v n xs v' (n + m) (xs ++ news) w' → wpList P ops Q rest (a.put o.dst v') w') : wpList P ops Q (o :: rest) a w :=
  wpList_wanted hgd fun _ hK => wp_append_keep s x t ho base e i z size bytes ht hi hz hsize hby hzs hsz v n xs hs hown ad m c news hx hl hnews h1 hm h63 hbytes hbase fun v' w' h2 => hK _ _ (h v' w' h2)
end Go.Proofs.YtfckmechiochlaaDoor
