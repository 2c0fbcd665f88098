/- Appending to a row of numbers in the midst of a drawn region: in place, or to a new block with all else as it was. -/
import Derived.Test.YtehjfnfpebdidaaDoorW805
import Derived.Deep.RegionLawGrows
import Derived.Deep.DeepAppendRoom
namespace Go.Proofs.YtehjfnfpebdidaaDoor
open Go.RowKit
set_option linter.unusedSimpArgs false
theorem step_append_at {P : Program} {w : World} {ops : Array Oper} {o : Oper} {a : Act} {K : Act → World → Prop} {Q : Exit → Act → World → Prop} {E : Prop} (hgd : o.guard = none) (s x : Operand) (t : TypeId)
    (ho : o.op = .call { callee := .builtin .append, args := #[s, x], argTypes := #[t, t] })
    (base : Nat) (e : TypeId) (i : TypeInfo) (z : Value) (size bytes : Nat) (ht : P.underlying t = some (.slice e)) (hi : P.info? e = some i) (hz : i.zero = some z)
    (hsize : i.size = size) (hby : i.bytes = bytes) (hzs : z.cells.size = size) (hsz : 0 < size)
    (g n cap : Nat) (xs : List Value) (hs : a.eval s = .slice (some ⟨g, 0, none⟩) n cap) (hown : w.ownsRow base e size (.slice (some ⟨g, 0, none⟩) n cap) n xs)
    (ad : Addr) (m c : Nat) (news : List Value) (hx : a.eval x = .slice (some ad) m c) (hl : news.length = m * size) (hnews : ∀ j u, news[j]? = some u → w.cell? (ad.add j) = some u) (h1 : ∀ u ∈ news, u.oneCell' = true)
    (hm : 0 < m) (h63 : n + m ≤ maxLen) (hbytes : (n + m) * bytes ≤ 140737488355328) (hbase : base ≤ w.heap.size)
    (h : ∀ g' cap' w', w'.ownsRow base e size (.slice (some ⟨g', 0, none⟩) (n + m) cap') (n + m) (xs ++ news) → (w.grownBy w' none ∨ (g' = g ∧ w.grownBy w' (some g))) → K (a.put o.dst (.slice (some ⟨g', 0, none⟩) (n + m) cap')) w') :
    if Region.wanted o (yielded ops a.tmps) = true then Oper.wp P o a w K Q else E := by
  by_cases hroom : n + m ≤ cap
  · have hw : Region.wanted o (yielded ops a.tmps) = true := by simp [Region.wanted, hgd]
    rw [if_pos hw]
    exact wp_append_own_spare w s x t ho base e i size ht hi hsize g n cap xs hs hown ad m c news hx hl hnews h1 hroom fun w' h2 h3 => h g cap w' h2 (.inr ⟨rfl, h3⟩)
  · refine step_append_grows hgd s x t ho e i z size bytes ht hi hz hsize hby hzs hsz (some ⟨g, 0, none⟩) n cap xs hs (fun e => by cases e) hown.1 (fun b hb j u hu => ?_) ad m c news hx hl hnews h1 (by omega) h63 hbytes (fun v' w' h2 h3 => ?_)
    · injection hb with hb
      subst hb
      exact World.ownsRow.cells hown (g := g) rfl j u hu
    · rcases h2.2 with ⟨_, h0⟩ | ⟨g', cap', cur, rfl, hb, hg, hrest⟩
      · omega
      · exact h g' cap' w' ⟨h2.1, .inr ⟨g', cap', cur, rfl, Nat.le_trans hbase hb, hg, hrest⟩⟩ (.inl h3)
/-- Where an append comes up in a drawn region: it passes there alone. -/
theorem at_append {P : Program} {w : World} {d : Option Nat} {args : Array Operand} {tys : Array TypeId} {ty : TypeId} {p : String} {af : Array Edge} {gd : Option (Nat × Bool)} {ys : Nat → Option Bool} {a : Act} {K : Act → World → Prop} {Q : Exit → Act → World → Prop} {E : Prop}
    (h : if Region.wanted (⟨d, .call { callee := .builtin .append, args := args, argTypes := tys }, ty, p, af, gd⟩ : Oper) ys = true then Oper.wp P ⟨d, .call { callee := .builtin .append, args := args, argTypes := tys }, ty, p, af, gd⟩ a w K Q else E) :
    if Region.wanted (⟨d, .call { callee := .builtin .append, args := args, argTypes := tys }, ty, p, af, gd⟩ : Oper) ys = true then Oper.wp P ⟨d, .call { callee := .builtin .append, args := args, argTypes := tys }, ty, p, af, gd⟩ a w K Q else E := h
end Go.Proofs.YtehjfnfpebdidaaDoor
