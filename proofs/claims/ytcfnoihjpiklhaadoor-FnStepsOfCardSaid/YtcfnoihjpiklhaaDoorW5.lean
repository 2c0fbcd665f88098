/- The listed variable holds its ten words when the call begins, as the row's condition says; and the form of the row's post where nothing that was there has changed. -/
import Derived.Test.YtcfnoihjpiklhaaDoorRows
import Derived.Test.YtcfnoihjpiklhaaDoorW1
import Derived.ProofKit
import Derived.LaidMore
import Derived.OpenShut
import Derived.Stop.Joined
namespace Go.Proofs.YtcfnoihjpiklhaaDoor
open Go.ChangeShapes Go.WideShapes Go.ChangeAt Go.WideMaps Go.WideElems Go.RowKit

theorem own : ownKnob Tryd.prog.godebug = none := by kernel_rfl
theorem gWT : Tryd.prog.globalNamed "loop.example/smallmachines/impl.wordTexts" = some 0 := by kernel_rfl
theorem tWT : (Tryd.prog.globals[0]?).map (·.type) = some 87 := by kernel_rfl
theorem laidOut : laidOutB Tryd.prog = true := by kernel_rfl
/-- What the listed variable holds. -/
abbrev LD : List (String × DataW Unit) := [("loop.example/smallmachines/impl.wordTexts", Rows.laid_loop_example_smallmachines_impl_wordTexts)]
theorem door_met (os : Os) (args : Array Value) : laidMetH Tryd.prog LD ((World.doorLaid Tryd.prog 400 os).forCall (fun _ _ => 0) ⟨#[], args, []⟩).memory :=
  laidMetH_of_parts3 (fuel := 8) (laidMet_of_run' 8 (by kernel_rfl) (by kernel_rfl)) (by kernel_rfl) (by kernel_rfl)
theorem bytes_of {s : ByteArray} {l : List UInt8} (h : s.data.toList = l) : s = ⟨l.toArray⟩ := by
  subst h
  obtain ⟨d⟩ := s
  simp
set_option maxRecDepth 100000 in
theorem var_of_laid {W : World} (h : laidMetH Tryd.prog LD W) : W.var? Tryd.prog "loop.example/smallmachines/impl.wordTexts" = some wtCells := by
  rw [MakeChecks.laidMetH_plain _ _ _ (by kernel_rfl)] at h
  obtain ⟨ps, ⟨g, t, cs, fuel, p, q, hg, ht, hv, hd, _, _⟩, _⟩ := h
  obtain rfl := Option.some.inj (gWT.symm.trans hg)
  obtain rfl := Option.some.inj (tWT.symm.trans ht)
  rw [hv]
  congr 1
  obtain ⟨xs, m, rfl, hx, hlen, hn, hel⟩ := DataW.trod_array Tryd.underlying87 hd
  have c1 : Tryd.prog.cellsOf 9 = 1 := by kernel_rfl
  have c10 : Tryd.prog.cellsOf 87 = 10 := by kernel_rfl
  rw [c10] at hlen
  rw [c1] at hel
  obtain ⟨l⟩ := cs
  simp only [] at hlen hel
  match l, hlen, xs, hn with
  | [a0, a1, a2, a3, a4, a5, a6, a7, a8, a9], _, [x0, x1, x2, x3, x4, x5, x6, x7, x8, x9], _ =>
    obtain ⟨s0, e0, f0, _⟩ := DataW.trod_string Tryd.underlying9 (hel 0 (by decide))
    obtain ⟨s1, e1, f1, _⟩ := DataW.trod_string Tryd.underlying9 (hel 1 (by decide))
    obtain ⟨s2, e2, f2, _⟩ := DataW.trod_string Tryd.underlying9 (hel 2 (by decide))
    obtain ⟨s3, e3, f3, _⟩ := DataW.trod_string Tryd.underlying9 (hel 3 (by decide))
    obtain ⟨s4, e4, f4, _⟩ := DataW.trod_string Tryd.underlying9 (hel 4 (by decide))
    obtain ⟨s5, e5, f5, _⟩ := DataW.trod_string Tryd.underlying9 (hel 5 (by decide))
    obtain ⟨s6, e6, f6, _⟩ := DataW.trod_string Tryd.underlying9 (hel 6 (by decide))
    obtain ⟨s7, e7, f7, _⟩ := DataW.trod_string Tryd.underlying9 (hel 7 (by decide))
    obtain ⟨s8, e8, f8, _⟩ := DataW.trod_string Tryd.underlying9 (hel 8 (by decide))
    obtain ⟨s9, e9, f9, _⟩ := DataW.trod_string Tryd.underlying9 (hel 9 (by decide))
    simp at e0 e1 e2 e3 e4 e5 e6 e7 e8 e9 f0 f1 f2 f3 f4 f5 f6 f7 f8 f9
    subst e0 e1 e2 e3 e4 e5 e6 e7 e8 e9 f0 f1 f2 f3 f4 f5 f6 f7 f8 f9
    simp [Rows.laid_loop_example_smallmachines_impl_wordTexts] at hx
    obtain ⟨⟨h0, h1, h2, h3, h4, h5, h6, h7, h8, h9⟩, _⟩ := hx
    rw [bytes_of h0.symm, bytes_of h1.symm, bytes_of h2.symm, bytes_of h3.symm, bytes_of h4.symm, bytes_of h5.symm, bytes_of h6.symm, bytes_of h7.symm, bytes_of h8.symm, bytes_of h9.symm]
    rfl
theorem wt_of_var {W : World} (h : W.var? Tryd.prog "loop.example/smallmachines/impl.wordTexts" = some wtCells) : WT W := by
  simp only [World.var?, gWT, Option.bind_some] at h
  split at h
  · rename_i c t fr hb
    simp only [Option.some.injEq] at h
    subst h
    exact ⟨t, fr, hb⟩
  · cases h
theorem var_of_wt {W : World} (h : WT W) : W.var? Tryd.prog "loop.example/smallmachines/impl.wordTexts" = some wtCells := by
  obtain ⟨t, fr, hb⟩ := h
  simp only [World.var?, gWT, Option.bind_some, hb]
/-- The table as data. -/
abbrev tableH {H : Type} : DataW H := .agg [.lit (.string [115, 101, 116]), .lit (.string [97, 100, 100]), .lit (.string [115, 117, 98]), .lit (.string [109, 117, 108]), .lit (.string [108, 116]), .lit (.string [108, 100]), .lit (.string [115, 116]), .lit (.string [98, 122]), .lit (.string [106, 109, 112]), .lit (.string [104, 108, 116])]
theorem reads_table {H : Type} (enc : TypeId × Value → H) (W : World) (sp : Nat → Bool) : DataW.trod enc Tryd.prog W 0 sp true 3 87 wtCells.toList = some (tableH, []) := by kernel_rfl
/-- The row's post where nothing that was there has changed. -/
theorem post_off {H : Type} {enc : TypeId × Value → H} {P : Program} {f : Func} {s : ChangeSpec} {apart fresh handsOn : Bool} {W W' : World} {args : Array Value} {v : Value} {ds gs : List (DataW H)} {before pa pv : List MemPlace}
    (hW : DataW.Whole enc P f.params.toList s.vars apart W args.toList ds gs before)
    (hres : ∀ (b : Nat) (sp : Nat → Bool) (hd : Bool), DataW.TrodAll enc P W' b sp hd f.resultTypes.toList (v.resultList f.resultTypes.size) (s.fn H (ds ++ gs)).results [])
    (hargs : DataW.TrodAll enc P W' 0 (fun b => decide (b < W.heap.size)) true f.params.toList args.toList (s.fn H (ds ++ gs)).args pa)
    (hvars : DataW.TrodVars enc P W' (fun b => decide (b < W.heap.size)) s.vars (s.fn H (ds ++ gs)).vars pv)
    (hps : before = pa ++ pv) (hb : Below W.heap.size W W') : s.post enc P f apart fresh handsOn false W args v W' := by
  refine ⟨ds, gs, before, [], pa, pv, hW, hres _ _ _, hargs, hvars, World.keptBut_mono (fun p hp => ⟨hp, ?_⟩) (hb.frame (· ∈ before)), fun h => by cases h⟩
  rw [hps, List.mem_append] at hp
  exact Or.inr hp
end Go.Proofs.YtcfnoihjpiklhaaDoor
