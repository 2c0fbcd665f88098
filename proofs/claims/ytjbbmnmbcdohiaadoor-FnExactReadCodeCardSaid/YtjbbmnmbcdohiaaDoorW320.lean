/- ReadInstr's exact law, walked; and the row's builder where the row lists variables and the world's shape is asked. -/
import Derived.Test.YtjbbmnmbcdohiaaDoorW319
import Derived.Test.YtjbbmnmbcdohiaaDoorW14
import Derived.Handed
namespace Go.Proofs.YtjbbmnmbcdohiaaDoor
open Go.ChangeShapes Go.WideShapes Go.ChangeAt Go.WideMaps Go.WideElems Go.RowKit
set_option linter.unusedSimpArgs false
set_option maxRecDepth 100000 in
set_option maxHeartbeats 4000000 in
theorem exactReadInstr_walk (s : List UInt8) (w : World) (hy : LY w) (hs : (tx s).size ≤ 9223372036854775807) :
    Calls Tryd.prog 7 #[.string (tx s)] w fun e w' => e = .returned (.bool true) ∧ Below w.heap.size w w' := by
  have hz := tx_size s
  have HY := shade hy
  clear hy
  by_cases hbig : 1048576 < s.length
  · have hb1 : (1048576 : Int) < (s.length : Int) := by omega
    clear hbig
    go_enter Tryd.func7, Tryd.ntmps7
    go_wp2_with fail
    go_ret
    exact ⟨rfl, below_of_grown (grown_refl _ _)⟩
  · have hb1 : ¬ (1048576 : Int) < (s.length : Int) := by omega
    have HS := shade (fun W => SpecReadInstr_is s W (by omega))
    have HI := shade (fun W hW => ReadInstr_is s W (by omega) hW)
    clear hbig
    go_enter Tryd.func7, Tryd.ntmps7
    go_wp2_with fail
    refine (HS.out _).mono ?_
    rintro e w1 ⟨op, d, a, b, k, ok, rfl, hR, hg1⟩
    have HR := shade hR
    have hg2 := grown_same hg1 (World.grownBy_alloc w1 (.cells #[.string op, .int .i64 d, .int .i64 a, .int .i64 b, .int .i64 k] 24) none)
    have HG2 := shade hg2
    have HY2 := shade (HY.out.on hg2)
    have HB := shade (Holds5.fresh w1 24 #[.string op, .int .i64 d, .int .i64 a, .int .i64 b, .int .i64 k])
    clear hR hg1 hg2 HS HY
    go_wp2_with fail
    refine (HI.out _ HY2.out).mono ?_
    rintro e w3 ⟨op', d', a', b', k', ok', rfl, hR', hg3⟩
    obtain ⟨rfl, rfl, rfl, rfl, rfl, rfl⟩ := RIv.det HR.out hR'
    have HB3 := shade ((HB.out.grown hg3 (by simp)).alloc (.cells #[.string op, .int .i64 d, .int .i64 a, .int .i64 b, .int .i64 k] 24))
    have HG3 := shade (grown_same (grown_same HG2.out hg3) (World.grownBy_alloc w3 (.cells #[.string op, .int .i64 d, .int .i64 a, .int .i64 b, .int .i64 k] 24) none))
    have q0 := HB3.out.look 0; have q1 := HB3.out.look 1; have q2 := HB3.out.look 2; have q3 := HB3.out.look 3; have q4 := HB3.out.look 4
    simp at q0 q1 q2 q3 q4
    clear hR' hg3 HI HY2 HG2 HB HR
    go_wp2_with fail
    refine (eqInstr_same op d a b k _).mono ?_
    rintro e w4 ⟨rfl, o1, o2, hw⟩
    have hg4 := grown_same HG3.out (grown_same (World.grownBy_alloc _ o1 none) (World.grownBy_alloc _ o2 none))
    rw [hw] at hg4
    have HG4 := shade hg4
    clear hg4 hw HG3 HB3 q0 q1 q2 q3 q4
    cases ok with
    | false =>
      go_wp2_with fail
      go_ret
      exact ⟨rfl, below_of_grown HG4.out⟩
    | true =>
      go_wp2_with fail
      go_ret
      exact ⟨rfl, below_of_grown HG4.out⟩
/-- What the call finds laid, out of the row's list and the world's shape. -/
theorem ly_of {W : World} (h : laidMetH Tryd.prog LD W) (hs : W.ShapedOpen Tryd.prog) : LY W :=
  ⟨wt_of_var (var_of_laid h), pow_of_laid h, errs_of_laid h, cell_of_shapedOpen_int (zero := #[.int .i64 0]) (t := 3) hs (of_decide_eq_true (by kernel_rfl)) (by kernel_rfl) rfl (by kernel_rfl) (by kernel_rfl) Tryd.underlying3⟩
/-- A row that lists variables, its contract handed the world's shape besides. -/
theorem returns_listed {H : Type} {enc : TypeId × Value → H} {C : Checked} {os : Os} {f : FuncId} {fn : Func} {s : ChangeSpec} {apart fresh handsOn again : Bool} {laid : List (String × DataW Unit)}
    (own : ownKnob C.prog.godebug = none) (started : os.Started) (noInit : C.prog.inits.idxOf? f = none) (hfn : C.prog.funcs[f]? = some fn)
    (witness : ∃ (w : World) (tape : Tape) (i : Input), w.os = os ∧ (w.forCall tape i).Shaped C.prog ∧ i.vars = [] ∧ Input.okWide C.prog (w.forCall tape i) .any w.heap.size f i ∧
      ((s.pre enc C.prog fn [] apart (w.forCall tape i).memory i.args ∧ laidMetH C.prog laid (w.forCall tape i).memory) ∧ sizedMet enc C.prog fn (OpenSpec.ofChange s) apart (w.forCall tape i).memory i.args) ∧ ({} : Assume).holds C.prog (lone (Frame.enter C.prog f i.args .normal) [] (w.forCall tape i)))
    (contract : ∀ (W : World) (base : Nat) (args : Array Value) (ds gs : List (DataW H)) (before : List MemPlace),
      (∀ (j : Nat) t v, fn.params[j]? = some t → args[j]? = some v → Value.okWide C.prog W .any base t v) →
      DataW.Whole enc C.prog fn.params.toList s.vars apart W args.toList ds gs before → laidMetH C.prog laid W → W.ShapedOpen C.prog →
      Calls C.prog f args W fun e W' => ∃ v, e = .returned v ∧ s.post enc C.prog fn apart fresh handsOn again W args v W') :
    ReturnsInHanded {} C os f .any (fun w args => (s.pre enc C.prog fn [] apart w args ∧ laidMetH C.prog laid w) ∧ sizedMet enc C.prog fn (OpenSpec.ofChange s) apart w args) (s.post enc C.prog fn apart fresh handsOn again) := by
  refine returnsInHanded_of_calls own started noInit witness fun w tape i _ hsh _ hok hpre _ => ?_
  obtain ⟨_, _, _, fn', hfn', _, _, _, _, hval⟩ := hok
  cases Option.some.inj (hfn'.symm.trans hfn)
  obtain ⟨⟨⟨ds, gs, before, hw, _⟩, hx⟩, _⟩ := hpre
  refine (contract (w.forCall tape i) w.heap.size i.args ds gs before hval (DataW.Whole.of_heap (w' := w.forCall tape i) (by rfl) hw) (hx.of_heap (by rfl)) hsh).mono ?_
  rintro e W' ⟨v, rfl, hp⟩
  exact ChangeSpec.post_blind hp
end Go.Proofs.YtjbbmnmbcdohiaaDoor
