/- NarrowCode, by the model; an instruction in place of a wide one, by the program. -/
import Derived.Test.YtjjjgjnhiffpnaaDoorW880
import Derived.Test.YtjjjgjnhiffpnaaDoorW862
namespace Go.Proofs.YtjjjgjnhiffpnaaDoor
open Go.RowKit
set_option linter.unusedSimpArgs false
/-- Are the arguments valid, and four registers enough? -/
def okN (n : Nat) (F : Nat → Wid) (x : Int) : Bool := vkB n F x && decide (wd (rowW F x.toNat n) n ≤ 4)
/-- How many instructions there are. -/
def nN (n : Nat) (F : Nat → Wid) (x : Int) : Nat := if okN n F x then n else 0
/-- What NarrowCode leaves. -/
def NarRes (k : Nat) (ok : Bool) (f : Nat → Ins) (w : World) (e : Ending) (w' : World) : Prop :=
  ∃ v, e = .returned (.tuple #[v, .bool ok]) ∧ w'.ownsRow w.heap.size 77 5 v k (codeL k f) ∧ w.grownBy w' none
theorem narrow_zero (A Ap : Option Addr) (c cp : Nat) (f : Nat → Ins) (w : World) : Calls Tryd.prog 70 #[.slice A 0 c, .slice Ap 0 cp] w (CodeRes 0 f w) := by
  have HO0 := shade (World.ownsRow_lit (base := w.heap.size) (e := 77) (size := 5) w #[] 0 (by omega) (by decide) rfl)
  go_enter Tryd.func70, Tryd.ntmps70
  go_wp2
  refine wp_loop_rounds 1 ?_
  rw [rounds_succ]
  go_wp2
  go_ret
  exact ⟨_, rfl, HO0.out, World.grownBy_alloc _ _ _⟩
theorem narrow_any (A : Option Addr) (n c : Nat) (F : Nat → Wid) (Ap : Option Addr) (cp : Nat) (p : Nat → Nat) (w : World) (hv : vwB n F = true) (h : Wds w A n F) (hp : Nums w Ap n (fun j => (p j : Int))) :
    Calls Tryd.prog 70 #[.slice A n c, .slice Ap n cp] w (CodeRes n (nrI F p) w) := by
  by_cases h0 : n = 0
  · subst h0
    exact narrow_zero A Ap c cp _ w
  · obtain ⟨b, off, rfl, -⟩ := h.resolve_left h0
    exact narrow_at b off n c F Ap cp p w hv h hp
set_option maxRecDepth 100000 in
set_option maxHeartbeats 8000000 in
theorem SpecNarrowCode_any (A : Option Addr) (n c : Nat) (x : Int) (F : Nat → Wid) (w : World) (hn : n ≤ 9223372036854775807) (h : Wds w A n F) :
    Calls Tryd.prog 34 #[.slice A n c, .int .i64 x] w (NarRes (nN n F x) (okN n F x) (nrI F (plW F x.toNat n)) w) := by
  have HK := shade (validKept_any A n c x F w hn h)
  unfold nN okN
  rcases hv : vkB n F x with _ | _
  · rw [hv] at HK
    clear h hv
    go_enter Tryd.func34, Tryd.ntmps34
    go_wp2_with fail
    refine HK.out.mono ?_
    rintro e w1 ⟨rfl, hg1⟩
    have HG1 := shade hg1
    clear hg1 HK
    go_wp2
    go_ret2
    exact ⟨_, rfl, World.ownsRow_nil _ _ _ _, HG1.out⟩
  · obtain ⟨h1, y, rfl, hy⟩ := vkB_iff.1 hv
    have HWD := shade (fun W (hg : w.grownBy W none) => width_yes A n c y F W h1 hy (h.on hg))
    have HPL := shade (fun W (hg : w.grownBy W none) => placesFor_yes A n c y F W h1 hy (h.on hg))
    have HNR := shade (fun W Ap cp (hg : w.grownBy W none) hp => narrow_any A n c F Ap cp (plW F y n) W h1 (h.on hg) hp)
    rw [hv] at HK
    rw [Int.toNat_natCast, Bool.true_and]
    clear h hv h1 hy
    generalize wd (rowW F y n) n = d at *
    by_cases hd : d ≤ 4
    · have hd1 : (d : Int) ≤ 4 := by omega
      rw [decide_eq_true hd]
      clear hd
      go_enter Tryd.func34, Tryd.ntmps34
      go_wp2_with fail
      refine HK.out.mono ?_
      rintro e w1 ⟨rfl, hg1⟩
      have HG1 := shade hg1
      clear hg1 HK
      go_wp2_with fail
      refine (HWD.out _ HG1.out).mono ?_
      rintro e w2 ⟨rfl, hg2⟩
      have HG2 := shade (grown_same HG1.out hg2)
      clear hg2 HWD
      go_wp2_with fail
      refine (HPL.out _ HG2.out).mono ?_
      rintro e w3 ⟨v, rfl, ho3, hg3⟩
      obtain ⟨A4, c4, rfl, -⟩ := ownsRow_slice ho3
      have HG3 := shade (grown_same HG2.out hg3)
      have HN3 := shade (rowT_cell ho3)
      clear hg3 ho3 HPL
      go_wp2_with fail
      refine (HNR.out _ _ _ HG3.out HN3.out).mono ?_
      rintro e w4 h4
      obtain ⟨v4, rfl, ho4, hg4⟩ := CodeRes.after HG3.out h4
      have HO4 := shade ho4
      have HG4 := shade hg4
      clear ho4 hg4 h4
      obtain ⟨A6, c6, rfl, -⟩ := ownsRow_slice HO4.out
      go_wp2
      go_ret2
      exact ⟨_, rfl, HO4.out, HG4.out⟩
    · have hd1 : (4 : Int) < (d : Int) := by omega
      rw [decide_eq_false hd]
      clear hd
      go_enter Tryd.func34, Tryd.ntmps34
      go_wp2_with fail
      refine HK.out.mono ?_
      rintro e w1 ⟨rfl, hg1⟩
      have HG1 := shade hg1
      clear hg1 HK
      go_wp2_with fail
      refine (HWD.out _ HG1.out).mono ?_
      rintro e w2 ⟨rfl, hg2⟩
      have HG2 := shade (grown_same HG1.out hg2)
      clear hg2 HWD
      go_wp2
      go_ret2
      exact ⟨_, rfl, World.ownsRow_nil _ _ _ _, HG2.out⟩
/-- What lies in a cell. -/
def cellV (W : World) (a : Addr) : Value := (W.cell? a).getD undef
theorem cellV_is {W : World} {a : Addr} {v : Value} (h : W.cell? a = some v) : W.cell? a = some (cellV W a) := by
  unfold cellV
  rw [h]
  rfl
/-- What is read and written where an instruction takes the place of a wide one. -/
structure NI (B bp o1 o2 : Nat) (op : ByteArray) (a b tp pa pb : Int) (W : World) : Prop where
  box : Holds5 W B 51 #[.string op, .int .i64 a, .int .i64 b, .int .i64 0]
  ins : ∃ y2 y3, Holds5 W (B + 1 + 1) 77 #[.string op, .int .i64 tp, y2, y3, .int .i64 0]
  pa : W.cell? ⟨bp, o1, none⟩ = some (.int .i64 pa)
  pb : W.cell? ⟨bp, o2, none⟩ = some (.int .i64 pb)
  lt : bp < B
section
variable {B bp o1 o2 : Nat} {op : ByteArray} {a b tp pa pb : Int} {W : World}
theorem NI.drew (h : NI B bp o1 o2 op a b tp pa pb W) : NI B bp o1 o2 op a b tp pa pb W.drew := ⟨h.box, h.ins, h.pa, h.pb, h.lt⟩
theorem NI.put2 (h : NI B bp o1 o2 op a b tp pa pb W) (v : Value) : NI B bp o1 o2 op a b tp pa pb (W.setCell ⟨B + 1 + 1, 2, none⟩ v) := by
  have hl := h.lt
  obtain ⟨y2, y3, hi⟩ := h.ins
  have h2 := hi.put 2 v
  simp at h2
  refine ⟨h.box.other (by show B ≠ B + 1 + 1; omega) v, ⟨_, _, h2⟩, ?_, ?_, h.lt⟩
  · exact (grown_set (B + 1 + 1) 2 v).cell h.pa (by simp; omega)
  · exact (grown_set (B + 1 + 1) 2 v).cell h.pb (by simp; omega)
theorem NI.put3 (h : NI B bp o1 o2 op a b tp pa pb W) (v : Value) : NI B bp o1 o2 op a b tp pa pb (W.setCell ⟨B + 1 + 1, 3, none⟩ v) := by
  have hl := h.lt
  obtain ⟨y2, y3, hi⟩ := h.ins
  have h2 := hi.put 3 v
  simp at h2
  refine ⟨h.box.other (by show B ≠ B + 1 + 1; omega) v, ⟨_, _, h2⟩, ?_, ?_, h.lt⟩
  · exact (grown_set (B + 1 + 1) 3 v).cell h.pa (by simp; omega)
  · exact (grown_set (B + 1 + 1) 3 v).cell h.pb (by simp; omega)
theorem NI.cells (h : NI B bp o1 o2 op a b tp pa pb W) : W.cell? ⟨B, 1, none⟩ = some (.int .i64 a) ∧ W.cell? ⟨B, 2, none⟩ = some (.int .i64 b) ∧ W.cell? ⟨bp, o1, none⟩ = some (.int .i64 pa) ∧ W.cell? ⟨bp, o2, none⟩ = some (.int .i64 pb) ∧ W.cell? ⟨B + 1 + 1, 2, none⟩ = some (cellV W ⟨B + 1 + 1, 2, none⟩) ∧ W.cell? ⟨B + 1 + 1, 3, none⟩ = some (cellV W ⟨B + 1 + 1, 3, none⟩) ∧ W.frozen? ⟨B + 1 + 1, 2, none⟩ = false ∧ W.frozen? ⟨B + 1 + 1, 3, none⟩ = false := by
  obtain ⟨y2, y3, hi⟩ := h.ins
  exact ⟨h.box.look 1, h.box.look 2, h.pa, h.pb, cellV_is (hi.look 2), cellV_is (hi.look 3), hi.free 2, hi.free 3⟩
end
attribute [local go_sem ↓] Go.wp_at_zero Go.wp_at_succ
set_option maxRecDepth 100000 in
set_option maxHeartbeats 8000000 in
theorem narrowI_any (op : ByteArray) (a b k : Int) (i tp n cp : Nat) (Ap : Option Addr) (p : Nat → Nat) (w : World) (hw : WT w) (hv : okW i ⟨op, a, b, k⟩ = true) (hi : i < n) (hp : Nums w Ap n (fun j => (p j : Int))) :
    Calls Tryd.prog 72 #[.agg #[.string op, .int .i64 a, .int .i64 b, .int .i64 k], .int .i64 tp, .slice Ap n cp] w fun e w' => e = .returned (if wordN op.toList = 0 then IVal op tp 0 0 k else IVal op tp (p a.toNat : Nat) (p b.toNat : Nat) 0) ∧ Below w.heap.size w w' := by
  have HW := shade (fun W (hW : WT W) => wordOf_any op W hW)
  have HG := shade hw
  have hok := (okW_told op a b k i).symm.trans hv
  rw [decide_eq_true_iff] at hok
  have HP := shade hp
  clear hw hv hp
  by_cases e0 : wordN op.toList = 0
  · rw [if_pos e0]
    rw [e0] at HW
    clear hok e0
    go_enter Tryd.func72, Tryd.ntmps72
    go_wp2_with (first | (go_at_call 56; refine (HW.out _ (((HG.out.alloc _).alloc _).alloc _)).mono ?_; rintro e w' ⟨rfl, rfl⟩) | go_in)
    go_returns
    exact ⟨rfl, by go_grown⟩
  · rw [if_neg e0]
    obtain ⟨a, rfl⟩ := Int.eq_ofNat_of_zero_le (show 0 ≤ a by omega)
    obtain ⟨b, rfl⟩ := Int.eq_ofNat_of_zero_le (show 0 ≤ b by omega)
    obtain rfl : k = 0 := by omega
    simp only [Int.toNat_natCast]
    have hne : (wordN op.toList == 0) = false := beq_eq_false_iff_ne.2 e0
    have ha : a < n := by omega
    have hb : b < n := by omega
    obtain ⟨bp, op', rfl, hbl, -⟩ := HP.out.resolve_left (by omega)
    have qa : w.cell? ⟨bp, op' + a, none⟩ = some (Value.int .i64 ((p a : Nat) : Int)) := HP.out.cell ha
    have qb : w.cell? ⟨bp, op' + b, none⟩ = some (Value.int .i64 ((p b : Nat) : Int)) := HP.out.cell hb
    have iA0 : (0 : Int) ≤ (a : Int) := by omega
    have iB0 : (0 : Int) ≤ (b : Int) := by omega
    have iA : (a : Int) < (n : Int) := by omega
    have iB : (b : Int) < (n : Int) := by omega
    clear hok e0
    obtain ⟨pa, hpa⟩ : ∃ pa, p a = pa := ⟨_, rfl⟩
    obtain ⟨pb, hpb⟩ : ∃ pb, p b = pb := ⟨_, rfl⟩
    rw [hpa] at qa
    rw [hpb] at qb
    rw [hpa, hpb]
    clear hpa hpb
    generalize wordN op.toList = m at *
    go_enter Tryd.func72, Tryd.ntmps72
    go_wp2_with (first | (go_at_call 56; refine (HW.out _ (((HG.out.alloc _).alloc _).alloc _)).mono ?_; rintro e w' ⟨rfl, rfl⟩) | go_in)
    have h0 : NI w.heap.size bp (op' + a) (op' + b) op a b tp pa pb (((w.alloc (.cells #[.string op, .int .i64 (a : Int), .int .i64 (b : Int), .int .i64 0] 51)).alloc (.cells #[.string ⟨#[]⟩, .int .i64 0, .int .i64 0, .int .i64 0, .int .i64 0] 77)).alloc (.cells #[.string op, .int .i64 (tp : Int), .int .i64 0, .int .i64 0, .int .i64 0] 77)) := by
      have h2 := Holds5.fresh ((w.alloc (.cells #[.string op, .int .i64 (a : Int), .int .i64 (b : Int), .int .i64 0] 51)).alloc (.cells #[.string ⟨#[]⟩, .int .i64 0, .int .i64 0, .int .i64 0, .int .i64 0] 77)) 77 #[.string op, .int .i64 (tp : Int), .int .i64 0, .int .i64 0, .int .i64 0]
      rw [World.size_alloc, World.size_alloc] at h2
      have hg : w.grownBy (((w.alloc (.cells #[.string op, .int .i64 (a : Int), .int .i64 (b : Int), .int .i64 0] 51)).alloc (.cells #[.string ⟨#[]⟩, .int .i64 0, .int .i64 0, .int .i64 0, .int .i64 0] 77)).alloc (.cells #[.string op, .int .i64 (tp : Int), .int .i64 0, .int .i64 0, .int .i64 0] 77)) none := grown_same (grown_same (World.grownBy_alloc _ _ none) (World.grownBy_alloc _ _ none)) (World.grownBy_alloc _ _ none)
      exact ⟨((Holds5.fresh w _ _).alloc _).alloc _, ⟨_, _, h2⟩, hg.cell qa (by simp), hg.cell qb (by simp), hbl⟩
    have H0 := shade h0
    have hres : Holds5 (((w.alloc (.cells #[.string op, .int .i64 (a : Int), .int .i64 (b : Int), .int .i64 0] 51)).alloc (.cells #[.string ⟨#[]⟩, .int .i64 0, .int .i64 0, .int .i64 0, .int .i64 0] 77)).alloc (.cells #[.string op, .int .i64 (tp : Int), .int .i64 0, .int .i64 0, .int .i64 0] 77)) (w.heap.size + 1) 77 #[.string ⟨#[]⟩, .int .i64 0, .int .i64 0, .int .i64 0, .int .i64 0] := by
      have := Holds5.fresh (w.alloc (.cells #[.string op, .int .i64 (a : Int), .int .i64 (b : Int), .int .i64 0] 51)) 77 #[.string ⟨#[]⟩, .int .i64 0, .int .i64 0, .int .i64 0, .int .i64 0]
      rw [World.size_alloc] at this
      exact this.alloc _
    have hins : Holds5 (((w.alloc (.cells #[.string op, .int .i64 (a : Int), .int .i64 (b : Int), .int .i64 0] 51)).alloc (.cells #[.string ⟨#[]⟩, .int .i64 0, .int .i64 0, .int .i64 0, .int .i64 0] 77)).alloc (.cells #[.string op, .int .i64 (tp : Int), .int .i64 0, .int .i64 0, .int .i64 0] 77)) (w.heap.size + 1 + 1) 77 #[.string op, .int .i64 (tp : Int), .int .i64 0, .int .i64 0, .int .i64 0] := by
      have h2 := Holds5.fresh ((w.alloc (.cells #[.string op, .int .i64 (a : Int), .int .i64 (b : Int), .int .i64 0] 51)).alloc (.cells #[.string ⟨#[]⟩, .int .i64 0, .int .i64 0, .int .i64 0, .int .i64 0] 77)) 77 #[.string op, .int .i64 (tp : Int), .int .i64 0, .int .i64 0, .int .i64 0]
      rwa [World.size_alloc, World.size_alloc] at h2
    have hbl0 : Below w.heap.size w (((w.alloc (.cells #[.string op, .int .i64 (a : Int), .int .i64 (b : Int), .int .i64 0] 51)).alloc (.cells #[.string ⟨#[]⟩, .int .i64 0, .int .i64 0, .int .i64 0, .int .i64 0] 77)).alloc (.cells #[.string op, .int .i64 (tp : Int), .int .i64 0, .int .i64 0, .int .i64 0] 77)) := below_of_grown (grown_same (grown_same (World.grownBy_alloc _ _ none) (World.grownBy_alloc _ _ none)) (World.grownBy_alloc _ _ none))
    obtain ⟨W0, hW0⟩ : ∃ W0, (((w.alloc (.cells #[.string op, .int .i64 (a : Int), .int .i64 (b : Int), .int .i64 0] 51)).alloc (.cells #[.string ⟨#[]⟩, .int .i64 0, .int .i64 0, .int .i64 0, .int .i64 0] 77)).alloc (.cells #[.string op, .int .i64 (tp : Int), .int .i64 0, .int .i64 0, .int .i64 0] 77)) = W0 := ⟨_, rfl⟩
    rw [hW0] at H0 hres hins hbl0 ⊢
    have HRES := shade hres
    have HINS := shade hins
    have HBL := shade hbl0
    clear hW0 h0 qa qb hres hins hbl0
    go_region_held3 (fun w' => w'.cell? ⟨w.heap.size, 1, none⟩ = some (.int .i64 (a : Int)) ∧ w'.cell? ⟨w.heap.size, 2, none⟩ = some (.int .i64 (b : Int)) ∧ w'.cell? ⟨bp, op' + a, none⟩ = some (.int .i64 (pa : Int)) ∧ w'.cell? ⟨bp, op' + b, none⟩ = some (.int .i64 (pb : Int)) ∧ w'.cell? ⟨w.heap.size + 1 + 1, 2, none⟩ = some (cellV w' ⟨w.heap.size + 1 + 1, 2, none⟩) ∧ w'.cell? ⟨w.heap.size + 1 + 1, 3, none⟩ = some (cellV w' ⟨w.heap.size + 1 + 1, 3, none⟩) ∧ w'.frozen? ⟨w.heap.size + 1 + 1, 2, none⟩ = false ∧ w'.frozen? ⟨w.heap.size + 1 + 1, 3, none⟩ = false)
      (first | with_reducible exact H0.out.cells | with_reducible exact H0.out.drew.cells | with_reducible exact (H0.out.drew.put2 _).cells | with_reducible exact (H0.out.put2 _).cells | with_reducible exact (H0.out.put2 _).drew.cells | with_reducible exact ((H0.out.put2 _).put3 _).cells | with_reducible exact ((H0.out.put2 _).put3 _).drew.cells | with_reducible exact ((H0.out.drew.put2 _).put3 _).cells) (fail)
    rename_i hHeld
    clear hHeld
    have hi5 : Holds5 ((W0.setCell ⟨w.heap.size + 1 + 1, 2, none⟩ (.int .i64 (pa : Int))).setCell ⟨w.heap.size + 1 + 1, 3, none⟩ (.int .i64 (pb : Int))).drew (w.heap.size + 1 + 1) 77 #[.string op, .int .i64 (tp : Int), .int .i64 (pa : Int), .int .i64 (pb : Int), .int .i64 0] := by
      have := (HINS.out.put 2 (.int .i64 (pa : Int))).put 3 (.int .i64 (pb : Int))
      simp at this
      exact this
    have hr5 : Holds5 ((W0.setCell ⟨w.heap.size + 1 + 1, 2, none⟩ (.int .i64 (pa : Int))).setCell ⟨w.heap.size + 1 + 1, 3, none⟩ (.int .i64 (pb : Int))).drew (w.heap.size + 1) 77 #[.string ⟨#[]⟩, .int .i64 0, .int .i64 0, .int .i64 0, .int .i64 0] :=
      (HRES.out.other (p := ⟨w.heap.size + 1 + 1, 2, none⟩) (by show w.heap.size + 1 ≠ w.heap.size + 1 + 1; omega) _).other (p := ⟨w.heap.size + 1 + 1, 3, none⟩) (by show w.heap.size + 1 ≠ w.heap.size + 1 + 1; omega) _
    have hb5 : Below w.heap.size w ((W0.setCell ⟨w.heap.size + 1 + 1, 2, none⟩ (.int .i64 (pa : Int))).setCell ⟨w.heap.size + 1 + 1, 3, none⟩ (.int .i64 (pb : Int))).drew := ((HBL.out.setCell (p := ⟨w.heap.size + 1 + 1, 2, none⟩) (by show w.heap.size ≤ w.heap.size + 1 + 1; omega) _).setCell (p := ⟨w.heap.size + 1 + 1, 3, none⟩) (by show w.heap.size ≤ w.heap.size + 1 + 1; omega) _).drew
    obtain ⟨W5, hW5⟩ : ∃ W5, ((W0.setCell ⟨w.heap.size + 1 + 1, 2, none⟩ (.int .i64 (pa : Int))).setCell ⟨w.heap.size + 1 + 1, 3, none⟩ (.int .i64 (pb : Int))).drew = W5 := ⟨_, rfl⟩
    rw [hW5] at hi5 hr5 hb5 ⊢
    clear hW5 HBL HINS HRES H0
    have c0 := hi5.look 0; have c1 := hi5.look 1; have c2 := hi5.look 2; have c3 := hi5.look 3; have c4 := hi5.look 4
    have r0 := hr5.look 0; have r1 := hr5.look 1; have r2 := hr5.look 2; have r3 := hr5.look 3; have r4 := hr5.look 4
    have f0 := hr5.free 0; have f1 := hr5.free 1; have f2 := hr5.free 2; have f3 := hr5.free 3; have f4 := hr5.free 4
    simp at c0 c1 c2 c3 c4 r0 r1 r2 r3 r4
    have HB := shade hb5
    have HR5 := shade hr5
    clear hi5 hr5 hb5
    have h6 := HR5.out.five (.string op) (.int .i64 (tp : Int)) (.int .i64 (pa : Int)) (.int .i64 (pb : Int)) (.int .i64 0)
    have hb6 : Below w.heap.size w (((((W5.setCell ⟨w.heap.size + 1, 0, none⟩ (.string op)).setCell ⟨w.heap.size + 1, 1, none⟩ (.int .i64 (tp : Int))).setCell ⟨w.heap.size + 1, 2, none⟩ (.int .i64 (pa : Int))).setCell ⟨w.heap.size + 1, 3, none⟩ (.int .i64 (pb : Int))).setCell ⟨w.heap.size + 1, 4, none⟩ (.int .i64 0)) := (((((HB.out.setCell (p := ⟨w.heap.size + 1, 0, none⟩) (by show w.heap.size ≤ w.heap.size + 1; omega) _).setCell (p := ⟨w.heap.size + 1, 1, none⟩) (by show w.heap.size ≤ w.heap.size + 1; omega) _).setCell (p := ⟨w.heap.size + 1, 2, none⟩) (by show w.heap.size ≤ w.heap.size + 1; omega) _).setCell (p := ⟨w.heap.size + 1, 3, none⟩) (by show w.heap.size ≤ w.heap.size + 1; omega) _).setCell (p := ⟨w.heap.size + 1, 4, none⟩) (by show w.heap.size ≤ w.heap.size + 1; omega) _)
    go_wp2
    obtain ⟨W6, hW6⟩ : ∃ W6, (((((W5.setCell ⟨w.heap.size + 1, 0, none⟩ (.string op)).setCell ⟨w.heap.size + 1, 1, none⟩ (.int .i64 (tp : Int))).setCell ⟨w.heap.size + 1, 2, none⟩ (.int .i64 (pa : Int))).setCell ⟨w.heap.size + 1, 3, none⟩ (.int .i64 (pb : Int))).setCell ⟨w.heap.size + 1, 4, none⟩ (.int .i64 0)) = W6 := ⟨_, rfl⟩
    rw [hW6] at h6 hb6 ⊢
    clear hW6 c0 c1 c2 c3 c4 r0 r1 r2 r3 r4
    have HB6 := shade hb6
    have x0 := h6.look 0; have x1 := h6.look 1; have x2 := h6.look 2; have x3 := h6.look 3; have x4 := h6.look 4
    simp at x0 x1 x2 x3 x4
    clear h6 hb6
    refine bodyPost_ret (by simp [results, Tryd.results72, go_sem, x0, x1, x2, x3, x4]; try rfl) rfl ?_
    exact ⟨rfl, HB6.out⟩
end Go.Proofs.YtjjjgjnhiffpnaaDoor
