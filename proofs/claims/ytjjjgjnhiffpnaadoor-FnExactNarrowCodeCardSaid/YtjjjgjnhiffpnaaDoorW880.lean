/- Programs of wide instructions, by the model. -/
import Derived.Test.YtjjjgjnhiffpnaaDoorW877
import Derived.Test.YtjjjgjnhiffpnaaDoorW861
import Derived.Test.YtjjjgjnhiffpnaaDoorW829
import Derived.Test.YtjjjgjnhiffpnaaDoorW870
import Derived.Deep.DrawnRows
import Derived.Deep.AppendLies
namespace Go.Proofs.YtjjjgjnhiffpnaaDoor
open Go.RowKit
set_option linter.unusedSimpArgs false
/-- The instruction of a wide one. -/
def nrI (F : Nat → Wid) (p : Nat → Nat) (i : Nat) : Ins := if wordN (F i).op.toList = 0 then ⟨(F i).op, p i, 0, 0, (F i).k⟩ else ⟨(F i).op, p i, p (F i).a.toNat, p (F i).b.toNat, 0⟩
theorem info_ins : (Tryd.prog.info? 77).map (fun i => (i.zero, i.size, i.bytes)) = some (some (.agg #[.string ⟨#[]⟩, .int .i64 0, .int .i64 0, .int .i64 0, .int .i64 0]), 5, 48) := by kernel_rfl
/-- Cells that the world has. -/
def Has (l : List (Addr × Value)) (W : World) : Prop := ∀ x, x ∈ l → W.cell? x.1 = some x.2
theorem Has.alloc {l : List (Addr × Value)} {W : World} (h : Has l W) (o : Obj) : Has l (W.alloc o) := fun x hx => (World.cell?_alloc_some W _ o (by rw [h x hx]; rfl)).trans (h x hx)
theorem Has.drew {l : List (Addr × Value)} {W : World} (h : Has l W) : Has l W.drew := h
theorem Has.grown {l : List (Addr × Value)} {W W' : World} {row : Option Nat} (h : Has l W) (hg : W.grownBy W' row) (hr : ∀ x, x ∈ l → some x.1.block ≠ row) : Has l W' := fun x hx => hg.cell (h x hx) (hr x hx)
theorem Has.two {a1 a2 : Addr} {v1 v2 : Value} {W : World} (h : Has [(a1, v1), (a2, v2)] W) : W.cell? a1 = some v1 ∧ W.cell? a2 = some v2 := ⟨h (a1, v1) (by simp), h (a2, v2) (by simp)⟩
theorem Has.six {a1 a2 a3 a4 a5 a6 : Addr} {v1 v2 v3 v4 v5 v6 : Value} {W : World} (h : Has [(a1, v1), (a2, v2), (a3, v3), (a4, v4), (a5, v5), (a6, v6)] W) : W.cell? a1 = some v1 ∧ W.cell? a2 = some v2 ∧ W.cell? a3 = some v3 ∧ W.cell? a4 = some v4 ∧ W.cell? a5 = some v5 ∧ W.cell? a6 = some v6 :=
  ⟨h (a1, v1) (by simp), h (a2, v2) (by simp), h (a3, v3) (by simp), h (a4, v4) (by simp), h (a5, v5) (by simp), h (a6, v6) (by simp)⟩
theorem codeL_snoc (k : Nat) (f : Nat → Ins) : codeL k f ++ [.string (f k).op, .int .i64 (f k).d, .int .i64 (f k).a, .int .i64 (f k).b, .int .i64 (f k).k] = codeL (k + 1) f := by
  unfold codeL rowL
  rw [show (k + 1) * 5 = k * 5 + 5 by omega, List.range_add, List.map_append]
  congr 1
  show _ = [_, _, _, _, _]
  simp only [show (k * 5 + 0) / 5 = k by omega, show (k * 5 + 1) / 5 = k by omega, show (k * 5 + 2) / 5 = k by omega, show (k * 5 + 3) / 5 = k by omega, show (k * 5 + 4) / 5 = k by omega, show (k * 5 + 0) % 5 = 0 by omega, show (k * 5 + 1) % 5 = 1 by omega, show (k * 5 + 2) % 5 = 2 by omega, show (k * 5 + 3) % 5 = 3 by omega, show (k * 5 + 4) % 5 = 4 by omega]
  rfl
theorem code_more {w : World} {B k : Nat} {v : Value} {f : Nat → Ins} {c : Ins} (h : w.ownsRow B 77 5 v (k + 1) (codeL k f ++ [.string c.op, .int .i64 c.d, .int .i64 c.a, .int .i64 c.b, .int .i64 c.k])) (hx : f k = c) : w.ownsRow B 77 5 v (k + 1) (codeL (k + 1) f) := by
  rw [← codeL_snoc, hx]
  exact h
theorem ins_new (w : World) (t : TypeId) (op : ByteArray) (d a b k : Int) : ∀ j u, ([.string op, .int .i64 d, .int .i64 a, .int .i64 b, .int .i64 k] : List Value)[j]? = some u → (w.alloc (.cells #[.string op, .int .i64 d, .int .i64 a, .int .i64 b, .int .i64 k] t)).cell? ((⟨w.heap.size, 0, none⟩ : Addr).add j) = some u := by
  intro j u h
  rw [Addr.add_lit, Nat.zero_add, World.cell?_alloc_new]
  simpa using h
theorem ins_one (op : ByteArray) (d a b k : Int) : ∀ u ∈ ([.string op, .int .i64 d, .int .i64 a, .int .i64 b, .int .i64 k] : List Value), u.oneCell' = true := by
  intro u hu
  simp only [List.mem_cons, List.not_mem_nil, or_false] at hu
  rcases hu with h | h | h | h | h <;> rw [h] <;> rfl
attribute [local go_sem ↓] Go.wp_at_zero Go.wp_at_succ
set_option maxRecDepth 100000 in
set_option maxHeartbeats 8000000 in
theorem narrow_at (b off n c : Nat) (F : Nat → Wid) (Ap : Option Addr) (cp : Nat) (p : Nat → Nat) (w : World) (hv : vwB n F = true) (h : Wds w (some ⟨b, off, none⟩) n F) (hp : Nums w Ap n (fun j => (p j : Int))) :
    Calls Tryd.prog 70 #[.slice (some ⟨b, off, none⟩) n c, .slice Ap n cp] w (CodeRes n (nrI F p) w) := by
  have hn := (vwB_iff.1 hv).2
  have H := shade h
  have HP := shade hp
  have HV := shade (vwB_iff.1 hv).1
  clear h hv hp
  obtain ⟨i0, hi0, hz0, hz1, hz2⟩ := info_parts info_ins
  have HO0 := shade (World.ownsRow_lit (base := w.heap.size) (e := 77) (size := 5) w #[] 0 (by omega) (by decide) rfl)
  go_enter Tryd.func70, Tryd.ntmps70
  go_wp2
  go_loopw [5, 6] (fun v q wr => ∃ i : Nat, i ≤ n ∧ q = .int .i64 i ∧ w.grownBy wr none ∧ wr.ownsRow w.heap.size 77 5 v i (codeL i (nrI F p))) (fun _ q _ => n - (intOf q).toNat)
  case atStart => exact ⟨0, Nat.zero_le _, rfl, World.grownBy_alloc _ _ _, HO0.out⟩
  case round =>
    obtain ⟨i, hi, rfl, hgr, hown⟩ := hrel
    obtain ⟨A4, c4, rfl, -⟩ := ownsRow_slice hown
    have HR := shade hgr
    have HO := shade hown
    have hgl := hgr.size
    by_cases hin : i < n
    · obtain ⟨q0, q1, q2, q3⟩ := (H.out.on hgr).four hin
      have hpn := HP.out.grown hgr (by intro _ _ _ e; cases e)
      obtain ⟨bp, op', rfl, -⟩ := hpn.resolve_left (by omega)
      have qp : _ = some (Value.int .i64 ((p i : Nat) : Int)) := hpn.cell hin
      have hok := HV.out i hin
      have hNR := show nrI F p i = if wordN (F i).op.toList = 0 then ⟨(F i).op, p i, 0, 0, (F i).k⟩ else ⟨(F i).op, p i, p (F i).a.toNat, p (F i).b.toNat, 0⟩ from rfl
      generalize F i = cc at *
      obtain ⟨op, a, b', kk⟩ := cc
      simp only [] at q0 q1 q2 q3 hNR
      have hok2 := (okW_told op a b' kk i).symm.trans hok
      rw [decide_eq_true_iff] at hok2
      clear hok hgr hown
      by_cases e0 : wordN op.toList = 0
      · have e1 : (op.toList == [115, 101, 116]) = true := (word0 _).2 e0
        rw [if_pos e0] at hNR
        have HNR := shade hNR
        clear hNR hok2 e0
        obtain rfl : op = ⟨#[115, 101, 116]⟩ := op_eq_0 op e1
        have hbx := Holds5.fresh wr 51 #[.string ⟨#[115, 101, 116]⟩, .int .i64 a, .int .i64 b', .int .i64 kk]
        have hH : Has [(⟨bp, op' + i, none⟩, .int .i64 ((p i : Nat) : Int)), (⟨wr.heap.size, 3, none⟩, .int .i64 kk)] (wr.alloc (.cells #[.string ⟨#[115, 101, 116]⟩, .int .i64 a, .int .i64 b', .int .i64 kk] 51)) := by
          intro y hy
          simp only [List.mem_cons, List.not_mem_nil, or_false] at hy
          rcases hy with rfl | rfl
          · exact (World.cell?_alloc_some wr _ _ (by rw [qp]; rfl)).trans qp
          · exact hbx.look 3
        have hRW : w.grownBy (wr.alloc (.cells #[.string ⟨#[115, 101, 116]⟩, .int .i64 a, .int .i64 b', .int .i64 kk] 51)) none ∧ (wr.alloc (.cells #[.string ⟨#[115, 101, 116]⟩, .int .i64 a, .int .i64 b', .int .i64 kk] 51)).ownsRow w.heap.size 77 5 (.slice A4 i c4) i (codeL i (nrI F p)) := ⟨grown_alloc HR.out _, World.ownsRow.alloc HO.out _⟩
        have hbpl : bp < w.heap.size := by
          obtain ⟨b1, o1, e1, hb1, -⟩ := HP.out.resolve_left (by omega)
          injection e1 with e1
          injection e1 with e1 e2
          omega
        have hob : ∀ y, y ∈ [((⟨bp, op' + i, none⟩ : Addr), Value.int .i64 ((p i : Nat) : Int)), (⟨wr.heap.size, 3, none⟩, .int .i64 kk)] → some y.1.block ≠ (Value.slice A4 i c4).ownBlock := by
          intro y hy e
          have := World.ownsRow.lt HO.out y.1.block e.symm
          simp only [List.mem_cons, List.not_mem_nil, or_false] at hy
          rcases hy with rfl | rfl
          · simp only [] at this
            omega
          · simp only [] at this
            omega
        have HH := shade hH
        have HRW := shade hRW
        have HOB := shade hob
        have HSC := shade (fun (W : World) (h : Has [(⟨bp, op' + i, none⟩, .int .i64 ((p i : Nat) : Int)), (⟨wr.heap.size, 3, none⟩, .int .i64 kk)] W) => h.two)
        have hwz := hRW.1.size
        clear hH hRW hob hbx
        obtain ⟨pi, hpi⟩ : ∃ pi, p i = pi := ⟨_, rfl⟩
        rw [hpi] at HSC HNR qp HH HOB
        clear hpi
        go_wp2_with fail
        obtain ⟨W0, hW0⟩ : ∃ W0, wr.alloc (.cells #[.string ⟨#[115, 101, 116]⟩, .int .i64 a, .int .i64 b', .int .i64 kk] 51) = W0 := ⟨_, rfl⟩
        rw [hW0] at HH HRW hwz ⊢
        clear hW0 q0 q1 q2 q3 qp
        go_region_held3 (fun w' => w'.cell? ⟨bp, op' + i, none⟩ = some (.int .i64 (pi : Int)) ∧ w'.cell? ⟨wr.heap.size, 3, none⟩ = some (.int .i64 kk))
          (first | exact HSC.out _ HH.out | exact HSC.out _ HH.out.drew | exact HSC.out _ (HH.out.drew.alloc _) | exact HSC.out _ (HH.out.alloc _).drew | exact HSC.out _ ((HH.out.drew.alloc _).grown hgr8 HOB.out) | exact HSC.out _ ((HH.out.alloc _).drew.grown hgr8 HOB.out))
          (((with_reducible refine at_append ?_); refine step_append_lies _ (by rfl) (.tmp 22) (.tmp 30) 36 (by rfl) w.heap.size 77 i0 (.agg #[.string ⟨#[]⟩, .int .i64 0, .int .i64 0, .int .i64 0, .int .i64 0]) 5 48 Tryd.underlying36 hi0 hz0 hz1 hz2 rfl (by decide) (.slice A4 i c4) i (codeL i (nrI F p)) (by rfl) (by first | exact ownsRow_on (World.ownsRow.alloc HRW.out.2 _) (grown_drew1 _) | exact World.ownsRow.alloc (ownsRow_on HRW.out.2 (grown_drew1 _)) _) ⟨W0.heap.size, 0, none⟩ 1 1 [.string ⟨#[115, 101, 116]⟩, .int .i64 (pi : Int), .int .i64 0, .int .i64 0, .int .i64 kk] (by rfl) (by rfl) (by first | exact ins_new _ _ _ _ _ _ _ | exact ins_new W0.drew _ _ _ _ _ _) (ins_one _ _ _ _ _) (by omega) (by unfold maxLen; omega) (by omega) (by simp; omega) _ rfl ?_; intro g8 c8 w8 hown8 hgr8 hat8 hlt8))
        rename_i hHeld
        clear hHeld
        have HO8 := shade (code_more (c := ⟨⟨#[115, 101, 116]⟩, (pi : Int), 0, 0, kk⟩) hown8 HNR.out)
        have HZ8 := shade (grown_row (grown_same HRW.out.1 (grown_same (World.grownBy_alloc W0 (.cells #[.string ⟨#[115, 101, 116]⟩, .int .i64 (pi : Int), .int .i64 0, .int .i64 0, .int .i64 kk] 77) none) (grown_drew1 _))) hgr8 (fun j e => (World.ownsRow.lt HO.out j e).1))
        clear hown8 hgr8 hat8 hlt8 HNR
        go_wp2
        go_roundw
        case rel => exact ⟨i + 1, by omega, by go_num, HZ8.out, HO8.out⟩
        case measure => simp [intOf]; omega
      · have e1 : (op.toList == [115, 101, 116]) = false := by
          rw [Bool.eq_false_iff]
          exact fun h => e0 ((word0 _).1 h)
        obtain ⟨a, rfl⟩ := Int.eq_ofNat_of_zero_le (show 0 ≤ a by omega)
        obtain ⟨b', rfl⟩ := Int.eq_ofNat_of_zero_le (show 0 ≤ b' by omega)
        have ha : a < i := by omega
        have hb : b' < i := by omega
        obtain rfl : kk = 0 := by omega
        rw [if_neg e0] at hNR
        simp only [Int.toNat_natCast] at hNR
        have HNR := shade hNR
        have qa : wr.cell? ⟨bp, op' + a, none⟩ = some (Value.int .i64 ((p a : Nat) : Int)) := hpn.cell (by omega)
        have qb : wr.cell? ⟨bp, op' + b', none⟩ = some (Value.int .i64 ((p b' : Nat) : Int)) := hpn.cell (by omega)
        clear hNR hok2 e0
        have hbx := Holds5.fresh wr 51 #[.string op, .int .i64 (a : Int), .int .i64 (b' : Int), .int .i64 0]
        have hH : Has [(⟨bp, op' + i, none⟩, .int .i64 ((p i : Nat) : Int)), (⟨bp, op' + a, none⟩, .int .i64 ((p a : Nat) : Int)), (⟨bp, op' + b', none⟩, .int .i64 ((p b' : Nat) : Int)), (⟨wr.heap.size, 0, none⟩, .string op), (⟨wr.heap.size, 1, none⟩, .int .i64 (a : Int)), (⟨wr.heap.size, 2, none⟩, .int .i64 (b' : Int))] (wr.alloc (.cells #[.string op, .int .i64 (a : Int), .int .i64 (b' : Int), .int .i64 0] 51)) := by
          intro y hy
          simp only [List.mem_cons, List.not_mem_nil, or_false] at hy
          rcases hy with rfl | rfl | rfl | rfl | rfl | rfl
          · exact (World.cell?_alloc_some wr _ _ (by rw [qp]; rfl)).trans qp
          · exact (World.cell?_alloc_some wr _ _ (by rw [qa]; rfl)).trans qa
          · exact (World.cell?_alloc_some wr _ _ (by rw [qb]; rfl)).trans qb
          · exact hbx.look 0
          · exact hbx.look 1
          · exact hbx.look 2
        have hRW : w.grownBy (wr.alloc (.cells #[.string op, .int .i64 (a : Int), .int .i64 (b' : Int), .int .i64 0] 51)) none ∧ (wr.alloc (.cells #[.string op, .int .i64 (a : Int), .int .i64 (b' : Int), .int .i64 0] 51)).ownsRow w.heap.size 77 5 (.slice A4 i c4) i (codeL i (nrI F p)) := ⟨grown_alloc HR.out _, World.ownsRow.alloc HO.out _⟩
        have hbpl : bp < w.heap.size := by
          obtain ⟨b1, o1, e1, hb1, -⟩ := HP.out.resolve_left (by omega)
          injection e1 with e1
          injection e1 with e1 e2
          omega
        have hob : ∀ y, y ∈ [((⟨bp, op' + i, none⟩ : Addr), Value.int .i64 ((p i : Nat) : Int)), (⟨bp, op' + a, none⟩, .int .i64 ((p a : Nat) : Int)), (⟨bp, op' + b', none⟩, .int .i64 ((p b' : Nat) : Int)), (⟨wr.heap.size, 0, none⟩, .string op), (⟨wr.heap.size, 1, none⟩, .int .i64 (a : Int)), (⟨wr.heap.size, 2, none⟩, .int .i64 (b' : Int))] → some y.1.block ≠ (Value.slice A4 i c4).ownBlock := by
          intro y hy e
          have := World.ownsRow.lt HO.out y.1.block e.symm
          simp only [List.mem_cons, List.not_mem_nil, or_false] at hy
          rcases hy with rfl | rfl | rfl | rfl | rfl | rfl
          all_goals
            simp only [] at this
            omega
        have HH := shade hH
        have HRW := shade hRW
        have HOB := shade hob
        have HSC := shade (fun (W : World) (h : Has [(⟨bp, op' + i, none⟩, .int .i64 ((p i : Nat) : Int)), (⟨bp, op' + a, none⟩, .int .i64 ((p a : Nat) : Int)), (⟨bp, op' + b', none⟩, .int .i64 ((p b' : Nat) : Int)), (⟨wr.heap.size, 0, none⟩, .string op), (⟨wr.heap.size, 1, none⟩, .int .i64 (a : Int)), (⟨wr.heap.size, 2, none⟩, .int .i64 (b' : Int))] W) => h.six)
        have hwz := hRW.1.size
        clear hH hRW hob hbx
        obtain ⟨pi, hpi⟩ : ∃ pi, p i = pi := ⟨_, rfl⟩
        obtain ⟨pa, hpa⟩ : ∃ pa, p a = pa := ⟨_, rfl⟩
        obtain ⟨pb, hpb⟩ : ∃ pb, p b' = pb := ⟨_, rfl⟩
        rw [hpi, hpa, hpb] at HSC HNR HH HOB
        clear hpi hpa hpb qa qb
        have iA0 : (0 : Int) ≤ (a : Int) := by omega
        have iB0 : (0 : Int) ≤ (b' : Int) := by omega
        have iA : (a : Int) < (n : Int) := by omega
        have iB : (b' : Int) < (n : Int) := by omega
        go_wp2_with fail
        obtain ⟨W0, hW0⟩ : ∃ W0, wr.alloc (.cells #[.string op, .int .i64 (a : Int), .int .i64 (b' : Int), .int .i64 0] 51) = W0 := ⟨_, rfl⟩
        rw [hW0] at HH HRW hwz ⊢
        clear hW0 q0 q1 q2 q3 qp
        go_region_held3 (fun w' => w'.cell? ⟨bp, op' + i, none⟩ = some (.int .i64 (pi : Int)) ∧ w'.cell? ⟨bp, op' + a, none⟩ = some (.int .i64 (pa : Int)) ∧ w'.cell? ⟨bp, op' + b', none⟩ = some (.int .i64 (pb : Int)) ∧ w'.cell? ⟨wr.heap.size, 0, none⟩ = some (.string op) ∧ w'.cell? ⟨wr.heap.size, 1, none⟩ = some (.int .i64 (a : Int)) ∧ w'.cell? ⟨wr.heap.size, 2, none⟩ = some (.int .i64 (b' : Int)))
          (first | exact HSC.out _ HH.out | exact HSC.out _ HH.out.drew | exact HSC.out _ (HH.out.drew.alloc _) | exact HSC.out _ (HH.out.alloc _).drew | exact HSC.out _ ((HH.out.drew.alloc _).grown hgr8 HOB.out) | exact HSC.out _ ((HH.out.alloc _).drew.grown hgr8 HOB.out))
          (((with_reducible refine at_append ?_); refine step_append_lies _ (by rfl) (.tmp 32) (.tmp 50) 36 (by rfl) w.heap.size 77 i0 (.agg #[.string ⟨#[]⟩, .int .i64 0, .int .i64 0, .int .i64 0, .int .i64 0]) 5 48 Tryd.underlying36 hi0 hz0 hz1 hz2 rfl (by decide) (.slice A4 i c4) i (codeL i (nrI F p)) (by rfl) (by first | exact ownsRow_on (World.ownsRow.alloc HRW.out.2 _) (grown_drew1 _) | exact World.ownsRow.alloc (ownsRow_on HRW.out.2 (grown_drew1 _)) _) ⟨W0.heap.size, 0, none⟩ 1 1 [.string op, .int .i64 (pi : Int), .int .i64 (pa : Int), .int .i64 (pb : Int), .int .i64 0] (by rfl) (by rfl) (by first | exact ins_new _ _ _ _ _ _ _ | exact ins_new W0.drew _ _ _ _ _ _) (ins_one _ _ _ _ _) (by omega) (by unfold maxLen; omega) (by omega) (by simp; omega) _ rfl ?_; intro g8 c8 w8 hown8 hgr8 hat8 hlt8))
        rename_i hHeld
        clear hHeld
        have HO8 := shade (code_more (c := ⟨op, (pi : Int), (pa : Int), (pb : Int), 0⟩) hown8 HNR.out)
        have HZ8 := shade (grown_row (grown_same HRW.out.1 (grown_same (World.grownBy_alloc W0 (.cells #[.string op, .int .i64 (pi : Int), .int .i64 (pa : Int), .int .i64 (pb : Int), .int .i64 0] 77) none) (grown_drew1 _))) hgr8 (fun j e => (World.ownsRow.lt HO.out j e).1))
        clear hown8 hgr8 hat8 hlt8 HNR
        go_wp2
        go_roundw
        case rel => exact ⟨i + 1, by omega, by go_num, HZ8.out, HO8.out⟩
        case measure => simp [intOf]; omega
    · have e : i = n := by omega
      subst e
      clear hgr hown
      go_wp2
      go_ret
      exact ⟨_, rfl, HO.out, HR.out⟩
end Go.Proofs.YtjjjgjnhiffpnaaDoor
