/- Walks of DecodeInstr. -/
import Derived.Test.YtghpgpklhenleaaDoorW11
namespace Go.Proofs.YtghpgpklhenleaaDoor
open Go.RowKit
/-- The word of an index. -/
def wT : Nat → ByteArray
  | 0 => ⟨#[115, 101, 116]⟩
  | 1 => ⟨#[97, 100, 100]⟩
  | 2 => ⟨#[115, 117, 98]⟩
  | 3 => ⟨#[109, 117, 108]⟩
  | 4 => ⟨#[108, 116]⟩
  | 5 => ⟨#[108, 100]⟩
  | 6 => ⟨#[115, 116]⟩
  | 7 => ⟨#[98, 122]⟩
  | 8 => ⟨#[106, 109, 112]⟩
  | _ => ⟨#[104, 108, 116]⟩
theorem wtCell {w : World} (h : WT w) (q : Nat) (hq : q < 10) : w.cell? ⟨0, q, none⟩ = some (.string (wT q)) := by
  obtain ⟨t, fr, h⟩ := h
  rw [cell_of_row w _ q wtCells t fr h]
  match q, hq with
  | 0, _ => rfl
  | 1, _ => rfl
  | 2, _ => rfl
  | 3, _ => rfl
  | 4, _ => rfl
  | 5, _ => rfl
  | 6, _ => rfl
  | 7, _ => rfl
  | 8, _ => rfl
  | 9, _ => rfl

/-- The instruction of a number, as its parts. -/
def decOk (n : Int) : Bool := decide (0 ≤ n) && decide (n < 163840) && vB (wT (n / 16384).toNat).toList (n / 4096 % 4) (n / 1024 % 4) (n / 256 % 4) (n % 256)
set_option maxHeartbeats 1000000 in
theorem DecodeInstr_out (n : Int) (h : n < 0 ∨ 163840 ≤ n) (hmax : n < 9223372036854775808) (w : World) :
    Calls Tryd.prog 20 #[.int .i64 n] w fun e w' => e = .returned (.tuple #[IV ⟨#[]⟩ 0 0 0 0, .bool false]) ∧ Below w.heap.size w w' := by
  rcases h with h | h
  · clear hmax
    go_enter Tryd.func20, Tryd.ntmps20
    go_wp2
    refine bodyPost_ret (v := .tuple #[IV ⟨#[]⟩ 0 0 0 0, .bool false]) (by simp [results, Tryd.results20, go_sem]) rfl ⟨rfl, by go_grown⟩
  · have h2 : 10 ≤ n / 16384 := by omega
    have h3 : n / 16384 ≤ 562949953421311 := by omega
    have h0 : 0 ≤ n := by omega
    clear hmax
    go_enter Tryd.func20, Tryd.ntmps20
    go_wp2
    refine bodyPost_ret (v := .tuple #[IV ⟨#[]⟩ 0 0 0 0, .bool false]) (by simp [results, Tryd.results20, go_sem]) rfl ⟨rfl, by go_grown⟩
theorem decOk_eq (n : Int) (q : Nat) (h0 : 0 ≤ n) (h1 : n < 163840) (hq : n / 16384 = q) : decOk n = vB (wT q).toList (n / 4096 % 4) (n / 1024 % 4) (n / 256 % 4) (n % 256) := by
  simp [decOk, hq, h0, h1]
set_option maxHeartbeats 1000000 in
theorem DecodeInstr_in (n : Int) (h0 : 0 ≤ n) (h1 : n < 163840) (q : Nat) (hq : n / 16384 = q) (w : World) (hg : WT w) (v : Bool) (hv : decOk n = v) :
    Calls Tryd.prog 20 #[.int .i64 n] w fun e w' => e = .returned (bif v then .tuple #[IV (wT q) (n / 4096 % 4) (n / 1024 % 4) (n / 256 % 4) (n % 256), .bool true] else .tuple #[IV ⟨#[]⟩ 0 0 0 0, .bool false]) ∧ Below w.heap.size w w' := by
  have HG := shade hg
  have hlt := (Array.getElem?_eq_some_iff.1 hg.choose_spec.choose_spec).1
  have hq10 : q < 10 := by omega
  have hc := wtCell hg q hq10
  rw [decOk_eq n q h0 h1 hq] at hv
  have HV := shade hv
  clear hg hv
  cases v
  all_goals
    go_enter Tryd.func20, Tryd.ntmps20
    go_wp2_with fail
    refine (ValidInstr_any _ _ _ _ _ _ ((HG.out.alloc _).alloc _)).mono ?_
    rw [HV.out]
    rintro e w1 ⟨rfl, hb1⟩
    have HB := shade (((((Below.refl w.heap.size w).alloc (Nat.le_refl _) _).alloc (by simp only [World.size_alloc]; omega) _).trans (hb1.mono (by simp only [World.size_alloc]; omega))) : Below w.heap.size w w1)
    have H1 := (((Holds5.fresh w 24 #[.string ⟨#[]⟩, .int .i64 0, .int .i64 0, .int .i64 0, .int .i64 0]).alloc (.cells #[.string (wT q), .int .i64 (n / 4096 % 4), .int .i64 (n / 1024 % 4), .int .i64 (n / 256 % 4), .int .i64 (n % 256)] 24))).below hb1 (by simp only [World.size_alloc]; omega)
    have H2 := (Holds5.fresh (w.alloc (.cells #[.string ⟨#[]⟩, .int .i64 0, .int .i64 0, .int .i64 0, .int .i64 0] 24)) 24 #[.string (wT q), .int .i64 (n / 4096 % 4), .int .i64 (n / 1024 % 4), .int .i64 (n / 256 % 4), .int .i64 (n % 256)]).below hb1 (by simp only [World.size_alloc]; omega)
    rw [World.size_alloc] at H2
    have x0 := H2.look 0; have x1 := H2.look 1; have x2 := H2.look 2; have x3 := H2.look 3; have x4 := H2.look 4
    have r0 := H1.look 0; have r1 := H1.look 1; have r2 := H1.look 2; have r3 := H1.look 3; have r4 := H1.look 4
    have f0 := H1.free 0; have f1 := H1.free 1; have f2 := H1.free 2; have f3 := H1.free 3; have f4 := H1.free 4
    simp at x0 x1 x2 x3 x4 r0 r1 r2 r3 r4
    have H1 := shade H1
    clear hb1 H2
    go_wp2_with fail
  · have H5 := Holds5.five H1.out (.string ⟨#[]⟩) (.int .i64 0) (.int .i64 0) (.int .i64 0) (.int .i64 0)
    have q0 := H5.look 0; have q1 := H5.look 1; have q2 := H5.look 2; have q3 := H5.look 3; have q4 := H5.look 4
    simp at q0 q1 q2 q3 q4
    refine bodyPost_ret (v := .tuple #[IV ⟨#[]⟩ 0 0 0 0, .bool false]) (by simp [results, Tryd.results20, go_sem, q0, q1, q2, q3, q4]) rfl ⟨rfl, ?_⟩
    have hB := HB.out
    go_grown
  · have H5 := Holds5.five H1.out (.string (wT q)) (.int .i64 (n / 4096 % 4)) (.int .i64 (n / 1024 % 4)) (.int .i64 (n / 256 % 4)) (.int .i64 (n % 256))
    have q0 := H5.look 0; have q1 := H5.look 1; have q2 := H5.look 2; have q3 := H5.look 3; have q4 := H5.look 4
    simp at q0 q1 q2 q3 q4
    refine bodyPost_ret (v := .tuple #[IV (wT q) (n / 4096 % 4) (n / 1024 % 4) (n / 256 % 4) (n % 256), .bool true]) (by simp [results, Tryd.results20, go_sem, q0, q1, q2, q3, q4]) rfl ⟨rfl, ?_⟩
    have hB := HB.out
    go_grown
end Go.Proofs.YtghpgpklhenleaaDoor