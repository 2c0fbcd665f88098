/- Walks of the model's DecodeInstr and of its law. -/
import Derived.Test.YtghpgpklhenleaaDoorW13
import Derived.Test.YtghpgpklhenleaaDoorW10
namespace Go.Proofs.YtghpgpklhenleaaDoor
open Go.ChangeShapes Go.WideShapes Go.ChangeAt Go.WideMaps Go.WideElems Go.RowKit
set_option linter.unusedSimpArgs false

set_option maxHeartbeats 400000 in
theorem specWordOf_0 (w : World) : Calls Tryd.prog 58 #[.int .i64 0] w fun e w' => e = .returned (.string (wT 0)) ∧ ∃ o, w.alloc o = w' := by
  go_enter Tryd.func58, Tryd.ntmps58
  go_wp2
  go_ret
  exact ⟨rfl, _, rfl⟩
set_option maxHeartbeats 400000 in
theorem specWordOf_1 (w : World) : Calls Tryd.prog 58 #[.int .i64 1] w fun e w' => e = .returned (.string (wT 1)) ∧ ∃ o, w.alloc o = w' := by
  go_enter Tryd.func58, Tryd.ntmps58
  go_wp2
  go_ret
  exact ⟨rfl, _, rfl⟩
set_option maxHeartbeats 400000 in
theorem specWordOf_2 (w : World) : Calls Tryd.prog 58 #[.int .i64 2] w fun e w' => e = .returned (.string (wT 2)) ∧ ∃ o, w.alloc o = w' := by
  go_enter Tryd.func58, Tryd.ntmps58
  go_wp2
  go_ret
  exact ⟨rfl, _, rfl⟩
set_option maxHeartbeats 400000 in
theorem specWordOf_3 (w : World) : Calls Tryd.prog 58 #[.int .i64 3] w fun e w' => e = .returned (.string (wT 3)) ∧ ∃ o, w.alloc o = w' := by
  go_enter Tryd.func58, Tryd.ntmps58
  go_wp2
  go_ret
  exact ⟨rfl, _, rfl⟩
set_option maxHeartbeats 400000 in
theorem specWordOf_4 (w : World) : Calls Tryd.prog 58 #[.int .i64 4] w fun e w' => e = .returned (.string (wT 4)) ∧ ∃ o, w.alloc o = w' := by
  go_enter Tryd.func58, Tryd.ntmps58
  go_wp2
  go_ret
  exact ⟨rfl, _, rfl⟩
set_option maxHeartbeats 400000 in
theorem specWordOf_5 (w : World) : Calls Tryd.prog 58 #[.int .i64 5] w fun e w' => e = .returned (.string (wT 5)) ∧ ∃ o, w.alloc o = w' := by
  go_enter Tryd.func58, Tryd.ntmps58
  go_wp2
  go_ret
  exact ⟨rfl, _, rfl⟩
set_option maxHeartbeats 400000 in
theorem specWordOf_6 (w : World) : Calls Tryd.prog 58 #[.int .i64 6] w fun e w' => e = .returned (.string (wT 6)) ∧ ∃ o, w.alloc o = w' := by
  go_enter Tryd.func58, Tryd.ntmps58
  go_wp2
  go_ret
  exact ⟨rfl, _, rfl⟩
set_option maxHeartbeats 400000 in
theorem specWordOf_7 (w : World) : Calls Tryd.prog 58 #[.int .i64 7] w fun e w' => e = .returned (.string (wT 7)) ∧ ∃ o, w.alloc o = w' := by
  go_enter Tryd.func58, Tryd.ntmps58
  go_wp2
  go_ret
  exact ⟨rfl, _, rfl⟩
set_option maxHeartbeats 400000 in
theorem specWordOf_8 (w : World) : Calls Tryd.prog 58 #[.int .i64 8] w fun e w' => e = .returned (.string (wT 8)) ∧ ∃ o, w.alloc o = w' := by
  go_enter Tryd.func58, Tryd.ntmps58
  go_wp2
  go_ret
  exact ⟨rfl, _, rfl⟩
set_option maxHeartbeats 400000 in
theorem specWordOf_9 (w : World) : Calls Tryd.prog 58 #[.int .i64 9] w fun e w' => e = .returned (.string (wT 9)) ∧ ∃ o, w.alloc o = w' := by
  go_enter Tryd.func58, Tryd.ntmps58
  go_wp2
  go_ret
  exact ⟨rfl, _, rfl⟩
theorem specWordOf_any (q : Nat) (hq : q < 10) (w : World) : Calls Tryd.prog 58 #[.int .i64 (q : Int)] w fun e w' => e = .returned (.string (wT q)) ∧ ∃ o, w.alloc o = w' := by
  match q, hq with
  | 0, _ => exact specWordOf_0 w
  | 1, _ => exact specWordOf_1 w
  | 2, _ => exact specWordOf_2 w
  | 3, _ => exact specWordOf_3 w
  | 4, _ => exact specWordOf_4 w
  | 5, _ => exact specWordOf_5 w
  | 6, _ => exact specWordOf_6 w
  | 7, _ => exact specWordOf_7 w
  | 8, _ => exact specWordOf_8 w
  | 9, _ => exact specWordOf_9 w

set_option maxHeartbeats 1000000 in
theorem SpecDecodeInstr_out (n : Int) (h : n < 0 ∨ 163840 ≤ n) (w : World) :
    Calls Tryd.prog 22 #[.int .i64 n] w fun e w' => e = .returned (.tuple #[IV ⟨#[]⟩ 0 0 0 0, .bool false]) ∧ Below w.heap.size w w' := by
  rcases h with h | h
  · go_enter Tryd.func22, Tryd.ntmps22
    go_wp2
    refine bodyPost_ret (v := .tuple #[IV ⟨#[]⟩ 0 0 0 0, .bool false]) (by simp [results, Tryd.results22, go_sem]) rfl ⟨rfl, by go_grown⟩
  · have h0 : 0 ≤ n := by omega
    go_enter Tryd.func22, Tryd.ntmps22
    go_wp2
    refine bodyPost_ret (v := .tuple #[IV ⟨#[]⟩ 0 0 0 0, .bool false]) (by simp [results, Tryd.results22, go_sem]) rfl ⟨rfl, by go_grown⟩
set_option maxHeartbeats 1000000 in
theorem SpecDecodeInstr_in (n : Int) (h0 : 0 ≤ n) (h1 : n < 163840) (q : Nat) (hq : n / 16384 = q) (w : World) (v : Bool) (hv : decOk n = v) :
    Calls Tryd.prog 22 #[.int .i64 n] w fun e w' => e = .returned (bif v then .tuple #[IV (wT q) (n / 4096 % 4) (n / 1024 % 4) (n / 256 % 4) (n % 256), .bool true] else .tuple #[IV ⟨#[]⟩ 0 0 0 0, .bool false]) ∧ Below w.heap.size w w' := by
  have hq10 : q < 10 := by omega
  rw [decOk_eq n q h0 h1 hq] at hv
  have HV := shade hv
  clear hv
  have e1 : n / 256 / 4 = n / 1024 := by omega
  have e2 : n / 1024 / 4 = n / 4096 := by omega
  have e3 : n / 4096 / 4 = (q : Int) := by omega
  have p1 : 0 ≤ n / 256 := by omega
  have p2 : 0 ≤ n / 1024 := by omega
  have p3 : 0 ≤ n / 4096 := by omega
  clear hq
  cases v
  all_goals
    go_enter Tryd.func22, Tryd.ntmps22
    go_wp2_with fail
    refine (specWordOf_any _ hq10 _).mono ?_
    rintro e w0 ⟨rfl, o0, rfl⟩
    go_wp2_with fail
    refine (validInstr_any _ _ _ _ _ _).mono ?_
    rw [HV.out]
    rintro e w1 ⟨rfl, o1, rfl⟩
    have H1 := ((((Holds5.fresh w 24 #[.string ⟨#[]⟩, .int .i64 0, .int .i64 0, .int .i64 0, .int .i64 0]).alloc o0).alloc (.cells #[.string (wT q), .int .i64 (n / 4096 % 4), .int .i64 (n / 1024 % 4), .int .i64 (n / 256 % 4), .int .i64 (n % 256)] 24))).alloc o1
    have r0 := H1.look 0; have r1 := H1.look 1; have r2 := H1.look 2; have r3 := H1.look 3; have r4 := H1.look 4
    have f0 := H1.free 0; have f1 := H1.free 1; have f2 := H1.free 2; have f3 := H1.free 3; have f4 := H1.free 4
    have H1 := shade H1
    go_wp2_with fail
  · have H5 := Holds5.five H1.out (.string ⟨#[]⟩) (.int .i64 0) (.int .i64 0) (.int .i64 0) (.int .i64 0)
    have q0 := H5.look 0; have q1 := H5.look 1; have q2 := H5.look 2; have q3 := H5.look 3; have q4 := H5.look 4
    simp at q0 q1 q2 q3 q4
    refine bodyPost_ret (v := .tuple #[IV ⟨#[]⟩ 0 0 0 0, .bool false]) (by simp [results, Tryd.results22, go_sem, q0, q1, q2, q3, q4]) rfl ⟨rfl, ?_⟩
    go_grown
  · have H5 := Holds5.five H1.out (.string (wT q)) (.int .i64 (n / 4096 % 4)) (.int .i64 (n / 1024 % 4)) (.int .i64 (n / 256 % 4)) (.int .i64 (n % 256))
    have q0 := H5.look 0; have q1 := H5.look 1; have q2 := H5.look 2; have q3 := H5.look 3; have q4 := H5.look 4
    simp at q0 q1 q2 q3 q4
    refine bodyPost_ret (v := .tuple #[IV (wT q) (n / 4096 % 4) (n / 1024 % 4) (n / 256 % 4) (n % 256), .bool true]) (by simp [results, Tryd.results22, go_sem, q0, q1, q2, q3, q4]) rfl ⟨rfl, ?_⟩
    go_grown


set_option maxHeartbeats 1000000 in
theorem eqInstr_same (op : ByteArray) (d a b k : Int) (w : World) :
    Calls Tryd.prog 64 #[IV op d a b k, IV op d a b k] w fun e w' => e = .returned (.bool true) ∧ ∃ o1 o2, (w.alloc o1).alloc o2 = w' := by
  go_enter Tryd.func64, Tryd.ntmps64
  go_wp2
  go_ret
  exact ⟨rfl, _, _, rfl⟩

end Go.Proofs.YtghpgpklhenleaaDoor
