/- The model's showInstr, one word at a time. -/
import Derived.Test.YtjbbmnmbcdohiaaDoorW301
import Derived.Test.YtjbbmnmbcdohiaaDoorW14
import Derived.Deep.DeepCutAuto
import Derived.Deep.RegionHeld3
namespace Go.Proofs.YtjbbmnmbcdohiaaDoor
open Go.RowKit
set_option linter.unusedSimpArgs false
/-- The text of a part. -/
def partT (d a b k : Int) (ch : UInt8) : List UInt8 := 32 :: ((if ch.toNat = 75 then [] else [114]) ++ nm (partV d a b k ch.toNat).toNat)
/-- The text of an instruction whose parts are told. -/
def instT (op names : List UInt8) (d a b k : Int) : List UInt8 := op ++ names.flatMap (partT d a b k)
theorem grown_drew1 (w : World) : w.grownBy w.drew none := ⟨rfl, rfl, rfl, Nat.le_refl _, fun _ _ _ => rfl⟩
theorem cat_run (x y : List UInt8) (h : x.length + y.length ≤ 1000000) (W : World) : (Op.stringOp .add (tx x) (tx y)).run Tryd.prog W = .ok (.string (tx (x ++ y))) W := by
  rw [run_string_add_sum _ _ _ (by rw [tx_size, tx_size]; omega), tx_append]
theorem nml (n : Nat) (h : n < 1000) : (nm n).length ≤ 3 := (nm_len n h).2
theorem nmz (n : Nat) (h : n < 1000) : (tx (nm n)).size ≤ 3 := by
  rw [tx_size]
  exact (nm_len n h).2


set_option maxRecDepth 100000 in
set_option maxHeartbeats 4000000 in
theorem specShow_0 (d a b k : Nat) (w : World) (hd : d < 4) (ha : a < 4) (hb : b < 4) (hk : k < 1000) :
    Calls Tryd.prog 36 #[IV (⟨#[115, 101, 116]⟩ : ByteArray) d a b k] w fun e w' => e = .returned (.string (tx (instT [115, 101, 116] [68, 75] d a b k))) ∧ w.grownBy w' none := by
  have zd := nml d (by omega); have za := nml a (by omega); have zb := nml b (by omega); have zk := nml k hk
  obtain ⟨A0, hA0⟩ : ∃ A : List UInt8, A = [115, 101, 116, 32, 114] ++ nm d := ⟨_, rfl⟩
  have hA0L : A0.length ≤ 10 := by rw [hA0]; simp only [List.length_append, List.length_cons, List.length_nil]; omega
  have t0 := fun W => (show (Op.stringOp .add (⟨#[115, 101, 116, 32, 114]⟩ : ByteArray) (tx (nm d))).run Tryd.prog W = .ok (.string (tx A0)) W from by rw [hA0]; exact cat_run ([115, 101, 116, 32, 114]) (nm d) (by first | omega | (simp only [List.length_append, List.length_cons, List.length_nil]; omega)) W)
  obtain ⟨A1, hA1⟩ : ∃ A : List UInt8, A = A0 ++ [32] := ⟨_, rfl⟩
  have hA1L : A1.length ≤ 20 := by rw [hA1]; simp only [List.length_append, List.length_cons, List.length_nil]; omega
  have t1 := fun W => (show (Op.stringOp .add (tx A0) (⟨#[32]⟩ : ByteArray)).run Tryd.prog W = .ok (.string (tx A1)) W from by rw [hA1]; exact cat_run (A0) ([32]) (by first | omega | (simp only [List.length_append, List.length_cons, List.length_nil]; omega)) W)
  obtain ⟨A2, hA2⟩ : ∃ A : List UInt8, A = A1 ++ nm k := ⟨_, rfl⟩
  have hA2L : A2.length ≤ 30 := by rw [hA2]; simp only [List.length_append, List.length_cons, List.length_nil]; omega
  have t2 := fun W => (show (Op.stringOp .add (tx A1) (tx (nm k))).run Tryd.prog W = .ok (.string (tx A2)) W from by rw [hA2]; exact cat_run (A1) (nm k) (by first | omega | (simp only [List.length_append, List.length_cons, List.length_nil]; omega)) W)
  have HA0 := shade hA0
  have HA1 := shade hA1
  have HA2 := shade hA2
  clear hA0 hA0L hA1 hA1L hA2 hA2L
  clear zd za zb zk
  go_enter Tryd.func36, Tryd.ntmps36
  go_wp2_with fail
  have HE := shade (show Holds5 (w.alloc (.cells #[.string (⟨#[115, 101, 116]⟩ : ByteArray), .int .i64 d, .int .i64 a, .int .i64 b, .int .i64 k] 24)) w.heap.size 24 #[.string (⟨#[115, 101, 116]⟩ : ByteArray), .int .i64 d, .int .i64 a, .int .i64 b, .int .i64 k] from Holds5.fresh w 24 #[.string (⟨#[115, 101, 116]⟩ : ByteArray), .int .i64 d, .int .i64 a, .int .i64 b, .int .i64 k])
  have HG := shade (World.grownBy_alloc w (.cells #[.string (⟨#[115, 101, 116]⟩ : ByteArray), .int .i64 d, .int .i64 a, .int .i64 b, .int .i64 k] 24) none)
  obtain ⟨W1, hW⟩ : ∃ W1, w.alloc (.cells #[.string (⟨#[115, 101, 116]⟩ : ByteArray), .int .i64 d, .int .i64 a, .int .i64 b, .int .i64 k] 24) = W1 := ⟨_, rfl⟩
  rw [hW] at HE HG ⊢
  have HS := shade (show W1.drew.cell? ⟨w.heap.size, 1, none⟩ = some (.int .i64 d) ∧ W1.drew.cell? ⟨w.heap.size, 4, none⟩ = some (.int .i64 k) from ⟨(by simpa using HE.out.look 1), (by simpa using HE.out.look 4)⟩)
  clear hW HE
  go_region_held3 (fun w' => w'.cell? ⟨w.heap.size, 1, none⟩ = some (.int .i64 d) ∧ w'.cell? ⟨w.heap.size, 4, none⟩ = some (.int .i64 k)) (with_reducible exact HS.out) (first | (go_at_call 58; refine (number_is _ _ (by omega)).mono ?_; rintro e w2 ⟨rfl, rfl⟩))
  go_wp2_with fail
  go_ret
  refine ⟨?_, grown_same HG.out (grown_drew1 _)⟩
  show Ending.returned (Value.string _) = Ending.returned (Value.string _)
  congr 2
  rw [HA2.out, HA1.out, HA0.out]
  simp [instT, partT, partV]


set_option maxRecDepth 100000 in
set_option maxHeartbeats 4000000 in
theorem specShow_1 (d a b k : Nat) (w : World) (hd : d < 4) (ha : a < 4) (hb : b < 4) (hk : k < 1000) :
    Calls Tryd.prog 36 #[IV (⟨#[97, 100, 100]⟩ : ByteArray) d a b k] w fun e w' => e = .returned (.string (tx (instT [97, 100, 100] [68, 65, 66] d a b k))) ∧ w.grownBy w' none := by
  have zd := nml d (by omega); have za := nml a (by omega); have zb := nml b (by omega); have zk := nml k hk
  obtain ⟨A0, hA0⟩ : ∃ A : List UInt8, A = [97, 100, 100] ++ [32, 114] := ⟨_, rfl⟩
  have hA0L : A0.length ≤ 10 := by rw [hA0]; simp only [List.length_append, List.length_cons, List.length_nil]; omega
  have t0 := fun W => (show (Op.stringOp .add (⟨#[97, 100, 100]⟩ : ByteArray) (⟨#[32, 114]⟩ : ByteArray)).run Tryd.prog W = .ok (.string (tx A0)) W from by rw [hA0]; exact cat_run ([97, 100, 100]) ([32, 114]) (by first | omega | (simp only [List.length_append, List.length_cons, List.length_nil]; omega)) W)
  obtain ⟨A1, hA1⟩ : ∃ A : List UInt8, A = A0 ++ nm d := ⟨_, rfl⟩
  have hA1L : A1.length ≤ 20 := by rw [hA1]; simp only [List.length_append, List.length_cons, List.length_nil]; omega
  have t1 := fun W => (show (Op.stringOp .add (tx A0) (tx (nm d))).run Tryd.prog W = .ok (.string (tx A1)) W from by rw [hA1]; exact cat_run (A0) (nm d) (by first | omega | (simp only [List.length_append, List.length_cons, List.length_nil]; omega)) W)
  obtain ⟨A2, hA2⟩ : ∃ A : List UInt8, A = A1 ++ [32, 114] := ⟨_, rfl⟩
  have hA2L : A2.length ≤ 30 := by rw [hA2]; simp only [List.length_append, List.length_cons, List.length_nil]; omega
  have t2 := fun W => (show (Op.stringOp .add (tx A1) (⟨#[32, 114]⟩ : ByteArray)).run Tryd.prog W = .ok (.string (tx A2)) W from by rw [hA2]; exact cat_run (A1) ([32, 114]) (by first | omega | (simp only [List.length_append, List.length_cons, List.length_nil]; omega)) W)
  obtain ⟨A3, hA3⟩ : ∃ A : List UInt8, A = A2 ++ nm a := ⟨_, rfl⟩
  have hA3L : A3.length ≤ 40 := by rw [hA3]; simp only [List.length_append, List.length_cons, List.length_nil]; omega
  have t3 := fun W => (show (Op.stringOp .add (tx A2) (tx (nm a))).run Tryd.prog W = .ok (.string (tx A3)) W from by rw [hA3]; exact cat_run (A2) (nm a) (by first | omega | (simp only [List.length_append, List.length_cons, List.length_nil]; omega)) W)
  obtain ⟨A4, hA4⟩ : ∃ A : List UInt8, A = A3 ++ [32, 114] := ⟨_, rfl⟩
  have hA4L : A4.length ≤ 50 := by rw [hA4]; simp only [List.length_append, List.length_cons, List.length_nil]; omega
  have t4 := fun W => (show (Op.stringOp .add (tx A3) (⟨#[32, 114]⟩ : ByteArray)).run Tryd.prog W = .ok (.string (tx A4)) W from by rw [hA4]; exact cat_run (A3) ([32, 114]) (by first | omega | (simp only [List.length_append, List.length_cons, List.length_nil]; omega)) W)
  obtain ⟨A5, hA5⟩ : ∃ A : List UInt8, A = A4 ++ nm b := ⟨_, rfl⟩
  have hA5L : A5.length ≤ 60 := by rw [hA5]; simp only [List.length_append, List.length_cons, List.length_nil]; omega
  have t5 := fun W => (show (Op.stringOp .add (tx A4) (tx (nm b))).run Tryd.prog W = .ok (.string (tx A5)) W from by rw [hA5]; exact cat_run (A4) (nm b) (by first | omega | (simp only [List.length_append, List.length_cons, List.length_nil]; omega)) W)
  have HA0 := shade hA0
  have HA1 := shade hA1
  have HA2 := shade hA2
  have HA3 := shade hA3
  have HA4 := shade hA4
  have HA5 := shade hA5
  clear hA0 hA0L hA1 hA1L hA2 hA2L hA3 hA3L hA4 hA4L hA5 hA5L
  clear zd za zb zk
  go_enter Tryd.func36, Tryd.ntmps36
  go_wp2_with fail
  have HE := shade (show Holds5 (w.alloc (.cells #[.string (⟨#[97, 100, 100]⟩ : ByteArray), .int .i64 d, .int .i64 a, .int .i64 b, .int .i64 k] 24)) w.heap.size 24 #[.string (⟨#[97, 100, 100]⟩ : ByteArray), .int .i64 d, .int .i64 a, .int .i64 b, .int .i64 k] from Holds5.fresh w 24 #[.string (⟨#[97, 100, 100]⟩ : ByteArray), .int .i64 d, .int .i64 a, .int .i64 b, .int .i64 k])
  have HG := shade (World.grownBy_alloc w (.cells #[.string (⟨#[97, 100, 100]⟩ : ByteArray), .int .i64 d, .int .i64 a, .int .i64 b, .int .i64 k] 24) none)
  obtain ⟨W1, hW⟩ : ∃ W1, w.alloc (.cells #[.string (⟨#[97, 100, 100]⟩ : ByteArray), .int .i64 d, .int .i64 a, .int .i64 b, .int .i64 k] 24) = W1 := ⟨_, rfl⟩
  rw [hW] at HE HG ⊢
  have HS := shade (show W1.drew.cell? ⟨w.heap.size, 0, none⟩ = some (.string (⟨#[97, 100, 100]⟩ : ByteArray)) ∧ W1.drew.cell? ⟨w.heap.size, 1, none⟩ = some (.int .i64 d) ∧ W1.drew.cell? ⟨w.heap.size, 2, none⟩ = some (.int .i64 a) ∧ W1.drew.cell? ⟨w.heap.size, 3, none⟩ = some (.int .i64 b) from ⟨(by simpa using HE.out.look 0), ⟨(by simpa using HE.out.look 1), ⟨(by simpa using HE.out.look 2), (by simpa using HE.out.look 3)⟩⟩⟩)
  clear hW HE
  go_region_held3 (fun w' => w'.cell? ⟨w.heap.size, 0, none⟩ = some (.string (⟨#[97, 100, 100]⟩ : ByteArray)) ∧ w'.cell? ⟨w.heap.size, 1, none⟩ = some (.int .i64 d) ∧ w'.cell? ⟨w.heap.size, 2, none⟩ = some (.int .i64 a) ∧ w'.cell? ⟨w.heap.size, 3, none⟩ = some (.int .i64 b)) (with_reducible exact HS.out) (first | (go_at_call 58; refine (number_is _ _ (by omega)).mono ?_; rintro e w2 ⟨rfl, rfl⟩))
  go_wp2_with fail
  go_ret
  refine ⟨?_, grown_same HG.out (grown_drew1 _)⟩
  show Ending.returned (Value.string _) = Ending.returned (Value.string _)
  congr 2
  rw [HA5.out, HA4.out, HA3.out, HA2.out, HA1.out, HA0.out]
  simp [instT, partT, partV]


set_option maxRecDepth 100000 in
set_option maxHeartbeats 4000000 in
theorem specShow_2 (d a b k : Nat) (w : World) (hd : d < 4) (ha : a < 4) (hb : b < 4) (hk : k < 1000) :
    Calls Tryd.prog 36 #[IV (⟨#[115, 117, 98]⟩ : ByteArray) d a b k] w fun e w' => e = .returned (.string (tx (instT [115, 117, 98] [68, 65, 66] d a b k))) ∧ w.grownBy w' none := by
  have zd := nml d (by omega); have za := nml a (by omega); have zb := nml b (by omega); have zk := nml k hk
  obtain ⟨A0, hA0⟩ : ∃ A : List UInt8, A = [115, 117, 98] ++ [32, 114] := ⟨_, rfl⟩
  have hA0L : A0.length ≤ 10 := by rw [hA0]; simp only [List.length_append, List.length_cons, List.length_nil]; omega
  have t0 := fun W => (show (Op.stringOp .add (⟨#[115, 117, 98]⟩ : ByteArray) (⟨#[32, 114]⟩ : ByteArray)).run Tryd.prog W = .ok (.string (tx A0)) W from by rw [hA0]; exact cat_run ([115, 117, 98]) ([32, 114]) (by first | omega | (simp only [List.length_append, List.length_cons, List.length_nil]; omega)) W)
  obtain ⟨A1, hA1⟩ : ∃ A : List UInt8, A = A0 ++ nm d := ⟨_, rfl⟩
  have hA1L : A1.length ≤ 20 := by rw [hA1]; simp only [List.length_append, List.length_cons, List.length_nil]; omega
  have t1 := fun W => (show (Op.stringOp .add (tx A0) (tx (nm d))).run Tryd.prog W = .ok (.string (tx A1)) W from by rw [hA1]; exact cat_run (A0) (nm d) (by first | omega | (simp only [List.length_append, List.length_cons, List.length_nil]; omega)) W)
  obtain ⟨A2, hA2⟩ : ∃ A : List UInt8, A = A1 ++ [32, 114] := ⟨_, rfl⟩
  have hA2L : A2.length ≤ 30 := by rw [hA2]; simp only [List.length_append, List.length_cons, List.length_nil]; omega
  have t2 := fun W => (show (Op.stringOp .add (tx A1) (⟨#[32, 114]⟩ : ByteArray)).run Tryd.prog W = .ok (.string (tx A2)) W from by rw [hA2]; exact cat_run (A1) ([32, 114]) (by first | omega | (simp only [List.length_append, List.length_cons, List.length_nil]; omega)) W)
  obtain ⟨A3, hA3⟩ : ∃ A : List UInt8, A = A2 ++ nm a := ⟨_, rfl⟩
  have hA3L : A3.length ≤ 40 := by rw [hA3]; simp only [List.length_append, List.length_cons, List.length_nil]; omega
  have t3 := fun W => (show (Op.stringOp .add (tx A2) (tx (nm a))).run Tryd.prog W = .ok (.string (tx A3)) W from by rw [hA3]; exact cat_run (A2) (nm a) (by first | omega | (simp only [List.length_append, List.length_cons, List.length_nil]; omega)) W)
  obtain ⟨A4, hA4⟩ : ∃ A : List UInt8, A = A3 ++ [32, 114] := ⟨_, rfl⟩
  have hA4L : A4.length ≤ 50 := by rw [hA4]; simp only [List.length_append, List.length_cons, List.length_nil]; omega
  have t4 := fun W => (show (Op.stringOp .add (tx A3) (⟨#[32, 114]⟩ : ByteArray)).run Tryd.prog W = .ok (.string (tx A4)) W from by rw [hA4]; exact cat_run (A3) ([32, 114]) (by first | omega | (simp only [List.length_append, List.length_cons, List.length_nil]; omega)) W)
  obtain ⟨A5, hA5⟩ : ∃ A : List UInt8, A = A4 ++ nm b := ⟨_, rfl⟩
  have hA5L : A5.length ≤ 60 := by rw [hA5]; simp only [List.length_append, List.length_cons, List.length_nil]; omega
  have t5 := fun W => (show (Op.stringOp .add (tx A4) (tx (nm b))).run Tryd.prog W = .ok (.string (tx A5)) W from by rw [hA5]; exact cat_run (A4) (nm b) (by first | omega | (simp only [List.length_append, List.length_cons, List.length_nil]; omega)) W)
  have HA0 := shade hA0
  have HA1 := shade hA1
  have HA2 := shade hA2
  have HA3 := shade hA3
  have HA4 := shade hA4
  have HA5 := shade hA5
  clear hA0 hA0L hA1 hA1L hA2 hA2L hA3 hA3L hA4 hA4L hA5 hA5L
  clear zd za zb zk
  go_enter Tryd.func36, Tryd.ntmps36
  go_wp2_with fail
  have HE := shade (show Holds5 (w.alloc (.cells #[.string (⟨#[115, 117, 98]⟩ : ByteArray), .int .i64 d, .int .i64 a, .int .i64 b, .int .i64 k] 24)) w.heap.size 24 #[.string (⟨#[115, 117, 98]⟩ : ByteArray), .int .i64 d, .int .i64 a, .int .i64 b, .int .i64 k] from Holds5.fresh w 24 #[.string (⟨#[115, 117, 98]⟩ : ByteArray), .int .i64 d, .int .i64 a, .int .i64 b, .int .i64 k])
  have HG := shade (World.grownBy_alloc w (.cells #[.string (⟨#[115, 117, 98]⟩ : ByteArray), .int .i64 d, .int .i64 a, .int .i64 b, .int .i64 k] 24) none)
  obtain ⟨W1, hW⟩ : ∃ W1, w.alloc (.cells #[.string (⟨#[115, 117, 98]⟩ : ByteArray), .int .i64 d, .int .i64 a, .int .i64 b, .int .i64 k] 24) = W1 := ⟨_, rfl⟩
  rw [hW] at HE HG ⊢
  have HS := shade (show W1.drew.cell? ⟨w.heap.size, 0, none⟩ = some (.string (⟨#[115, 117, 98]⟩ : ByteArray)) ∧ W1.drew.cell? ⟨w.heap.size, 1, none⟩ = some (.int .i64 d) ∧ W1.drew.cell? ⟨w.heap.size, 2, none⟩ = some (.int .i64 a) ∧ W1.drew.cell? ⟨w.heap.size, 3, none⟩ = some (.int .i64 b) from ⟨(by simpa using HE.out.look 0), ⟨(by simpa using HE.out.look 1), ⟨(by simpa using HE.out.look 2), (by simpa using HE.out.look 3)⟩⟩⟩)
  clear hW HE
  go_region_held3 (fun w' => w'.cell? ⟨w.heap.size, 0, none⟩ = some (.string (⟨#[115, 117, 98]⟩ : ByteArray)) ∧ w'.cell? ⟨w.heap.size, 1, none⟩ = some (.int .i64 d) ∧ w'.cell? ⟨w.heap.size, 2, none⟩ = some (.int .i64 a) ∧ w'.cell? ⟨w.heap.size, 3, none⟩ = some (.int .i64 b)) (with_reducible exact HS.out) (first | (go_at_call 58; refine (number_is _ _ (by omega)).mono ?_; rintro e w2 ⟨rfl, rfl⟩))
  go_wp2_with fail
  go_ret
  refine ⟨?_, grown_same HG.out (grown_drew1 _)⟩
  show Ending.returned (Value.string _) = Ending.returned (Value.string _)
  congr 2
  rw [HA5.out, HA4.out, HA3.out, HA2.out, HA1.out, HA0.out]
  simp [instT, partT, partV]


set_option maxRecDepth 100000 in
set_option maxHeartbeats 4000000 in
theorem specShow_3 (d a b k : Nat) (w : World) (hd : d < 4) (ha : a < 4) (hb : b < 4) (hk : k < 1000) :
    Calls Tryd.prog 36 #[IV (⟨#[109, 117, 108]⟩ : ByteArray) d a b k] w fun e w' => e = .returned (.string (tx (instT [109, 117, 108] [68, 65, 66] d a b k))) ∧ w.grownBy w' none := by
  have zd := nml d (by omega); have za := nml a (by omega); have zb := nml b (by omega); have zk := nml k hk
  obtain ⟨A0, hA0⟩ : ∃ A : List UInt8, A = [109, 117, 108] ++ [32, 114] := ⟨_, rfl⟩
  have hA0L : A0.length ≤ 10 := by rw [hA0]; simp only [List.length_append, List.length_cons, List.length_nil]; omega
  have t0 := fun W => (show (Op.stringOp .add (⟨#[109, 117, 108]⟩ : ByteArray) (⟨#[32, 114]⟩ : ByteArray)).run Tryd.prog W = .ok (.string (tx A0)) W from by rw [hA0]; exact cat_run ([109, 117, 108]) ([32, 114]) (by first | omega | (simp only [List.length_append, List.length_cons, List.length_nil]; omega)) W)
  obtain ⟨A1, hA1⟩ : ∃ A : List UInt8, A = A0 ++ nm d := ⟨_, rfl⟩
  have hA1L : A1.length ≤ 20 := by rw [hA1]; simp only [List.length_append, List.length_cons, List.length_nil]; omega
  have t1 := fun W => (show (Op.stringOp .add (tx A0) (tx (nm d))).run Tryd.prog W = .ok (.string (tx A1)) W from by rw [hA1]; exact cat_run (A0) (nm d) (by first | omega | (simp only [List.length_append, List.length_cons, List.length_nil]; omega)) W)
  obtain ⟨A2, hA2⟩ : ∃ A : List UInt8, A = A1 ++ [32, 114] := ⟨_, rfl⟩
  have hA2L : A2.length ≤ 30 := by rw [hA2]; simp only [List.length_append, List.length_cons, List.length_nil]; omega
  have t2 := fun W => (show (Op.stringOp .add (tx A1) (⟨#[32, 114]⟩ : ByteArray)).run Tryd.prog W = .ok (.string (tx A2)) W from by rw [hA2]; exact cat_run (A1) ([32, 114]) (by first | omega | (simp only [List.length_append, List.length_cons, List.length_nil]; omega)) W)
  obtain ⟨A3, hA3⟩ : ∃ A : List UInt8, A = A2 ++ nm a := ⟨_, rfl⟩
  have hA3L : A3.length ≤ 40 := by rw [hA3]; simp only [List.length_append, List.length_cons, List.length_nil]; omega
  have t3 := fun W => (show (Op.stringOp .add (tx A2) (tx (nm a))).run Tryd.prog W = .ok (.string (tx A3)) W from by rw [hA3]; exact cat_run (A2) (nm a) (by first | omega | (simp only [List.length_append, List.length_cons, List.length_nil]; omega)) W)
  obtain ⟨A4, hA4⟩ : ∃ A : List UInt8, A = A3 ++ [32, 114] := ⟨_, rfl⟩
  have hA4L : A4.length ≤ 50 := by rw [hA4]; simp only [List.length_append, List.length_cons, List.length_nil]; omega
  have t4 := fun W => (show (Op.stringOp .add (tx A3) (⟨#[32, 114]⟩ : ByteArray)).run Tryd.prog W = .ok (.string (tx A4)) W from by rw [hA4]; exact cat_run (A3) ([32, 114]) (by first | omega | (simp only [List.length_append, List.length_cons, List.length_nil]; omega)) W)
  obtain ⟨A5, hA5⟩ : ∃ A : List UInt8, A = A4 ++ nm b := ⟨_, rfl⟩
  have hA5L : A5.length ≤ 60 := by rw [hA5]; simp only [List.length_append, List.length_cons, List.length_nil]; omega
  have t5 := fun W => (show (Op.stringOp .add (tx A4) (tx (nm b))).run Tryd.prog W = .ok (.string (tx A5)) W from by rw [hA5]; exact cat_run (A4) (nm b) (by first | omega | (simp only [List.length_append, List.length_cons, List.length_nil]; omega)) W)
  have HA0 := shade hA0
  have HA1 := shade hA1
  have HA2 := shade hA2
  have HA3 := shade hA3
  have HA4 := shade hA4
  have HA5 := shade hA5
  clear hA0 hA0L hA1 hA1L hA2 hA2L hA3 hA3L hA4 hA4L hA5 hA5L
  clear zd za zb zk
  go_enter Tryd.func36, Tryd.ntmps36
  go_wp2_with fail
  have HE := shade (show Holds5 (w.alloc (.cells #[.string (⟨#[109, 117, 108]⟩ : ByteArray), .int .i64 d, .int .i64 a, .int .i64 b, .int .i64 k] 24)) w.heap.size 24 #[.string (⟨#[109, 117, 108]⟩ : ByteArray), .int .i64 d, .int .i64 a, .int .i64 b, .int .i64 k] from Holds5.fresh w 24 #[.string (⟨#[109, 117, 108]⟩ : ByteArray), .int .i64 d, .int .i64 a, .int .i64 b, .int .i64 k])
  have HG := shade (World.grownBy_alloc w (.cells #[.string (⟨#[109, 117, 108]⟩ : ByteArray), .int .i64 d, .int .i64 a, .int .i64 b, .int .i64 k] 24) none)
  obtain ⟨W1, hW⟩ : ∃ W1, w.alloc (.cells #[.string (⟨#[109, 117, 108]⟩ : ByteArray), .int .i64 d, .int .i64 a, .int .i64 b, .int .i64 k] 24) = W1 := ⟨_, rfl⟩
  rw [hW] at HE HG ⊢
  have HS := shade (show W1.drew.cell? ⟨w.heap.size, 0, none⟩ = some (.string (⟨#[109, 117, 108]⟩ : ByteArray)) ∧ W1.drew.cell? ⟨w.heap.size, 1, none⟩ = some (.int .i64 d) ∧ W1.drew.cell? ⟨w.heap.size, 2, none⟩ = some (.int .i64 a) ∧ W1.drew.cell? ⟨w.heap.size, 3, none⟩ = some (.int .i64 b) from ⟨(by simpa using HE.out.look 0), ⟨(by simpa using HE.out.look 1), ⟨(by simpa using HE.out.look 2), (by simpa using HE.out.look 3)⟩⟩⟩)
  clear hW HE
  go_region_held3 (fun w' => w'.cell? ⟨w.heap.size, 0, none⟩ = some (.string (⟨#[109, 117, 108]⟩ : ByteArray)) ∧ w'.cell? ⟨w.heap.size, 1, none⟩ = some (.int .i64 d) ∧ w'.cell? ⟨w.heap.size, 2, none⟩ = some (.int .i64 a) ∧ w'.cell? ⟨w.heap.size, 3, none⟩ = some (.int .i64 b)) (with_reducible exact HS.out) (first | (go_at_call 58; refine (number_is _ _ (by omega)).mono ?_; rintro e w2 ⟨rfl, rfl⟩))
  go_wp2_with fail
  go_ret
  refine ⟨?_, grown_same HG.out (grown_drew1 _)⟩
  show Ending.returned (Value.string _) = Ending.returned (Value.string _)
  congr 2
  rw [HA5.out, HA4.out, HA3.out, HA2.out, HA1.out, HA0.out]
  simp [instT, partT, partV]


set_option maxRecDepth 100000 in
set_option maxHeartbeats 4000000 in
theorem specShow_4 (d a b k : Nat) (w : World) (hd : d < 4) (ha : a < 4) (hb : b < 4) (hk : k < 1000) :
    Calls Tryd.prog 36 #[IV (⟨#[108, 116]⟩ : ByteArray) d a b k] w fun e w' => e = .returned (.string (tx (instT [108, 116] [68, 65, 66] d a b k))) ∧ w.grownBy w' none := by
  have zd := nml d (by omega); have za := nml a (by omega); have zb := nml b (by omega); have zk := nml k hk
  obtain ⟨A0, hA0⟩ : ∃ A : List UInt8, A = [108, 116] ++ [32, 114] := ⟨_, rfl⟩
  have hA0L : A0.length ≤ 10 := by rw [hA0]; simp only [List.length_append, List.length_cons, List.length_nil]; omega
  have t0 := fun W => (show (Op.stringOp .add (⟨#[108, 116]⟩ : ByteArray) (⟨#[32, 114]⟩ : ByteArray)).run Tryd.prog W = .ok (.string (tx A0)) W from by rw [hA0]; exact cat_run ([108, 116]) ([32, 114]) (by first | omega | (simp only [List.length_append, List.length_cons, List.length_nil]; omega)) W)
  obtain ⟨A1, hA1⟩ : ∃ A : List UInt8, A = A0 ++ nm d := ⟨_, rfl⟩
  have hA1L : A1.length ≤ 20 := by rw [hA1]; simp only [List.length_append, List.length_cons, List.length_nil]; omega
  have t1 := fun W => (show (Op.stringOp .add (tx A0) (tx (nm d))).run Tryd.prog W = .ok (.string (tx A1)) W from by rw [hA1]; exact cat_run (A0) (nm d) (by first | omega | (simp only [List.length_append, List.length_cons, List.length_nil]; omega)) W)
  obtain ⟨A2, hA2⟩ : ∃ A : List UInt8, A = A1 ++ [32, 114] := ⟨_, rfl⟩
  have hA2L : A2.length ≤ 30 := by rw [hA2]; simp only [List.length_append, List.length_cons, List.length_nil]; omega
  have t2 := fun W => (show (Op.stringOp .add (tx A1) (⟨#[32, 114]⟩ : ByteArray)).run Tryd.prog W = .ok (.string (tx A2)) W from by rw [hA2]; exact cat_run (A1) ([32, 114]) (by first | omega | (simp only [List.length_append, List.length_cons, List.length_nil]; omega)) W)
  obtain ⟨A3, hA3⟩ : ∃ A : List UInt8, A = A2 ++ nm a := ⟨_, rfl⟩
  have hA3L : A3.length ≤ 40 := by rw [hA3]; simp only [List.length_append, List.length_cons, List.length_nil]; omega
  have t3 := fun W => (show (Op.stringOp .add (tx A2) (tx (nm a))).run Tryd.prog W = .ok (.string (tx A3)) W from by rw [hA3]; exact cat_run (A2) (nm a) (by first | omega | (simp only [List.length_append, List.length_cons, List.length_nil]; omega)) W)
  obtain ⟨A4, hA4⟩ : ∃ A : List UInt8, A = A3 ++ [32, 114] := ⟨_, rfl⟩
  have hA4L : A4.length ≤ 50 := by rw [hA4]; simp only [List.length_append, List.length_cons, List.length_nil]; omega
  have t4 := fun W => (show (Op.stringOp .add (tx A3) (⟨#[32, 114]⟩ : ByteArray)).run Tryd.prog W = .ok (.string (tx A4)) W from by rw [hA4]; exact cat_run (A3) ([32, 114]) (by first | omega | (simp only [List.length_append, List.length_cons, List.length_nil]; omega)) W)
  obtain ⟨A5, hA5⟩ : ∃ A : List UInt8, A = A4 ++ nm b := ⟨_, rfl⟩
  have hA5L : A5.length ≤ 60 := by rw [hA5]; simp only [List.length_append, List.length_cons, List.length_nil]; omega
  have t5 := fun W => (show (Op.stringOp .add (tx A4) (tx (nm b))).run Tryd.prog W = .ok (.string (tx A5)) W from by rw [hA5]; exact cat_run (A4) (nm b) (by first | omega | (simp only [List.length_append, List.length_cons, List.length_nil]; omega)) W)
  have HA0 := shade hA0
  have HA1 := shade hA1
  have HA2 := shade hA2
  have HA3 := shade hA3
  have HA4 := shade hA4
  have HA5 := shade hA5
  clear hA0 hA0L hA1 hA1L hA2 hA2L hA3 hA3L hA4 hA4L hA5 hA5L
  clear zd za zb zk
  go_enter Tryd.func36, Tryd.ntmps36
  go_wp2_with fail
  have HE := shade (show Holds5 (w.alloc (.cells #[.string (⟨#[108, 116]⟩ : ByteArray), .int .i64 d, .int .i64 a, .int .i64 b, .int .i64 k] 24)) w.heap.size 24 #[.string (⟨#[108, 116]⟩ : ByteArray), .int .i64 d, .int .i64 a, .int .i64 b, .int .i64 k] from Holds5.fresh w 24 #[.string (⟨#[108, 116]⟩ : ByteArray), .int .i64 d, .int .i64 a, .int .i64 b, .int .i64 k])
  have HG := shade (World.grownBy_alloc w (.cells #[.string (⟨#[108, 116]⟩ : ByteArray), .int .i64 d, .int .i64 a, .int .i64 b, .int .i64 k] 24) none)
  obtain ⟨W1, hW⟩ : ∃ W1, w.alloc (.cells #[.string (⟨#[108, 116]⟩ : ByteArray), .int .i64 d, .int .i64 a, .int .i64 b, .int .i64 k] 24) = W1 := ⟨_, rfl⟩
  rw [hW] at HE HG ⊢
  have HS := shade (show W1.drew.cell? ⟨w.heap.size, 0, none⟩ = some (.string (⟨#[108, 116]⟩ : ByteArray)) ∧ W1.drew.cell? ⟨w.heap.size, 1, none⟩ = some (.int .i64 d) ∧ W1.drew.cell? ⟨w.heap.size, 2, none⟩ = some (.int .i64 a) ∧ W1.drew.cell? ⟨w.heap.size, 3, none⟩ = some (.int .i64 b) from ⟨(by simpa using HE.out.look 0), ⟨(by simpa using HE.out.look 1), ⟨(by simpa using HE.out.look 2), (by simpa using HE.out.look 3)⟩⟩⟩)
  clear hW HE
  go_region_held3 (fun w' => w'.cell? ⟨w.heap.size, 0, none⟩ = some (.string (⟨#[108, 116]⟩ : ByteArray)) ∧ w'.cell? ⟨w.heap.size, 1, none⟩ = some (.int .i64 d) ∧ w'.cell? ⟨w.heap.size, 2, none⟩ = some (.int .i64 a) ∧ w'.cell? ⟨w.heap.size, 3, none⟩ = some (.int .i64 b)) (with_reducible exact HS.out) (first | (go_at_call 58; refine (number_is _ _ (by omega)).mono ?_; rintro e w2 ⟨rfl, rfl⟩))
  go_wp2_with fail
  go_ret
  refine ⟨?_, grown_same HG.out (grown_drew1 _)⟩
  show Ending.returned (Value.string _) = Ending.returned (Value.string _)
  congr 2
  rw [HA5.out, HA4.out, HA3.out, HA2.out, HA1.out, HA0.out]
  simp [instT, partT, partV]


set_option maxRecDepth 100000 in
set_option maxHeartbeats 4000000 in
theorem specShow_5 (d a b k : Nat) (w : World) (hd : d < 4) (ha : a < 4) (hb : b < 4) (hk : k < 1000) :
    Calls Tryd.prog 36 #[IV (⟨#[108, 100]⟩ : ByteArray) d a b k] w fun e w' => e = .returned (.string (tx (instT [108, 100] [68, 65, 75] d a b k))) ∧ w.grownBy w' none := by
  have zd := nml d (by omega); have za := nml a (by omega); have zb := nml b (by omega); have zk := nml k hk
  obtain ⟨A0, hA0⟩ : ∃ A : List UInt8, A = [108, 100] ++ [32, 114] := ⟨_, rfl⟩
  have hA0L : A0.length ≤ 10 := by rw [hA0]; simp only [List.length_append, List.length_cons, List.length_nil]; omega
  have t0 := fun W => (show (Op.stringOp .add (⟨#[108, 100]⟩ : ByteArray) (⟨#[32, 114]⟩ : ByteArray)).run Tryd.prog W = .ok (.string (tx A0)) W from by rw [hA0]; exact cat_run ([108, 100]) ([32, 114]) (by first | omega | (simp only [List.length_append, List.length_cons, List.length_nil]; omega)) W)
  obtain ⟨A1, hA1⟩ : ∃ A : List UInt8, A = A0 ++ nm d := ⟨_, rfl⟩
  have hA1L : A1.length ≤ 20 := by rw [hA1]; simp only [List.length_append, List.length_cons, List.length_nil]; omega
  have t1 := fun W => (show (Op.stringOp .add (tx A0) (tx (nm d))).run Tryd.prog W = .ok (.string (tx A1)) W from by rw [hA1]; exact cat_run (A0) (nm d) (by first | omega | (simp only [List.length_append, List.length_cons, List.length_nil]; omega)) W)
  obtain ⟨A2, hA2⟩ : ∃ A : List UInt8, A = A1 ++ [32, 114] := ⟨_, rfl⟩
  have hA2L : A2.length ≤ 30 := by rw [hA2]; simp only [List.length_append, List.length_cons, List.length_nil]; omega
  have t2 := fun W => (show (Op.stringOp .add (tx A1) (⟨#[32, 114]⟩ : ByteArray)).run Tryd.prog W = .ok (.string (tx A2)) W from by rw [hA2]; exact cat_run (A1) ([32, 114]) (by first | omega | (simp only [List.length_append, List.length_cons, List.length_nil]; omega)) W)
  obtain ⟨A3, hA3⟩ : ∃ A : List UInt8, A = A2 ++ nm a := ⟨_, rfl⟩
  have hA3L : A3.length ≤ 40 := by rw [hA3]; simp only [List.length_append, List.length_cons, List.length_nil]; omega
  have t3 := fun W => (show (Op.stringOp .add (tx A2) (tx (nm a))).run Tryd.prog W = .ok (.string (tx A3)) W from by rw [hA3]; exact cat_run (A2) (nm a) (by first | omega | (simp only [List.length_append, List.length_cons, List.length_nil]; omega)) W)
  obtain ⟨A4, hA4⟩ : ∃ A : List UInt8, A = A3 ++ [32] := ⟨_, rfl⟩
  have hA4L : A4.length ≤ 50 := by rw [hA4]; simp only [List.length_append, List.length_cons, List.length_nil]; omega
  have t4 := fun W => (show (Op.stringOp .add (tx A3) (⟨#[32]⟩ : ByteArray)).run Tryd.prog W = .ok (.string (tx A4)) W from by rw [hA4]; exact cat_run (A3) ([32]) (by first | omega | (simp only [List.length_append, List.length_cons, List.length_nil]; omega)) W)
  obtain ⟨A5, hA5⟩ : ∃ A : List UInt8, A = A4 ++ nm k := ⟨_, rfl⟩
  have hA5L : A5.length ≤ 60 := by rw [hA5]; simp only [List.length_append, List.length_cons, List.length_nil]; omega
  have t5 := fun W => (show (Op.stringOp .add (tx A4) (tx (nm k))).run Tryd.prog W = .ok (.string (tx A5)) W from by rw [hA5]; exact cat_run (A4) (nm k) (by first | omega | (simp only [List.length_append, List.length_cons, List.length_nil]; omega)) W)
  have HA0 := shade hA0
  have HA1 := shade hA1
  have HA2 := shade hA2
  have HA3 := shade hA3
  have HA4 := shade hA4
  have HA5 := shade hA5
  clear hA0 hA0L hA1 hA1L hA2 hA2L hA3 hA3L hA4 hA4L hA5 hA5L
  clear zd za zb zk
  go_enter Tryd.func36, Tryd.ntmps36
  go_wp2_with fail
  have HE := shade (show Holds5 (w.alloc (.cells #[.string (⟨#[108, 100]⟩ : ByteArray), .int .i64 d, .int .i64 a, .int .i64 b, .int .i64 k] 24)) w.heap.size 24 #[.string (⟨#[108, 100]⟩ : ByteArray), .int .i64 d, .int .i64 a, .int .i64 b, .int .i64 k] from Holds5.fresh w 24 #[.string (⟨#[108, 100]⟩ : ByteArray), .int .i64 d, .int .i64 a, .int .i64 b, .int .i64 k])
  have HG := shade (World.grownBy_alloc w (.cells #[.string (⟨#[108, 100]⟩ : ByteArray), .int .i64 d, .int .i64 a, .int .i64 b, .int .i64 k] 24) none)
  obtain ⟨W1, hW⟩ : ∃ W1, w.alloc (.cells #[.string (⟨#[108, 100]⟩ : ByteArray), .int .i64 d, .int .i64 a, .int .i64 b, .int .i64 k] 24) = W1 := ⟨_, rfl⟩
  rw [hW] at HE HG ⊢
  have HS := shade (show W1.drew.cell? ⟨w.heap.size, 0, none⟩ = some (.string (⟨#[108, 100]⟩ : ByteArray)) ∧ W1.drew.cell? ⟨w.heap.size, 1, none⟩ = some (.int .i64 d) ∧ W1.drew.cell? ⟨w.heap.size, 2, none⟩ = some (.int .i64 a) ∧ W1.drew.cell? ⟨w.heap.size, 4, none⟩ = some (.int .i64 k) from ⟨(by simpa using HE.out.look 0), ⟨(by simpa using HE.out.look 1), ⟨(by simpa using HE.out.look 2), (by simpa using HE.out.look 4)⟩⟩⟩)
  clear hW HE
  go_region_held3 (fun w' => w'.cell? ⟨w.heap.size, 0, none⟩ = some (.string (⟨#[108, 100]⟩ : ByteArray)) ∧ w'.cell? ⟨w.heap.size, 1, none⟩ = some (.int .i64 d) ∧ w'.cell? ⟨w.heap.size, 2, none⟩ = some (.int .i64 a) ∧ w'.cell? ⟨w.heap.size, 4, none⟩ = some (.int .i64 k)) (with_reducible exact HS.out) (first | (go_at_call 58; refine (number_is _ _ (by omega)).mono ?_; rintro e w2 ⟨rfl, rfl⟩))
  go_wp2_with fail
  go_ret
  refine ⟨?_, grown_same HG.out (grown_drew1 _)⟩
  show Ending.returned (Value.string _) = Ending.returned (Value.string _)
  congr 2
  rw [HA5.out, HA4.out, HA3.out, HA2.out, HA1.out, HA0.out]
  simp [instT, partT, partV]


set_option maxRecDepth 100000 in
set_option maxHeartbeats 4000000 in
theorem specShow_6 (d a b k : Nat) (w : World) (hd : d < 4) (ha : a < 4) (hb : b < 4) (hk : k < 1000) :
    Calls Tryd.prog 36 #[IV (⟨#[115, 116]⟩ : ByteArray) d a b k] w fun e w' => e = .returned (.string (tx (instT [115, 116] [68, 65, 75] d a b k))) ∧ w.grownBy w' none := by
  have zd := nml d (by omega); have za := nml a (by omega); have zb := nml b (by omega); have zk := nml k hk
  obtain ⟨A0, hA0⟩ : ∃ A : List UInt8, A = [115, 116] ++ [32, 114] := ⟨_, rfl⟩
  have hA0L : A0.length ≤ 10 := by rw [hA0]; simp only [List.length_append, List.length_cons, List.length_nil]; omega
  have t0 := fun W => (show (Op.stringOp .add (⟨#[115, 116]⟩ : ByteArray) (⟨#[32, 114]⟩ : ByteArray)).run Tryd.prog W = .ok (.string (tx A0)) W from by rw [hA0]; exact cat_run ([115, 116]) ([32, 114]) (by first | omega | (simp only [List.length_append, List.length_cons, List.length_nil]; omega)) W)
  obtain ⟨A1, hA1⟩ : ∃ A : List UInt8, A = A0 ++ nm d := ⟨_, rfl⟩
  have hA1L : A1.length ≤ 20 := by rw [hA1]; simp only [List.length_append, List.length_cons, List.length_nil]; omega
  have t1 := fun W => (show (Op.stringOp .add (tx A0) (tx (nm d))).run Tryd.prog W = .ok (.string (tx A1)) W from by rw [hA1]; exact cat_run (A0) (nm d) (by first | omega | (simp only [List.length_append, List.length_cons, List.length_nil]; omega)) W)
  obtain ⟨A2, hA2⟩ : ∃ A : List UInt8, A = A1 ++ [32, 114] := ⟨_, rfl⟩
  have hA2L : A2.length ≤ 30 := by rw [hA2]; simp only [List.length_append, List.length_cons, List.length_nil]; omega
  have t2 := fun W => (show (Op.stringOp .add (tx A1) (⟨#[32, 114]⟩ : ByteArray)).run Tryd.prog W = .ok (.string (tx A2)) W from by rw [hA2]; exact cat_run (A1) ([32, 114]) (by first | omega | (simp only [List.length_append, List.length_cons, List.length_nil]; omega)) W)
  obtain ⟨A3, hA3⟩ : ∃ A : List UInt8, A = A2 ++ nm a := ⟨_, rfl⟩
  have hA3L : A3.length ≤ 40 := by rw [hA3]; simp only [List.length_append, List.length_cons, List.length_nil]; omega
  have t3 := fun W => (show (Op.stringOp .add (tx A2) (tx (nm a))).run Tryd.prog W = .ok (.string (tx A3)) W from by rw [hA3]; exact cat_run (A2) (nm a) (by first | omega | (simp only [List.length_append, List.length_cons, List.length_nil]; omega)) W)
  obtain ⟨A4, hA4⟩ : ∃ A : List UInt8, A = A3 ++ [32] := ⟨_, rfl⟩
  have hA4L : A4.length ≤ 50 := by rw [hA4]; simp only [List.length_append, List.length_cons, List.length_nil]; omega
  have t4 := fun W => (show (Op.stringOp .add (tx A3) (⟨#[32]⟩ : ByteArray)).run Tryd.prog W = .ok (.string (tx A4)) W from by rw [hA4]; exact cat_run (A3) ([32]) (by first | omega | (simp only [List.length_append, List.length_cons, List.length_nil]; omega)) W)
  obtain ⟨A5, hA5⟩ : ∃ A : List UInt8, A = A4 ++ nm k := ⟨_, rfl⟩
  have hA5L : A5.length ≤ 60 := by rw [hA5]; simp only [List.length_append, List.length_cons, List.length_nil]; omega
  have t5 := fun W => (show (Op.stringOp .add (tx A4) (tx (nm k))).run Tryd.prog W = .ok (.string (tx A5)) W from by rw [hA5]; exact cat_run (A4) (nm k) (by first | omega | (simp only [List.length_append, List.length_cons, List.length_nil]; omega)) W)
  have HA0 := shade hA0
  have HA1 := shade hA1
  have HA2 := shade hA2
  have HA3 := shade hA3
  have HA4 := shade hA4
  have HA5 := shade hA5
  clear hA0 hA0L hA1 hA1L hA2 hA2L hA3 hA3L hA4 hA4L hA5 hA5L
  clear zd za zb zk
  go_enter Tryd.func36, Tryd.ntmps36
  go_wp2_with fail
  have HE := shade (show Holds5 (w.alloc (.cells #[.string (⟨#[115, 116]⟩ : ByteArray), .int .i64 d, .int .i64 a, .int .i64 b, .int .i64 k] 24)) w.heap.size 24 #[.string (⟨#[115, 116]⟩ : ByteArray), .int .i64 d, .int .i64 a, .int .i64 b, .int .i64 k] from Holds5.fresh w 24 #[.string (⟨#[115, 116]⟩ : ByteArray), .int .i64 d, .int .i64 a, .int .i64 b, .int .i64 k])
  have HG := shade (World.grownBy_alloc w (.cells #[.string (⟨#[115, 116]⟩ : ByteArray), .int .i64 d, .int .i64 a, .int .i64 b, .int .i64 k] 24) none)
  obtain ⟨W1, hW⟩ : ∃ W1, w.alloc (.cells #[.string (⟨#[115, 116]⟩ : ByteArray), .int .i64 d, .int .i64 a, .int .i64 b, .int .i64 k] 24) = W1 := ⟨_, rfl⟩
  rw [hW] at HE HG ⊢
  have HS := shade (show W1.drew.cell? ⟨w.heap.size, 0, none⟩ = some (.string (⟨#[115, 116]⟩ : ByteArray)) ∧ W1.drew.cell? ⟨w.heap.size, 1, none⟩ = some (.int .i64 d) ∧ W1.drew.cell? ⟨w.heap.size, 2, none⟩ = some (.int .i64 a) ∧ W1.drew.cell? ⟨w.heap.size, 4, none⟩ = some (.int .i64 k) from ⟨(by simpa using HE.out.look 0), ⟨(by simpa using HE.out.look 1), ⟨(by simpa using HE.out.look 2), (by simpa using HE.out.look 4)⟩⟩⟩)
  clear hW HE
  go_region_held3 (fun w' => w'.cell? ⟨w.heap.size, 0, none⟩ = some (.string (⟨#[115, 116]⟩ : ByteArray)) ∧ w'.cell? ⟨w.heap.size, 1, none⟩ = some (.int .i64 d) ∧ w'.cell? ⟨w.heap.size, 2, none⟩ = some (.int .i64 a) ∧ w'.cell? ⟨w.heap.size, 4, none⟩ = some (.int .i64 k)) (with_reducible exact HS.out) (first | (go_at_call 58; refine (number_is _ _ (by omega)).mono ?_; rintro e w2 ⟨rfl, rfl⟩))
  go_wp2_with fail
  go_ret
  refine ⟨?_, grown_same HG.out (grown_drew1 _)⟩
  show Ending.returned (Value.string _) = Ending.returned (Value.string _)
  congr 2
  rw [HA5.out, HA4.out, HA3.out, HA2.out, HA1.out, HA0.out]
  simp [instT, partT, partV]


set_option maxRecDepth 100000 in
set_option maxHeartbeats 4000000 in
theorem specShow_7 (d a b k : Nat) (w : World) (hd : d < 4) (ha : a < 4) (hb : b < 4) (hk : k < 1000) :
    Calls Tryd.prog 36 #[IV (⟨#[98, 122]⟩ : ByteArray) d a b k] w fun e w' => e = .returned (.string (tx (instT [98, 122] [65, 75] d a b k))) ∧ w.grownBy w' none := by
  have zd := nml d (by omega); have za := nml a (by omega); have zb := nml b (by omega); have zk := nml k hk
  obtain ⟨A0, hA0⟩ : ∃ A : List UInt8, A = [98, 122, 32, 114] ++ nm a := ⟨_, rfl⟩
  have hA0L : A0.length ≤ 10 := by rw [hA0]; simp only [List.length_append, List.length_cons, List.length_nil]; omega
  have t0 := fun W => (show (Op.stringOp .add (⟨#[98, 122, 32, 114]⟩ : ByteArray) (tx (nm a))).run Tryd.prog W = .ok (.string (tx A0)) W from by rw [hA0]; exact cat_run ([98, 122, 32, 114]) (nm a) (by first | omega | (simp only [List.length_append, List.length_cons, List.length_nil]; omega)) W)
  obtain ⟨A1, hA1⟩ : ∃ A : List UInt8, A = A0 ++ [32] := ⟨_, rfl⟩
  have hA1L : A1.length ≤ 20 := by rw [hA1]; simp only [List.length_append, List.length_cons, List.length_nil]; omega
  have t1 := fun W => (show (Op.stringOp .add (tx A0) (⟨#[32]⟩ : ByteArray)).run Tryd.prog W = .ok (.string (tx A1)) W from by rw [hA1]; exact cat_run (A0) ([32]) (by first | omega | (simp only [List.length_append, List.length_cons, List.length_nil]; omega)) W)
  obtain ⟨A2, hA2⟩ : ∃ A : List UInt8, A = A1 ++ nm k := ⟨_, rfl⟩
  have hA2L : A2.length ≤ 30 := by rw [hA2]; simp only [List.length_append, List.length_cons, List.length_nil]; omega
  have t2 := fun W => (show (Op.stringOp .add (tx A1) (tx (nm k))).run Tryd.prog W = .ok (.string (tx A2)) W from by rw [hA2]; exact cat_run (A1) (nm k) (by first | omega | (simp only [List.length_append, List.length_cons, List.length_nil]; omega)) W)
  have HA0 := shade hA0
  have HA1 := shade hA1
  have HA2 := shade hA2
  clear hA0 hA0L hA1 hA1L hA2 hA2L
  clear zd za zb zk
  go_enter Tryd.func36, Tryd.ntmps36
  go_wp2_with fail
  have HE := shade (show Holds5 (w.alloc (.cells #[.string (⟨#[98, 122]⟩ : ByteArray), .int .i64 d, .int .i64 a, .int .i64 b, .int .i64 k] 24)) w.heap.size 24 #[.string (⟨#[98, 122]⟩ : ByteArray), .int .i64 d, .int .i64 a, .int .i64 b, .int .i64 k] from Holds5.fresh w 24 #[.string (⟨#[98, 122]⟩ : ByteArray), .int .i64 d, .int .i64 a, .int .i64 b, .int .i64 k])
  have HG := shade (World.grownBy_alloc w (.cells #[.string (⟨#[98, 122]⟩ : ByteArray), .int .i64 d, .int .i64 a, .int .i64 b, .int .i64 k] 24) none)
  obtain ⟨W1, hW⟩ : ∃ W1, w.alloc (.cells #[.string (⟨#[98, 122]⟩ : ByteArray), .int .i64 d, .int .i64 a, .int .i64 b, .int .i64 k] 24) = W1 := ⟨_, rfl⟩
  rw [hW] at HE HG ⊢
  have HS := shade (show W1.drew.cell? ⟨w.heap.size, 2, none⟩ = some (.int .i64 a) ∧ W1.drew.cell? ⟨w.heap.size, 4, none⟩ = some (.int .i64 k) from ⟨(by simpa using HE.out.look 2), (by simpa using HE.out.look 4)⟩)
  clear hW HE
  go_region_held3 (fun w' => w'.cell? ⟨w.heap.size, 2, none⟩ = some (.int .i64 a) ∧ w'.cell? ⟨w.heap.size, 4, none⟩ = some (.int .i64 k)) (with_reducible exact HS.out) (first | (go_at_call 58; refine (number_is _ _ (by omega)).mono ?_; rintro e w2 ⟨rfl, rfl⟩))
  go_wp2_with fail
  go_ret
  refine ⟨?_, grown_same HG.out (grown_drew1 _)⟩
  show Ending.returned (Value.string _) = Ending.returned (Value.string _)
  congr 2
  rw [HA2.out, HA1.out, HA0.out]
  simp [instT, partT, partV]


set_option maxRecDepth 100000 in
set_option maxHeartbeats 4000000 in
theorem specShow_8 (d a b k : Nat) (w : World) (hd : d < 4) (ha : a < 4) (hb : b < 4) (hk : k < 1000) :
    Calls Tryd.prog 36 #[IV (⟨#[106, 109, 112]⟩ : ByteArray) d a b k] w fun e w' => e = .returned (.string (tx (instT [106, 109, 112] [75] d a b k))) ∧ w.grownBy w' none := by
  have zd := nml d (by omega); have za := nml a (by omega); have zb := nml b (by omega); have zk := nml k hk
  obtain ⟨A0, hA0⟩ : ∃ A : List UInt8, A = [106, 109, 112, 32] ++ nm k := ⟨_, rfl⟩
  have hA0L : A0.length ≤ 10 := by rw [hA0]; simp only [List.length_append, List.length_cons, List.length_nil]; omega
  have t0 := fun W => (show (Op.stringOp .add (⟨#[106, 109, 112, 32]⟩ : ByteArray) (tx (nm k))).run Tryd.prog W = .ok (.string (tx A0)) W from by rw [hA0]; exact cat_run ([106, 109, 112, 32]) (nm k) (by first | omega | (simp only [List.length_append, List.length_cons, List.length_nil]; omega)) W)
  have HA0 := shade hA0
  clear hA0 hA0L
  clear zd za zb zk
  go_enter Tryd.func36, Tryd.ntmps36
  go_wp2_with fail
  refine (number_is _ _ (by omega)).mono ?_
  rintro e w2 ⟨rfl, rfl⟩
  go_wp2_with fail
  go_ret
  refine ⟨?_, World.grownBy_alloc _ _ _⟩
  show Ending.returned (Value.string _) = Ending.returned (Value.string _)
  congr 2
  rw [HA0.out]
  simp [instT, partT, partV]


set_option maxRecDepth 100000 in
set_option maxHeartbeats 4000000 in
theorem specShow_9 (d a b k : Nat) (w : World) (hd : d < 4) (ha : a < 4) (hb : b < 4) (hk : k < 1000) :
    Calls Tryd.prog 36 #[IV (⟨#[104, 108, 116]⟩ : ByteArray) d a b k] w fun e w' => e = .returned (.string (tx (instT [104, 108, 116] [] d a b k))) ∧ w.grownBy w' none := by
  have zd := nml d (by omega); have za := nml a (by omega); have zb := nml b (by omega); have zk := nml k hk
  clear zd za zb zk
  go_enter Tryd.func36, Tryd.ntmps36
  go_wp2_with fail
  go_ret
  exact ⟨by first | rfl | (simp [instT, tx]; rfl), World.grownBy_alloc _ _ _⟩

end Go.Proofs.YtjbbmnmbcdohiaaDoor
