/- The functions partOf, withPart, isRegister, partsOf and greatestK return what their definitions here say, at every argument (partsOf and greatestK: at the ten words). -/
import Derived.Test.YtcfnoihjpiklhaaDoorW1
import Derived.Below
import Derived.Laws.ResultCell
namespace Go.Proofs.YtcfnoihjpiklhaaDoor
open Go.RowKit
/-- An instruction as a value. -/
abbrev IV (op : ByteArray) (d a b k : Int) : Value := .agg #[.string op, .int .i64 d, .int .i64 a, .int .i64 b, .int .i64 k]
/-- The part that has a name. -/
def partV (d a b k ch : Int) : Int := if ch = 68 then d else if ch = 65 then a else if ch = 66 then b else k
def wD (d ch n : Int) : Int := if ch = 68 then n else d
def wA (a ch n : Int) : Int := if ch = 65 then n else a
def wB (b ch n : Int) : Int := if ch = 66 then n else b
def wK (k ch n : Int) : Int := if ch = 68 then k else if ch = 65 then k else if ch = 66 then k else n

set_option maxHeartbeats 400000 in
theorem partOf_D (op : ByteArray) (d a b k : Int) (w : World) :
    Calls Tryd.prog 68 #[IV op d a b k, .int .u8 68] w fun e w' => e = .returned (.int .i64 d) ∧ ∃ o, w.alloc o = w' := by
  go_enter Tryd.func68, Tryd.ntmps68
  go_wp2
  go_ret
  exact ⟨rfl, _, rfl⟩

set_option maxHeartbeats 400000 in
theorem partOf_A (op : ByteArray) (d a b k : Int) (w : World) :
    Calls Tryd.prog 68 #[IV op d a b k, .int .u8 65] w fun e w' => e = .returned (.int .i64 a) ∧ ∃ o, w.alloc o = w' := by
  go_enter Tryd.func68, Tryd.ntmps68
  go_wp2
  go_ret
  exact ⟨rfl, _, rfl⟩

set_option maxHeartbeats 400000 in
theorem partOf_B (op : ByteArray) (d a b k : Int) (w : World) :
    Calls Tryd.prog 68 #[IV op d a b k, .int .u8 66] w fun e w' => e = .returned (.int .i64 b) ∧ ∃ o, w.alloc o = w' := by
  go_enter Tryd.func68, Tryd.ntmps68
  go_wp2
  go_ret
  exact ⟨rfl, _, rfl⟩

set_option maxHeartbeats 400000 in
theorem partOf_K (op : ByteArray) (d a b k : Int) (ch : Int) (g1 : ch ≠ 68) (g2 : ch ≠ 65) (g3 : ch ≠ 66) (w : World) :
    Calls Tryd.prog 68 #[IV op d a b k, .int .u8 ch] w fun e w' => e = .returned (.int .i64 k) ∧ ∃ o, w.alloc o = w' := by
  have h1 : (ch == (68 : Int)) = false := by simpa using g1
  have h2 : (ch == (65 : Int)) = false := by simpa using g2
  have h3 : (ch == (66 : Int)) = false := by simpa using g3
  clear g1 g2 g3
  go_enter Tryd.func68, Tryd.ntmps68
  go_wp2
  go_ret
  exact ⟨rfl, _, rfl⟩

set_option maxHeartbeats 400000 in
theorem withPart_D (op : ByteArray) (d a b k n : Int) (w : World) :
    Calls Tryd.prog 67 #[IV op d a b k, .int .u8 68, .int .i64 n] w fun e w' => e = .returned (IV op n a b k) ∧ ∃ o1 o2, (w.alloc o1).alloc o2 = w' := by
  go_enter Tryd.func67, Tryd.ntmps67
  go_wp2
  go_returns
  exact ⟨rfl, _, _, rfl⟩

set_option maxHeartbeats 400000 in
theorem withPart_A (op : ByteArray) (d a b k n : Int) (w : World) :
    Calls Tryd.prog 67 #[IV op d a b k, .int .u8 65, .int .i64 n] w fun e w' => e = .returned (IV op d n b k) ∧ ∃ o1 o2, (w.alloc o1).alloc o2 = w' := by
  go_enter Tryd.func67, Tryd.ntmps67
  go_wp2
  go_returns
  exact ⟨rfl, _, _, rfl⟩

set_option maxHeartbeats 400000 in
theorem withPart_B (op : ByteArray) (d a b k n : Int) (w : World) :
    Calls Tryd.prog 67 #[IV op d a b k, .int .u8 66, .int .i64 n] w fun e w' => e = .returned (IV op d a n k) ∧ ∃ o1 o2, (w.alloc o1).alloc o2 = w' := by
  go_enter Tryd.func67, Tryd.ntmps67
  go_wp2
  go_returns
  exact ⟨rfl, _, _, rfl⟩

set_option maxHeartbeats 400000 in
theorem withPart_K (op : ByteArray) (d a b k n : Int) (ch : Int) (g1 : ch ≠ 68) (g2 : ch ≠ 65) (g3 : ch ≠ 66) (w : World) :
    Calls Tryd.prog 67 #[IV op d a b k, .int .u8 ch, .int .i64 n] w fun e w' => e = .returned (IV op d a b n) ∧ ∃ o1 o2, (w.alloc o1).alloc o2 = w' := by
  have h1 : (ch == (68 : Int)) = false := by simpa using g1
  have h2 : (ch == (65 : Int)) = false := by simpa using g2
  have h3 : (ch == (66 : Int)) = false := by simpa using g3
  clear g1 g2 g3
  go_enter Tryd.func67, Tryd.ntmps67
  go_wp2
  go_returns
  exact ⟨rfl, _, _, rfl⟩

theorem partOf_any (op : ByteArray) (d a b k ch : Int) (w : World) :
    Calls Tryd.prog 68 #[IV op d a b k, .int .u8 ch] w fun e w' => e = .returned (.int .i64 (partV d a b k ch)) ∧ ∃ o, w.alloc o = w' := by
  by_cases h1 : ch = 68
  · subst h1; exact partOf_D op d a b k w
  by_cases h2 : ch = 65
  · subst h2; exact partOf_A op d a b k w
  by_cases h3 : ch = 66
  · subst h3; exact partOf_B op d a b k w
  · refine (partOf_K op d a b k ch h1 h2 h3 w).mono ?_
    rintro e w' ⟨rfl, h⟩
    exact ⟨by simp only [partV, if_neg h1, if_neg h2, if_neg h3], h⟩
theorem withPart_any (op : ByteArray) (d a b k ch n : Int) (w : World) :
    Calls Tryd.prog 67 #[IV op d a b k, .int .u8 ch, .int .i64 n] w fun e w' => e = .returned (IV op (wD d ch n) (wA a ch n) (wB b ch n) (wK k ch n)) ∧ ∃ o1 o2, (w.alloc o1).alloc o2 = w' := by
  by_cases h1 : ch = 68
  · subst h1; exact withPart_D op d a b k n w
  by_cases h2 : ch = 65
  · subst h2; exact withPart_A op d a b k n w
  by_cases h3 : ch = 66
  · subst h3; exact withPart_B op d a b k n w
  · refine (withPart_K op d a b k n ch h1 h2 h3 w).mono ?_
    rintro e w' ⟨rfl, h⟩
    exact ⟨by simp only [wD, wA, wB, wK, if_neg h1, if_neg h2, if_neg h3], h⟩

/-- Is it the number of a register? -/
def regB (n : Int) : Bool := decide (0 ≤ n) && decide (n < 4)
set_option maxHeartbeats 400000 in
theorem isRegister_any (n : Int) (w : World) :
    Calls Tryd.prog 64 #[.int .i64 n] w fun e w' => e = .returned (.bool (regB n)) ∧ w = w' := by
  go_enter Tryd.func64, Tryd.ntmps64
  go_wp2
  all_goals
    go_ret
    exact ⟨by simp [regB]; omega, rfl⟩

set_option maxHeartbeats 400000 in
theorem partsOf_0 (w : World) : Calls Tryd.prog 66 #[.int .i64 0] w fun e w' => e = .returned (.string ⟨#[68, 75]⟩) ∧ w = w' := by
  go_enter Tryd.func66, Tryd.ntmps66
  go_wp2
  go_ret
  exact ⟨rfl, rfl⟩
set_option maxHeartbeats 400000 in
theorem greatestK_0 (w : World) : Calls Tryd.prog 65 #[.int .i64 0] w fun e w' => e = .returned (.int .i64 255) ∧ w = w' := by
  go_enter Tryd.func65, Tryd.ntmps65
  go_wp2
  go_ret
  exact ⟨rfl, rfl⟩

set_option maxHeartbeats 400000 in
theorem partsOf_1 (w : World) : Calls Tryd.prog 66 #[.int .i64 1] w fun e w' => e = .returned (.string ⟨#[68, 65, 66]⟩) ∧ w = w' := by
  go_enter Tryd.func66, Tryd.ntmps66
  go_wp2
  go_ret
  exact ⟨rfl, rfl⟩
set_option maxHeartbeats 400000 in
theorem greatestK_1 (w : World) : Calls Tryd.prog 65 #[.int .i64 1] w fun e w' => e = .returned (.int .i64 0) ∧ w = w' := by
  go_enter Tryd.func65, Tryd.ntmps65
  go_wp2
  go_ret
  exact ⟨rfl, rfl⟩

set_option maxHeartbeats 400000 in
theorem partsOf_2 (w : World) : Calls Tryd.prog 66 #[.int .i64 2] w fun e w' => e = .returned (.string ⟨#[68, 65, 66]⟩) ∧ w = w' := by
  go_enter Tryd.func66, Tryd.ntmps66
  go_wp2
  go_ret
  exact ⟨rfl, rfl⟩
set_option maxHeartbeats 400000 in
theorem greatestK_2 (w : World) : Calls Tryd.prog 65 #[.int .i64 2] w fun e w' => e = .returned (.int .i64 0) ∧ w = w' := by
  go_enter Tryd.func65, Tryd.ntmps65
  go_wp2
  go_ret
  exact ⟨rfl, rfl⟩

set_option maxHeartbeats 400000 in
theorem partsOf_3 (w : World) : Calls Tryd.prog 66 #[.int .i64 3] w fun e w' => e = .returned (.string ⟨#[68, 65, 66]⟩) ∧ w = w' := by
  go_enter Tryd.func66, Tryd.ntmps66
  go_wp2
  go_ret
  exact ⟨rfl, rfl⟩
set_option maxHeartbeats 400000 in
theorem greatestK_3 (w : World) : Calls Tryd.prog 65 #[.int .i64 3] w fun e w' => e = .returned (.int .i64 0) ∧ w = w' := by
  go_enter Tryd.func65, Tryd.ntmps65
  go_wp2
  go_ret
  exact ⟨rfl, rfl⟩

set_option maxHeartbeats 400000 in
theorem partsOf_4 (w : World) : Calls Tryd.prog 66 #[.int .i64 4] w fun e w' => e = .returned (.string ⟨#[68, 65, 66]⟩) ∧ w = w' := by
  go_enter Tryd.func66, Tryd.ntmps66
  go_wp2
  go_ret
  exact ⟨rfl, rfl⟩
set_option maxHeartbeats 400000 in
theorem greatestK_4 (w : World) : Calls Tryd.prog 65 #[.int .i64 4] w fun e w' => e = .returned (.int .i64 0) ∧ w = w' := by
  go_enter Tryd.func65, Tryd.ntmps65
  go_wp2
  go_ret
  exact ⟨rfl, rfl⟩

set_option maxHeartbeats 400000 in
theorem partsOf_5 (w : World) : Calls Tryd.prog 66 #[.int .i64 5] w fun e w' => e = .returned (.string ⟨#[68, 65, 75]⟩) ∧ w = w' := by
  go_enter Tryd.func66, Tryd.ntmps66
  go_wp2
  go_ret
  exact ⟨rfl, rfl⟩
set_option maxHeartbeats 400000 in
theorem greatestK_5 (w : World) : Calls Tryd.prog 65 #[.int .i64 5] w fun e w' => e = .returned (.int .i64 7) ∧ w = w' := by
  go_enter Tryd.func65, Tryd.ntmps65
  go_wp2
  go_ret
  exact ⟨rfl, rfl⟩

set_option maxHeartbeats 400000 in
theorem partsOf_6 (w : World) : Calls Tryd.prog 66 #[.int .i64 6] w fun e w' => e = .returned (.string ⟨#[68, 65, 75]⟩) ∧ w = w' := by
  go_enter Tryd.func66, Tryd.ntmps66
  go_wp2
  go_ret
  exact ⟨rfl, rfl⟩
set_option maxHeartbeats 400000 in
theorem greatestK_6 (w : World) : Calls Tryd.prog 65 #[.int .i64 6] w fun e w' => e = .returned (.int .i64 7) ∧ w = w' := by
  go_enter Tryd.func65, Tryd.ntmps65
  go_wp2
  go_ret
  exact ⟨rfl, rfl⟩

set_option maxHeartbeats 400000 in
theorem partsOf_7 (w : World) : Calls Tryd.prog 66 #[.int .i64 7] w fun e w' => e = .returned (.string ⟨#[65, 75]⟩) ∧ w = w' := by
  go_enter Tryd.func66, Tryd.ntmps66
  go_wp2
  go_ret
  exact ⟨rfl, rfl⟩
set_option maxHeartbeats 400000 in
theorem greatestK_7 (w : World) : Calls Tryd.prog 65 #[.int .i64 7] w fun e w' => e = .returned (.int .i64 40) ∧ w = w' := by
  go_enter Tryd.func65, Tryd.ntmps65
  go_wp2
  go_ret
  exact ⟨rfl, rfl⟩

set_option maxHeartbeats 400000 in
theorem partsOf_8 (w : World) : Calls Tryd.prog 66 #[.int .i64 8] w fun e w' => e = .returned (.string ⟨#[75]⟩) ∧ w = w' := by
  go_enter Tryd.func66, Tryd.ntmps66
  go_wp2
  go_ret
  exact ⟨rfl, rfl⟩
set_option maxHeartbeats 400000 in
theorem greatestK_8 (w : World) : Calls Tryd.prog 65 #[.int .i64 8] w fun e w' => e = .returned (.int .i64 40) ∧ w = w' := by
  go_enter Tryd.func65, Tryd.ntmps65
  go_wp2
  go_ret
  exact ⟨rfl, rfl⟩

set_option maxHeartbeats 400000 in
theorem partsOf_9 (w : World) : Calls Tryd.prog 66 #[.int .i64 9] w fun e w' => e = .returned (.string ⟨#[]⟩) ∧ w = w' := by
  go_enter Tryd.func66, Tryd.ntmps66
  go_wp2
  go_ret
  exact ⟨rfl, rfl⟩
set_option maxHeartbeats 400000 in
theorem greatestK_9 (w : World) : Calls Tryd.prog 65 #[.int .i64 9] w fun e w' => e = .returned (.int .i64 0) ∧ w = w' := by
  go_enter Tryd.func65, Tryd.ntmps65
  go_wp2
  go_ret
  exact ⟨rfl, rfl⟩

/-- The names of a word's parts. -/
def namesN : Nat → ByteArray
  | 0 => ⟨#[68, 75]⟩
  | 1 => ⟨#[68, 65, 66]⟩
  | 2 => ⟨#[68, 65, 66]⟩
  | 3 => ⟨#[68, 65, 66]⟩
  | 4 => ⟨#[68, 65, 66]⟩
  | 5 => ⟨#[68, 65, 75]⟩
  | 6 => ⟨#[68, 65, 75]⟩
  | 7 => ⟨#[65, 75]⟩
  | 8 => ⟨#[75]⟩
  | _ => ⟨#[]⟩
/-- The greatest K of a word. -/
def gkN : Nat → Int
  | 0 => 255
  | 1 => 0
  | 2 => 0
  | 3 => 0
  | 4 => 0
  | 5 => 7
  | 6 => 7
  | 7 => 40
  | 8 => 40
  | _ => 0
theorem partsOf_any (k : Nat) (hk : k < 10) (w : World) : Calls Tryd.prog 66 #[.int .i64 (k : Int)] w fun e w' => e = .returned (.string (namesN k)) ∧ w = w' := by
  match k, hk with
  | 0, _ => exact partsOf_0 w
  | 1, _ => exact partsOf_1 w
  | 2, _ => exact partsOf_2 w
  | 3, _ => exact partsOf_3 w
  | 4, _ => exact partsOf_4 w
  | 5, _ => exact partsOf_5 w
  | 6, _ => exact partsOf_6 w
  | 7, _ => exact partsOf_7 w
  | 8, _ => exact partsOf_8 w
  | 9, _ => exact partsOf_9 w
theorem greatestK_any (k : Nat) (hk : k < 10) (w : World) : Calls Tryd.prog 65 #[.int .i64 (k : Int)] w fun e w' => e = .returned (.int .i64 (gkN k)) ∧ w = w' := by
  match k, hk with
  | 0, _ => exact greatestK_0 w
  | 1, _ => exact greatestK_1 w
  | 2, _ => exact greatestK_2 w
  | 3, _ => exact greatestK_3 w
  | 4, _ => exact greatestK_4 w
  | 5, _ => exact greatestK_5 w
  | 6, _ => exact greatestK_6 w
  | 7, _ => exact greatestK_7 w
  | 8, _ => exact greatestK_8 w
  | 9, _ => exact greatestK_9 w
end Go.Proofs.YtcfnoihjpiklhaaDoor