/- Numbers in decimal: the model's number and strconv.Itoa write the same digits. -/
import Derived.Test.YtjbbmnmbcdohiaaDoorW5
import Derived.Test.YtjbbmnmbcdohiaaDoorW30
import Derived.Test.YtjbbmnmbcdohiaaDoorW300
import Derived.Laws.Concat
import Derived.Laws.DeepStrings4
import Derived.Lib.ItoaMem
namespace Go.Proofs.YtjbbmnmbcdohiaaDoor
open Go.RowKit
/-- A text of bytes. -/
def tx (x : List UInt8) : ByteArray := ⟨x.toArray⟩
theorem tx_size (x : List UInt8) : (tx x).size = x.length := by simp [tx, ByteArray.size]
theorem tx_toList (x : List UInt8) : (tx x).toList = x := ByteArray.toList_mk x
theorem tx_append (x y : List UInt8) : tx x ++ tx y = tx (x ++ y) := ByteArray.mk_append_mk x y
theorem tx_extract (x : List UInt8) (a b : Nat) : (tx x).extract a b = tx ((x.drop a).take (b - a)) := ByteArray.extract_mk x a b
theorem tx_get (x : List UInt8) (i : Nat) (h : i < (tx x).size) (h' : i < x.length) : (tx x)[i]'h = x[i] := by
  show (ByteArray.mk x.toArray)[i] = x[i]
  simp [ByteArray.getElem_eq_getElem_data]
theorem tx_of (s : ByteArray) : s = tx s.data.toList := rfl
theorem tx_inj {x y : List UInt8} (h : tx x = tx y) : x = y := by
  have := congrArg ByteArray.toList h
  rwa [tx_toList, tx_toList] at this
/-- The digits of a number. -/
def nm (n : Nat) : List UInt8 := Lib.decDigits n
theorem nm_one (n : Nat) (h : n < 10) : nm n = [UInt8.ofNat (48 + n)] := Lib.decDigits_one h
theorem nm_more (n : Nat) (h : 10 ≤ n) : nm n = nm (n / 10) ++ nm (n % 10) := by
  unfold nm
  rw [Lib.decDigits, dif_neg (by omega), Lib.decDigits_one (Nat.mod_lt n (by omega))]
theorem nm_len (n : Nat) (h : n < 1000) : 1 ≤ (nm n).length ∧ (nm n).length ≤ 3 := by
  by_cases h1 : n < 10
  · rw [nm_one n h1]; simp
  · rw [nm_more n (by omega), nm_one (n % 10) (by omega)]
    by_cases h2 : n / 10 < 10
    · rw [nm_one _ h2]; simp
    · rw [nm_more (n / 10) (by omega), nm_one (n / 10 / 10) (by omega), nm_one (n / 10 % 10) (by omega)]; simp
theorem digit_cut : ∀ n : Fin 10, (⟨#[48, 49, 50, 51, 52, 53, 54, 55, 56, 57]⟩ : ByteArray).extract n.val (n.val + 1) = ⟨#[UInt8.ofNat (48 + n.val)]⟩ := by decide +kernel
theorem number_one (n : Nat) (w : World) (h : n < 10) :
    Calls Tryd.prog 58 #[.int .i64 n] w fun e w' => e = .returned (.string (tx (nm n))) ∧ w = w' := by
  have hd : (⟨#[48, 49, 50, 51, 52, 53, 54, 55, 56, 57]⟩ : ByteArray).extract n (n + 1) = tx (nm n) := by
    rw [nm_one n h]
    exact digit_cut ⟨n, h⟩
  have hz : (⟨#[48, 49, 50, 51, 52, 53, 54, 55, 56, 57]⟩ : ByteArray).size = 10 := rfl
  go_enter Tryd.func58, Tryd.ntmps58
  go_wp2
  go_ret
  exact ⟨rfl, rfl⟩
theorem number_more (n : Nat) (w : World) (h : 10 ≤ n) (h2 : n < 1000) (H1 : ∀ W, Calls Tryd.prog 58 #[.int .i64 ((n / 10 : Nat) : Int)] W fun e w' => e = .returned (.string (tx (nm (n / 10)))) ∧ W = w') (H2 : ∀ W, Calls Tryd.prog 58 #[.int .i64 ((n % 10 : Nat) : Int)] W fun e w' => e = .returned (.string (tx (nm (n % 10)))) ∧ W = w') :
    Calls Tryd.prog 58 #[.int .i64 n] w fun e w' => e = .returned (.string (tx (nm n))) ∧ w = w' := by
  have e1 : (((n / 10 : Nat) : Nat) : Int) = (n : Int) / 10 := by omega
  have e2 : (((n % 10 : Nat) : Nat) : Int) = (n : Int) % 10 := by omega
  rw [e1] at H1
  rw [e2] at H2
  have hadd := fun W => (run_string_add_sum (P := Tryd.prog) W (tx (nm (n / 10))) (tx (nm (n % 10))) (by
    have a := nm_len (n / 10) (by omega)
    have b := nm_len (n % 10) (by omega)
    rw [tx_size, tx_size]
    omega)).trans (by rw [tx_append, ← nm_more n h])
  have HH1 := shade H1
  have HH2 := shade H2
  clear e1 e2 H1 H2
  go_enter Tryd.func58, Tryd.ntmps58
  go_wp2_with fail
  refine (HH1.out _).mono ?_
  rintro e w1 ⟨rfl, rfl⟩
  go_wp2_with fail
  refine (HH2.out _).mono ?_
  rintro e w1 ⟨rfl, rfl⟩
  go_wp2_with fail
  go_ret
  exact ⟨rfl, rfl⟩
theorem number_is (n : Nat) (w : World) (h : n < 1000) :
    Calls Tryd.prog 58 #[.int .i64 n] w fun e w' => e = .returned (.string (tx (nm n))) ∧ w = w' := by
  by_cases h1 : n < 10
  · exact number_one n w h1
  · refine number_more n w (by omega) h (fun W => ?_) (fun W => number_one _ W (by omega))
    by_cases h2 : n / 10 < 10
    · exact number_one _ W h2
    · exact number_more _ W (by omega) (by omega) (fun W => number_one _ W (by omega)) (fun W => number_one _ W (by omega))
theorem grown_grow (w : World) (k : Nat) (os : Array Obj) : w.grownBy (Sort.grow (w.drewN k) os) none := by
  refine ⟨rfl, rfl, rfl, ?_, fun i hi _ => ?_⟩
  · show w.heap.size ≤ (w.heap ++ os).size
    rw [Array.size_append]
    omega
  · show (w.heap ++ os)[i]? = w.heap[i]?
    exact Array.getElem?_append_left hi
theorem itoa_is (n : Nat) (w : World) (h : n < 1000) (hp : Pow w) :
    Calls Tryd.prog 33 #[.int .i64 n] w fun e w' => e = .returned (.string (tx (nm n))) ∧ w.grownBy w' none := by
  refine (Tryd.strconv_Itoa (n : Int) (by omega) (by omega) w hp).mono ?_
  rintro e w' ⟨rfl, k, os, rfl⟩
  rw [Lib.itoa_nonneg]
  exact ⟨rfl, grown_grow _ _ _⟩
end Go.Proofs.YtjbbmnmbcdohiaaDoor
