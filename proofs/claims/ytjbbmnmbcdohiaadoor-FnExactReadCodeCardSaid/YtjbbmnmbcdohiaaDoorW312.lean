/- The model's readNumber and readReg: whatever the text, and what they give at a number that is written out. -/
import Derived.Test.YtjbbmnmbcdohiaaDoorW311
namespace Go.Proofs.YtjbbmnmbcdohiaaDoor
open Go.RowKit
theorem nm_len5 (n : Nat) (h : n < 100000) : (nm n).length ≤ 5 := by
  have h1 : ∀ k, k < 1000 → (nm k).length ≤ 3 := fun k hk => (nm_len k hk).2
  by_cases h2 : n < 1000
  · have := h1 n h2
    omega
  · rw [nm_more n (by omega), List.length_append]
    have h3 := h1 (n % 10) (by omega)
    have h3' : (nm (n % 10)).length = 1 := by rw [nm_one _ (by omega)]; rfl
    by_cases h4 : n / 10 < 1000
    · have := h1 _ h4
      omega
    · rw [nm_more (n / 10) (by omega), List.length_append]
      have h5 : (nm (n / 10 % 10)).length = 1 := by rw [nm_one _ (by omega)]; rfl
      have := h1 (n / 10 / 10) (by omega)
      omega
theorem number_moreG (n : Nat) (w : World) (h : 10 ≤ n) (h2 : n < 100000) (H1 : ∀ W, Calls Tryd.prog 58 #[.int .i64 ((n / 10 : Nat) : Int)] W fun e w' => e = .returned (.string (tx (nm (n / 10)))) ∧ W = w') (H2 : ∀ W, Calls Tryd.prog 58 #[.int .i64 ((n % 10 : Nat) : Int)] W fun e w' => e = .returned (.string (tx (nm (n % 10)))) ∧ W = w') :
    Calls Tryd.prog 58 #[.int .i64 n] w fun e w' => e = .returned (.string (tx (nm n))) ∧ w = w' := by
  have e1 : (((n / 10 : Nat) : Nat) : Int) = (n : Int) / 10 := by omega
  have e2 : (((n % 10 : Nat) : Nat) : Int) = (n : Int) % 10 := by omega
  rw [e1] at H1
  rw [e2] at H2
  have hadd := fun W => (run_string_add_sum (P := Tryd.prog) W (tx (nm (n / 10))) (tx (nm (n % 10))) (by
    have a := nm_len5 (n / 10) (by omega)
    have b := nm_len5 (n % 10) (by omega)
    rw [tx_size, tx_size]
    omega)).trans (by rw [tx_append, ← nm_more n h])
  have HH1 := shade H1
  have HH2 := shade H2
  clear e1 e2 H1 H2
  go_enter Tryd.func58, Tryd.ntmps58
  go_wp2_with fail
  refine (HH1.out _).mono ?_
  rintro e w1 ⟨rfl, rfl⟩
  go_wp2_with fail
  refine (HH2.out _).mono ?_
  rintro e w1 ⟨rfl, rfl⟩
  go_wp2_with fail
  go_ret
  exact ⟨rfl, rfl⟩
theorem number_big (n : Nat) (w : World) (h : n < 100000) :
    Calls Tryd.prog 58 #[.int .i64 n] w fun e w' => e = .returned (.string (tx (nm n))) ∧ w = w' := by
  by_cases h1 : n < 1000
  · exact number_is n w h1
  · refine number_moreG n w (by omega) h (fun W => ?_) (fun W => number_is _ W (by omega))
    by_cases h2 : n / 10 < 1000
    · exact number_is _ W h2
    · exact number_moreG _ W (by omega) (by omega) (fun W => number_is _ W (by omega)) (fun W => number_is _ W (by omega))
theorem take_next (l : List UInt8) (j : Nat) (h : j < l.length) : valN (l.take (j + 1)) = 10 * valN (l.take j) + (l[j].toNat - 48) := by
  rw [List.take_succ_eq_append_getElem h, valN_snoc]
/-- What readNumber gives. -/
def RN (l : List UInt8) (w : World) (e : Ending) (w' : World) : Prop := ∃ v : Int, e = .returned (.int .i64 v) ∧ (∀ m, m < 256 → l = nm m → v = m) ∧ w = w'
theorem RN.no {l : List UInt8} {w : World} (h : ∀ m, m < 256 → l ≠ nm m) : RN l w (.returned (.int .i64 (-1))) w := ⟨-1, rfl, fun m hm e => absurd e (h m hm), rfl⟩
theorem no_of_byte {l : List UInt8} {j : Nat} (hj : j < l.length) (h : l[j].toNat < 48 ∨ 57 < l[j].toNat) : ∀ m, m < 256 → l ≠ nm m := fun m hm e => by
  have := nm_digit m hm l[j] (by rw [← e]; exact List.getElem_mem hj)
  omega
theorem no_of_big {l : List UInt8} {j : Nat} (hj : j < l.length) (h : 1000 < valN (l.take j)) : ∀ m, m < 256 → l ≠ nm m := fun m hm e => by
  subst e
  have := nm_low m hm j hj
  omega
set_option maxRecDepth 100000 in
set_option maxHeartbeats 4000000 in
theorem readNumber_is (l : List UInt8) (w : World) (hl : l.length ≤ 1048576) :
    Calls Tryd.prog 64 #[.string (tx l)] w (RN l w) := by
  have hz := tx_size l
  go_enter Tryd.func64, Tryd.ntmps64
  go_wp2_with fail
  go_loopw [3, 4] (fun n i wr => ∃ j : Nat, j ≤ l.length ∧ i = .int .i64 j ∧ n = .int .i64 (valN (l.take j) : Nat) ∧ valN (l.take j) ≤ 10009 ∧ wr = w) (fun _ i _ => l.length - (intOf i).toNat)
  case atStart => exact ⟨0, Nat.zero_le _, rfl, rfl, by simp [valN], rfl⟩
  case round =>
    obtain ⟨j, hj, rfl, rfl, hv, rfl⟩ := hrel
    by_cases hjn : j < l.length
    · have hgt := tx_get l j (by rw [hz]; exact hjn) hjn
      have hnx := take_next l j hjn
      have HB := shade (no_of_byte hjn)
      have HI := shade (no_of_big hjn)
      obtain ⟨c, hc⟩ : ∃ c, l[j] = c := ⟨_, rfl⟩
      obtain ⟨V, hV⟩ : ∃ V, valN (l.take j) = V := ⟨_, rfl⟩
      rw [hc] at hgt hnx HB
      rw [hV] at hnx HI hv ⊢
      have HNX := shade hnx
      clear hc hV hnx
      by_cases h48 : c.toNat < 48
      · have b0 : (c.toNat : Int) < 48 := by omega
        go_wp2_with fail
        go_ret
        exact RN.no (HB.out (.inl h48))
      by_cases h57 : 57 < c.toNat
      · have b0 : ¬ (c.toNat : Int) < 48 := by omega
        have b1 : (57 : Int) < c.toNat := by omega
        go_wp2_with fail
        go_ret
        exact RN.no (HB.out (.inr h57))
      by_cases hbig : 1000 < V
      · have b0 : ¬ (c.toNat : Int) < 48 := by omega
        have b1 : ¬ (57 : Int) < c.toNat := by omega
        have b2 : (1000 : Int) < V := by omega
        go_wp2_with fail
        go_ret
        exact RN.no (HI.out hbig)
      have b0 : ¬ (c.toNat : Int) < 48 := by omega
      have b1 : ¬ (57 : Int) < c.toNat := by omega
      have b2 : ¬ (1000 : Int) < V := by omega
      have b3 : (48 : Int) ≤ c.toNat := by omega
      have b4 : (c.toNat : Int) ≤ 57 := by omega
      have b5 : (0 : Int) ≤ V := by omega
      have b6 : (V : Int) ≤ 1000 := by omega
      clear HB HI
      go_wp2_with fail
      go_roundw
      case rel =>
        refine ⟨j + 1, by omega, by go_num, ?_, by rw [HNX.out]; omega, trivial⟩
        rw [HNX.out]
        congr 1
        omega
      case measure => simp [intOf]; omega
    · obtain rfl : j = l.length := by omega
      rw [List.take_length] at hv ⊢
      have hn5 : valN l < 100000 := by omega
      have HVL := shade (fun (m : Nat) (hm : m < 256) (e : l = nm m) => (show valN l = m by rw [e, nm_val m hm]))
      obtain ⟨V, hV⟩ : ∃ V, valN l = V := ⟨_, rfl⟩
      rw [hV] at hn5 HVL hv ⊢
      clear hV
      have HN := shade (fun W => number_big V W hn5)
      by_cases h0 : l = []
      · subst h0
        have ht' := tx_toList ([] : List UInt8)
        go_wp2_with fail
        go_ret
        exact RN.no (fun m hm e => nm_ne m hm e.symm)
      · have hn : ((tx l).toList == ([] : List UInt8)) = false := by
          rw [tx_toList]
          rcases l with _ | ⟨_, _⟩
          · exact absurd rfl h0
          · rfl
        by_cases he : nm V = l
        · have hbe : ((tx (nm V)).toList == (tx l).toList) = true := by rw [he]; simp
          go_wp2_with fail
          refine (HN.out _).mono ?_
          rintro e w1 ⟨rfl, rfl⟩
          go_wp2_with fail
          go_ret
          exact ⟨V, rfl, fun m hm e => by rw [HVL.out m hm e], rfl⟩
        · have hbe : ((tx (nm V)).toList == (tx l).toList) = false := by rw [tx_toList, tx_toList]; simpa using he
          go_wp2_with fail
          refine (HN.out _).mono ?_
          rintro e w1 ⟨rfl, rfl⟩
          go_wp2_with fail
          go_ret
          exact RN.no (fun m hm e => he (by rw [HVL.out m hm e, e]))
/-- What readReg gives. -/
def RR (l : List UInt8) (w : World) (e : Ending) (w' : World) : Prop := ∃ v : Int, e = .returned (.int .i64 v) ∧ (∀ m, m < 256 → l = 114 :: nm m → v = m) ∧ w = w'
set_option maxRecDepth 100000 in
theorem readReg_is (l : List UInt8) (w : World) (hl : l.length ≤ 1048576) :
    Calls Tryd.prog 63 #[.string (tx l)] w (RR l w) := by
  have hz := tx_size l
  have ht := tx_toList l
  rcases l with _ | ⟨c, r⟩
  · go_enter Tryd.func63, Tryd.ntmps63
    go_wp2_with fail
    go_ret
    exact ⟨-1, rfl, fun m hm e => (by cases e), rfl⟩
  · have hn : ((tx (c :: r)).toList == ([] : List UInt8)) = false := by rw [ht]; rfl
    have hgt := tx_get (c :: r) 0 (by rw [hz]; simp) (by simp)
    simp only [List.length_cons] at hz hl
    simp only [List.getElem_cons_zero] at hgt
    have hdr : (tx (c :: r)).extract 1 (r.length + 1) = tx r := by
      have := tx_drop (c :: r) 1
      rw [hz] at this
      exact this
    by_cases h : c.toNat = 114
    · have hb : ((c.toNat : Int) != 114) = false := by simp; omega
      have HR := shade (fun W => readNumber_is r W (by omega))
      clear h ht
      go_enter Tryd.func63, Tryd.ntmps63
      go_wp2_with fail
      refine (HR.out _).mono ?_
      rintro e w1 ⟨v, rfl, hv, rfl⟩
      have HV := shade hv
      clear hv
      go_wp2_with fail
      go_ret
      exact ⟨v, rfl, fun m hm e => HV.out m hm (List.cons.inj e).2, rfl⟩
    · have hb : ((c.toNat : Int) != 114) = true := by simp; omega
      have HX := shade h
      clear h ht
      go_enter Tryd.func63, Tryd.ntmps63
      go_wp2_with fail
      go_ret
      exact ⟨-1, rfl, fun m hm e => absurd (by rw [(List.cons.inj e).1]; rfl) HX.out, rfl⟩
end Go.Proofs.YtjbbmnmbcdohiaaDoor
