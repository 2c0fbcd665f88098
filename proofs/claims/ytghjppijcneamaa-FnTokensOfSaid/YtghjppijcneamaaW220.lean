/- The model's number; texts of expressions that are drawn: only the reader changes. -/
import Derived.Test.YtghjppijcneamaaW200
import Derived.Test.YtghjppijcneamaaW21
import Derived.Lib.ItoaNum
namespace Go.Proofs.Ytghjppijcneamaa
open Go.RowKit
/-- The digits of a number. -/
def nm (n : Nat) : List UInt8 := Lib.decDigits n
theorem nm_one (n : Nat) (h : n < 10) : nm n = [UInt8.ofNat (48 + n)] := Lib.decDigits_one h
theorem nm_more (n : Nat) (h : 10 ≤ n) : nm n = nm (n / 10) ++ nm (n % 10) := by
  unfold nm
  rw [Lib.decDigits, dif_neg (by omega), Lib.decDigits_one (Nat.mod_lt n (by omega))]
theorem nm_len (n : Nat) (h : n < 1000) : 1 ≤ (nm n).length ∧ (nm n).length ≤ 3 := by
  by_cases h1 : n < 10
  · rw [nm_one n h1]; simp
  · rw [nm_more n (by omega), nm_one (n % 10) (by omega)]
    by_cases h2 : n / 10 < 10
    · rw [nm_one _ h2]; simp
    · rw [nm_more (n / 10) (by omega), nm_one (n / 10 / 10) (by omega), nm_one (n / 10 % 10) (by omega)]; simp
theorem digit_cut : ∀ n : Fin 10, (⟨#[48, 49, 50, 51, 52, 53, 54, 55, 56, 57]⟩ : ByteArray).extract n.val (n.val + 1) = ⟨#[UInt8.ofNat (48 + n.val)]⟩ := by decide +kernel
theorem number_one (n : Nat) (w : World) (h : n < 10) :
    Calls Try.prog 26 #[.int .i64 n] w fun e w' => e = .returned (.string (tx (nm n))) ∧ w = w' := by
  have hd : (⟨#[48, 49, 50, 51, 52, 53, 54, 55, 56, 57]⟩ : ByteArray).extract n (n + 1) = tx (nm n) := by
    rw [nm_one n h]
    exact digit_cut ⟨n, h⟩
  have hz : (⟨#[48, 49, 50, 51, 52, 53, 54, 55, 56, 57]⟩ : ByteArray).size = 10 := rfl
  go_enter Try.func26, Try.ntmps26
  go_wp2
  go_ret
  exact ⟨rfl, rfl⟩
theorem number_more (n : Nat) (w : World) (h : 10 ≤ n) (h2 : n < 1000) (H1 : ∀ W, Calls Try.prog 26 #[.int .i64 ((n / 10 : Nat) : Int)] W fun e w' => e = .returned (.string (tx (nm (n / 10)))) ∧ W = w') (H2 : ∀ W, Calls Try.prog 26 #[.int .i64 ((n % 10 : Nat) : Int)] W fun e w' => e = .returned (.string (tx (nm (n % 10)))) ∧ W = w') :
    Calls Try.prog 26 #[.int .i64 n] w fun e w' => e = .returned (.string (tx (nm n))) ∧ w = w' := by
  have e1 : (((n / 10 : Nat) : Nat) : Int) = (n : Int) / 10 := by omega
  have e2 : (((n % 10 : Nat) : Nat) : Int) = (n : Int) % 10 := by omega
  rw [e1] at H1
  rw [e2] at H2
  have hadd := fun W => (run_string_add_sum (P := Try.prog) W (tx (nm (n / 10))) (tx (nm (n % 10))) (by
    have a := nm_len (n / 10) (by omega)
    have b := nm_len (n % 10) (by omega)
    rw [tx_size, tx_size]
    omega)).trans (by rw [tx_append, ← nm_more n h])
  have HH1 := shade H1
  have HH2 := shade H2
  clear e1 e2 H1 H2
  go_enter Try.func26, Try.ntmps26
  go_wp2_with fail
  refine (HH1.out _).mono ?_
  rintro e w1 ⟨rfl, rfl⟩
  go_wp2_with fail
  refine (HH2.out _).mono ?_
  rintro e w1 ⟨rfl, rfl⟩
  go_wp2_with fail
  go_ret
  exact ⟨rfl, rfl⟩
theorem number_is (n : Nat) (w : World) (h : n < 1000) :
    Calls Try.prog 26 #[.int .i64 n] w fun e w' => e = .returned (.string (tx (nm n))) ∧ w = w' := by
  by_cases h1 : n < 10
  · exact number_one n w h1
  · refine number_more n w (by omega) h (fun W => ?_) (fun W => number_one _ W (by omega))
    by_cases h2 : n / 10 < 10
    · exact number_one _ W h2
    · exact number_more _ W (by omega) (by omega) (fun W => number_one _ W (by omega)) (fun W => number_one _ W (by omega))
theorem number_str (x : Int) (w : World) (h0 : 0 ≤ x) (h : x < 1000) :
    Calls Try.prog 26 #[.int .i64 x] w fun e w' => ∃ s : ByteArray, s.size ≤ 3 ∧ e = .returned (.string s) ∧ w = w' := by
  obtain ⟨n, rfl⟩ := Int.eq_ofNat_of_zero_le h0
  refine (number_is n w (by omega)).mono ?_
  rintro e w' ⟨rfl, rfl⟩
  exact ⟨_, by rw [tx_size]; exact (nm_len n (by omega)).2, rfl, rfl⟩
/-- What a call leaves that draws a text: it is not too long, and only the reader has changed. -/
def StrOk (M K : Nat) (w : World) (g : Nat) (A : Option Addr) (n cap : Nat) (zs : List Int) (p : Nat) (e : Ending) (w' : World) : Prop :=
  ∃ (s : ByteArray) (q : Nat), s.size ≤ M ∧ q ≤ p + K ∧ e = .returned (.string s) ∧ Rd w' g A n cap zs q ∧ w.grownBy w' (some g)


set_option maxHeartbeats 16000000 in
theorem exprText_zero {A : Option Addr} {n cap g : Nat} {zs : List Int} {p : Nat} {w : World} (h : Rd w g A n cap zs p) (hp : p + 20 < 1000000) :
    Calls Try.prog 20 #[.pointer (some ⟨g, 0, none⟩), .int .i64 0, .bool true] w (StrOk 3 10 w g A n cap zs p) := by
  have hg := h.blk.inside
  have hR := h
  clear h
  have hT := only_refl w g
  go_enter Try.func20, Try.ntmps20
  go_wp2_with (first
    | (go_at_call 19
       refine (pick_rel _ (by first | exact hR | exact hR.alloc _ | exact (hR.alloc _).alloc _) (by omega)).mono ?_
       clear hR
       rintro e wk ⟨v, ⟨v0, v1, v2⟩, rfl, hR, hG⟩
       replace v1 := v1 (by omega)
       clear v2
       replace hT := only_trans (by first | exact hT | exact only_alloc hT _ | exact only_alloc (only_alloc hT _) _) hG; clear hG)
    | (go_at_call 18
       refine (one_rel (fun x => 0 ≤ x ∧ x < 256) (by first | exact hR | exact hR.alloc _ | exact (hR.alloc _).alloc _) (by omega) _ _ _ (by omega) (by omega) (by omega) (by have := hR.blk.inside; omega) (by intro j hj; rw [World.cell?_alloc_new]; first | (rcases (show j = 0 ∨ j = 1 ∨ j = 2 ∨ j = 3 by omega) with rfl | rfl | rfl | rfl <;> exact ⟨_, by omega, rfl⟩) | (rcases (show j = 0 ∨ j = 1 ∨ j = 2 by omega) with rfl | rfl | rfl <;> exact ⟨_, by omega, rfl⟩))).mono ?_
       clear hR
       rintro e wk ⟨v, ⟨v0, v1⟩, rfl, hR, hG⟩
       replace hT := only_trans (by first | exact hT | exact only_alloc hT _ | exact only_alloc (only_alloc hT _) _) hG; clear hG)
    | (go_at_call 25
       refine (of_rel (fun s => s.size ≤ 3) (by first | exact hR | exact hR.alloc _ | exact (hR.alloc _).alloc _) (by omega) _ _ _ (by omega) (by omega) (by omega) (by have := hR.blk.inside; omega) (by intro j hj; rw [World.cell?_alloc_new]; first | (rcases (show j = 0 ∨ j = 1 ∨ j = 2 ∨ j = 3 ∨ j = 4 ∨ j = 5 ∨ j = 6 by omega) with rfl | rfl | rfl | rfl | rfl | rfl | rfl <;> exact ⟨_, by decide, rfl⟩) | (rcases (show j = 0 ∨ j = 1 ∨ j = 2 ∨ j = 3 ∨ j = 4 by omega) with rfl | rfl | rfl | rfl | rfl <;> exact ⟨_, by decide, rfl⟩) | (rcases (show j = 0 ∨ j = 1 ∨ j = 2 ∨ j = 3 by omega) with rfl | rfl | rfl | rfl <;> exact ⟨_, by decide, rfl⟩))).mono ?_
       clear hR
       rintro e wk ⟨v, v0, rfl, hR, hG⟩
       replace hT := only_trans (by first | exact hT | exact only_alloc hT _ | exact only_alloc (only_alloc hT _) _) hG; clear hG)
    | (go_at_call 26
       refine (number_str _ _ (by omega) (by omega)).mono ?_
       rintro e wk ⟨s, hs, rfl, rfl⟩))
  all_goals
    go_ret
    exact ⟨_, _, by assumption, by omega, rfl, hR, hT⟩


set_option maxHeartbeats 16000000 in
theorem exprText_1 {A : Option Addr} {n cap g : Nat} {zs : List Int} {p : Nat} {w : World} (h : Rd w g A n cap zs p) (hp : p + 40 < 1000000) :
    Calls Try.prog 20 #[.pointer (some ⟨g, 0, none⟩), .int .i64 1, .bool true] w (StrOk 11 20 w g A n cap zs p) := by
  have hg := h.blk.inside
  have hR := h
  clear h
  have hT := only_refl w g
  go_enter Try.func20, Try.ntmps20
  go_wp2_with (first
    | (go_at_call 19
       refine (pick_rel _ (by first | exact hR | exact hR.alloc _ | exact (hR.alloc _).alloc _) (by omega)).mono ?_
       clear hR
       rintro e wk ⟨v, ⟨v0, v1, v2⟩, rfl, hR, hG⟩
       replace v1 := v1 (by omega)
       clear v2
       replace hT := only_trans (by first | exact hT | exact only_alloc hT _ | exact only_alloc (only_alloc hT _) _) hG; clear hG)
    | (go_at_call 18
       refine (one_rel (fun x => 0 ≤ x ∧ x < 256) (by first | exact hR | exact hR.alloc _ | exact (hR.alloc _).alloc _) (by omega) _ _ _ (by omega) (by omega) (by omega) (by have := hR.blk.inside; omega) (by intro j hj; rw [World.cell?_alloc_new]; first | (rcases (show j = 0 ∨ j = 1 ∨ j = 2 ∨ j = 3 by omega) with rfl | rfl | rfl | rfl <;> exact ⟨_, by omega, rfl⟩) | (rcases (show j = 0 ∨ j = 1 ∨ j = 2 by omega) with rfl | rfl | rfl <;> exact ⟨_, by omega, rfl⟩))).mono ?_
       clear hR
       rintro e wk ⟨v, ⟨v0, v1⟩, rfl, hR, hG⟩
       replace hT := only_trans (by first | exact hT | exact only_alloc hT _ | exact only_alloc (only_alloc hT _) _) hG; clear hG)
    | (go_at_call 25
       refine (of_rel (fun s => s.size ≤ 3) (by first | exact hR | exact hR.alloc _ | exact (hR.alloc _).alloc _) (by omega) _ _ _ (by omega) (by omega) (by omega) (by have := hR.blk.inside; omega) (by intro j hj; rw [World.cell?_alloc_new]; first | (rcases (show j = 0 ∨ j = 1 ∨ j = 2 ∨ j = 3 ∨ j = 4 ∨ j = 5 ∨ j = 6 by omega) with rfl | rfl | rfl | rfl | rfl | rfl | rfl <;> exact ⟨_, by decide, rfl⟩) | (rcases (show j = 0 ∨ j = 1 ∨ j = 2 ∨ j = 3 ∨ j = 4 by omega) with rfl | rfl | rfl | rfl | rfl <;> exact ⟨_, by decide, rfl⟩) | (rcases (show j = 0 ∨ j = 1 ∨ j = 2 ∨ j = 3 by omega) with rfl | rfl | rfl | rfl <;> exact ⟨_, by decide, rfl⟩))).mono ?_
       clear hR
       rintro e wk ⟨v, v0, rfl, hR, hG⟩
       replace hT := only_trans (by first | exact hT | exact only_alloc hT _ | exact only_alloc (only_alloc hT _) _) hG; clear hG)
    | (go_at_call 26
       refine (number_str _ _ (by omega) (by omega)).mono ?_
       rintro e wk ⟨s, hs, rfl, rfl⟩)
    | (go_at_call 20
       refine (exprText_zero (by first | exact hR | exact hR.alloc _ | exact (hR.alloc _).alloc _) (by omega)).mono ?_
       clear hR
       rintro e wk ⟨s, q, hs, hq, rfl, hR, hG⟩
       replace hT := only_trans (by first | exact hT | exact only_alloc hT _ | exact only_alloc (only_alloc hT _) _) hG; clear hG))
  all_goals
    go_ret
    exact ⟨_, _, by (try simp only [ByteArray.size_append, ByteArray.size_mk', List.size_toArray, List.length_cons, List.length_nil]); omega, by omega, rfl, hR, hT⟩


set_option maxHeartbeats 16000000 in
theorem exprText_2 {A : Option Addr} {n cap g : Nat} {zs : List Int} {p : Nat} {w : World} (h : Rd w g A n cap zs p) (hp : p + 50 < 1000000) :
    Calls Try.prog 20 #[.pointer (some ⟨g, 0, none⟩), .int .i64 2, .bool true] w (StrOk 19 30 w g A n cap zs p) := by
  have hg := h.blk.inside
  have hR := h
  clear h
  have hT := only_refl w g
  go_enter Try.func20, Try.ntmps20
  go_wp2_with (first
    | (go_at_call 19
       refine (pick_rel _ (by first | exact hR | exact hR.alloc _ | exact (hR.alloc _).alloc _) (by omega)).mono ?_
       clear hR
       rintro e wk ⟨v, ⟨v0, v1, v2⟩, rfl, hR, hG⟩
       replace v1 := v1 (by omega)
       clear v2
       replace hT := only_trans (by first | exact hT | exact only_alloc hT _ | exact only_alloc (only_alloc hT _) _) hG; clear hG)
    | (go_at_call 18
       refine (one_rel (fun x => 0 ≤ x ∧ x < 256) (by first | exact hR | exact hR.alloc _ | exact (hR.alloc _).alloc _) (by omega) _ _ _ (by omega) (by omega) (by omega) (by have := hR.blk.inside; omega) (by intro j hj; rw [World.cell?_alloc_new]; first | (rcases (show j = 0 ∨ j = 1 ∨ j = 2 ∨ j = 3 by omega) with rfl | rfl | rfl | rfl <;> exact ⟨_, by omega, rfl⟩) | (rcases (show j = 0 ∨ j = 1 ∨ j = 2 by omega) with rfl | rfl | rfl <;> exact ⟨_, by omega, rfl⟩))).mono ?_
       clear hR
       rintro e wk ⟨v, ⟨v0, v1⟩, rfl, hR, hG⟩
       replace hT := only_trans (by first | exact hT | exact only_alloc hT _ | exact only_alloc (only_alloc hT _) _) hG; clear hG)
    | (go_at_call 25
       refine (of_rel (fun s => s.size ≤ 3) (by first | exact hR | exact hR.alloc _ | exact (hR.alloc _).alloc _) (by omega) _ _ _ (by omega) (by omega) (by omega) (by have := hR.blk.inside; omega) (by intro j hj; rw [World.cell?_alloc_new]; first | (rcases (show j = 0 ∨ j = 1 ∨ j = 2 ∨ j = 3 ∨ j = 4 ∨ j = 5 ∨ j = 6 by omega) with rfl | rfl | rfl | rfl | rfl | rfl | rfl <;> exact ⟨_, by decide, rfl⟩) | (rcases (show j = 0 ∨ j = 1 ∨ j = 2 ∨ j = 3 ∨ j = 4 by omega) with rfl | rfl | rfl | rfl | rfl <;> exact ⟨_, by decide, rfl⟩) | (rcases (show j = 0 ∨ j = 1 ∨ j = 2 ∨ j = 3 by omega) with rfl | rfl | rfl | rfl <;> exact ⟨_, by decide, rfl⟩))).mono ?_
       clear hR
       rintro e wk ⟨v, v0, rfl, hR, hG⟩
       replace hT := only_trans (by first | exact hT | exact only_alloc hT _ | exact only_alloc (only_alloc hT _) _) hG; clear hG)
    | (go_at_call 26
       refine (number_str _ _ (by omega) (by omega)).mono ?_
       rintro e wk ⟨s, hs, rfl, rfl⟩)
    | (go_at_call 20
       refine (exprText_1 (by first | exact hR | exact hR.alloc _ | exact (hR.alloc _).alloc _) (by omega)).mono ?_
       clear hR
       rintro e wk ⟨s, q, hs, hq, rfl, hR, hG⟩
       replace hT := only_trans (by first | exact hT | exact only_alloc hT _ | exact only_alloc (only_alloc hT _) _) hG; clear hG))
  all_goals
    go_ret
    exact ⟨_, _, by (try simp only [ByteArray.size_append, ByteArray.size_mk', List.size_toArray, List.length_cons, List.length_nil]); omega, by omega, rfl, hR, hT⟩

end Go.Proofs.Ytghjppijcneamaa
