/- Texts of statements and of sources that are drawn: only the reader changes. -/
import Derived.Test.YtghjppijcneamaaW220
namespace Go.Proofs.Ytghjppijcneamaa
open Go.RowKit
theorem StrOk.weak {A : Option Addr} {n cap g : Nat} {zs : List Int} {p : Nat} {M K M' K' : Nat} {w w' : World} {e : Ending} (h : StrOk M K w g A n cap zs p e w') (hM : M ≤ M') (hK : K ≤ K') : StrOk M' K' w g A n cap zs p e w' := by
  obtain ⟨s, q, hs, hq, h⟩ := h
  exact ⟨s, q, by omega, by omega, h⟩
theorem exprText_any {A : Option Addr} {n cap g : Nat} {zs : List Int} {p : Nat} (d : Int) (d0 : 0 ≤ d) (d1 : d < 3) {w : World} (h : Rd w g A n cap zs p) (hp : p + 60 < 1000000) :
    Calls Try.prog 20 #[.pointer (some ⟨g, 0, none⟩), .int .i64 d, .bool true] w (StrOk 19 30 w g A n cap zs p) := by
  rcases (show d = 0 ∨ d = 1 ∨ d = 2 by omega) with rfl | rfl | rfl
  · exact (exprText_zero h (by omega)).mono fun e w' h => h.weak (by omega) (by omega)
  · exact (exprText_1 h (by omega)).mono fun e w' h => h.weak (by omega) (by omega)
  · exact (exprText_2 h (by omega)).mono fun e w' h => h.weak (by omega) (by omega)


set_option maxRecDepth 100000 in
set_option maxHeartbeats 16000000 in
theorem blockText_0 {A : Option Addr} {n cap g : Nat} {zs : List Int} {p : Nat} {w : World} (h : Rd w g A n cap zs p) (hp : p + 221 < 1000000) :
    Calls Try.prog 17 #[.pointer (some ⟨g, 0, none⟩), .int .i64 0] w (StrOk 150 121 w g A n cap zs p) := by
  have hg := h.blk.inside
  have hR := h
  clear h
  have hT := only_refl w g
  go_enter Try.func17, Try.ntmps17
  go_wp2_with fail
  refine (one_rel (fun x => 0 ≤ x ∧ x ≤ 3) (by first | exact hR | exact hR.alloc _ | exact (hR.alloc _).alloc _) (by omega) _ _ _ (by omega) (by omega) (by omega) (by have := hR.blk.inside; omega) (by intro j hj; rw [World.cell?_alloc_new]; first | (rcases (show j = 0 ∨ j = 1 ∨ j = 2 ∨ j = 3 by omega) with rfl | rfl | rfl | rfl <;> exact ⟨_, by omega, rfl⟩) | (rcases (show j = 0 ∨ j = 1 ∨ j = 2 by omega) with rfl | rfl | rfl <;> exact ⟨_, by omega, rfl⟩))).mono ?_
  clear hR
  rintro e wk ⟨v, ⟨v0, v1⟩, rfl, hR, hG⟩
  replace hT := only_trans (by first | exact hT | exact only_alloc hT _ | exact only_alloc (only_alloc hT _) _) hG; clear hG
  obtain ⟨nn, rfl⟩ := Int.eq_ofNat_of_zero_le v0
  have HR := shade hR
  have HT := shade hT
  clear hR hT
  go_wp2_with fail
  go_loopw [5, 6] (fun t i wr => ∃ (m : Nat) (s : ByteArray) (q : Nat), m ≤ 3 ∧ i = .int .i64 m ∧ t = .string s ∧ s.size ≤ 50 * (3 - m) ∧ q ≤ p + 1 + 40 * (3 - m) ∧ Rd wr g A n cap zs q ∧ w.grownBy wr (some g)) (fun _ i _ => (intOf i).toNat)
  case atStart => exact ⟨nn, ⟨#[]⟩, p + 1, by omega, rfl, rfl, Nat.zero_le _, by omega, HR.out, HT.out⟩
  case round =>
    clear HR HT
    obtain ⟨m, s0, q0, hm, rfl, rfl, hs0, hq0, hR, hT⟩ := hrel
    have hgl := hR.blk.inside
    by_cases hm0 : 0 < m
    · go_wp2_with (first
    | (go_at_call 19
       refine (pick_rel _ (by first | exact hR | exact hR.alloc _ | exact (hR.alloc _).alloc _) (by omega)).mono ?_
       clear hR
       rintro e wk ⟨v, ⟨v0, v1, v2⟩, rfl, hR, hG⟩
       replace v1 := v1 (by omega)
       clear v2
       replace hT := only_trans (by first | exact hT | exact only_alloc hT _ | exact only_alloc (only_alloc hT _) _) hG; clear hG)
    | (go_at_call 18
       refine (one_rel (fun x => 0 ≤ x ∧ x < 256) (by first | exact hR | exact hR.alloc _ | exact (hR.alloc _).alloc _) (by omega) _ _ _ (by omega) (by omega) (by omega) (by have := hR.blk.inside; omega) (by intro j hj; rw [World.cell?_alloc_new]; first | (rcases (show j = 0 ∨ j = 1 ∨ j = 2 ∨ j = 3 by omega) with rfl | rfl | rfl | rfl <;> exact ⟨_, by omega, rfl⟩) | (rcases (show j = 0 ∨ j = 1 ∨ j = 2 by omega) with rfl | rfl | rfl <;> exact ⟨_, by omega, rfl⟩))).mono ?_
       clear hR
       rintro e wk ⟨v, ⟨v0, v1⟩, rfl, hR, hG⟩
       replace hT := only_trans (by first | exact hT | exact only_alloc hT _ | exact only_alloc (only_alloc hT _) _) hG; clear hG)
    | (go_at_call 25
       refine (of_rel (fun s => s.size ≤ 3) (by first | exact hR | exact hR.alloc _ | exact (hR.alloc _).alloc _) (by omega) _ _ _ (by omega) (by omega) (by omega) (by have := hR.blk.inside; omega) (by intro j hj; rw [World.cell?_alloc_new]; first | (rcases (show j = 0 ∨ j = 1 ∨ j = 2 ∨ j = 3 ∨ j = 4 ∨ j = 5 ∨ j = 6 by omega) with rfl | rfl | rfl | rfl | rfl | rfl | rfl <;> exact ⟨_, by decide, rfl⟩) | (rcases (show j = 0 ∨ j = 1 ∨ j = 2 ∨ j = 3 ∨ j = 4 by omega) with rfl | rfl | rfl | rfl | rfl <;> exact ⟨_, by decide, rfl⟩) | (rcases (show j = 0 ∨ j = 1 ∨ j = 2 ∨ j = 3 by omega) with rfl | rfl | rfl | rfl <;> exact ⟨_, by decide, rfl⟩))).mono ?_
       clear hR
       rintro e wk ⟨v, v0, rfl, hR, hG⟩
       replace hT := only_trans (by first | exact hT | exact only_alloc hT _ | exact only_alloc (only_alloc hT _) _) hG; clear hG)
    | (go_at_call 26
       refine (number_str _ _ (by omega) (by omega)).mono ?_
       rintro e wk ⟨s, hs, rfl, rfl⟩)
    | (go_at_call 20
       refine (exprText_any _ (by omega) (by omega) (by first | exact hR | exact hR.alloc _ | exact (hR.alloc _).alloc _) (by omega)).mono ?_
       clear hR
       rintro e wk ⟨s, q, hs, hq, rfl, hR, hG⟩
       replace hT := only_trans (by first | exact hT | exact only_alloc hT _ | exact only_alloc (only_alloc hT _) _) hG; clear hG))
      all_goals
        go_roundw
        case rel => exact ⟨m - 1, _, _, by omega, by first | go_num | (congr 1; omega), rfl, by (try simp only [ByteArray.size_append, ByteArray.size_mk', List.size_toArray, List.length_cons, List.length_nil]); omega, by omega, hR, hT⟩
        case measure => simp [intOf]; omega
    · obtain rfl : m = 0 := by omega
      go_wp2_with fail
      go_ret
      exact ⟨_, _, by omega, by omega, rfl, hR, hT⟩


set_option maxRecDepth 100000 in
set_option maxHeartbeats 16000000 in
theorem blockText_1 {A : Option Addr} {n cap g : Nat} {zs : List Int} {p : Nat} {w : World} (h : Rd w g A n cap zs p) (hp : p + 599 < 1000000) :
    Calls Try.prog 17 #[.pointer (some ⟨g, 0, none⟩), .int .i64 1] w (StrOk 600 499 w g A n cap zs p) := by
  have hg := h.blk.inside
  have hR := h
  clear h
  have hT := only_refl w g
  go_enter Try.func17, Try.ntmps17
  go_wp2_with fail
  refine (one_rel (fun x => 0 ≤ x ∧ x ≤ 3) (by first | exact hR | exact hR.alloc _ | exact (hR.alloc _).alloc _) (by omega) _ _ _ (by omega) (by omega) (by omega) (by have := hR.blk.inside; omega) (by intro j hj; rw [World.cell?_alloc_new]; first | (rcases (show j = 0 ∨ j = 1 ∨ j = 2 ∨ j = 3 by omega) with rfl | rfl | rfl | rfl <;> exact ⟨_, by omega, rfl⟩) | (rcases (show j = 0 ∨ j = 1 ∨ j = 2 by omega) with rfl | rfl | rfl <;> exact ⟨_, by omega, rfl⟩))).mono ?_
  clear hR
  rintro e wk ⟨v, ⟨v0, v1⟩, rfl, hR, hG⟩
  replace hT := only_trans (by first | exact hT | exact only_alloc hT _ | exact only_alloc (only_alloc hT _) _) hG; clear hG
  obtain ⟨nn, rfl⟩ := Int.eq_ofNat_of_zero_le v0
  have HR := shade hR
  have HT := shade hT
  clear hR hT
  go_wp2_with fail
  go_loopw [5, 6] (fun t i wr => ∃ (m : Nat) (s : ByteArray) (q : Nat), m ≤ 3 ∧ i = .int .i64 m ∧ t = .string s ∧ s.size ≤ 200 * (3 - m) ∧ q ≤ p + 1 + 166 * (3 - m) ∧ Rd wr g A n cap zs q ∧ w.grownBy wr (some g)) (fun _ i _ => (intOf i).toNat)
  case atStart => exact ⟨nn, ⟨#[]⟩, p + 1, by omega, rfl, rfl, Nat.zero_le _, by omega, HR.out, HT.out⟩
  case round =>
    clear HR HT
    obtain ⟨m, s0, q0, hm, rfl, rfl, hs0, hq0, hR, hT⟩ := hrel
    have hgl := hR.blk.inside
    by_cases hm0 : 0 < m
    · go_wp2_with (first
    | (go_at_call 19
       refine (pick_rel _ (by first | exact hR | exact hR.alloc _ | exact (hR.alloc _).alloc _) (by omega)).mono ?_
       clear hR
       rintro e wk ⟨v, ⟨v0, v1, v2⟩, rfl, hR, hG⟩
       replace v1 := v1 (by omega)
       clear v2
       replace hT := only_trans (by first | exact hT | exact only_alloc hT _ | exact only_alloc (only_alloc hT _) _) hG; clear hG)
    | (go_at_call 18
       refine (one_rel (fun x => 0 ≤ x ∧ x < 256) (by first | exact hR | exact hR.alloc _ | exact (hR.alloc _).alloc _) (by omega) _ _ _ (by omega) (by omega) (by omega) (by have := hR.blk.inside; omega) (by intro j hj; rw [World.cell?_alloc_new]; first | (rcases (show j = 0 ∨ j = 1 ∨ j = 2 ∨ j = 3 by omega) with rfl | rfl | rfl | rfl <;> exact ⟨_, by omega, rfl⟩) | (rcases (show j = 0 ∨ j = 1 ∨ j = 2 by omega) with rfl | rfl | rfl <;> exact ⟨_, by omega, rfl⟩))).mono ?_
       clear hR
       rintro e wk ⟨v, ⟨v0, v1⟩, rfl, hR, hG⟩
       replace hT := only_trans (by first | exact hT | exact only_alloc hT _ | exact only_alloc (only_alloc hT _) _) hG; clear hG)
    | (go_at_call 25
       refine (of_rel (fun s => s.size ≤ 3) (by first | exact hR | exact hR.alloc _ | exact (hR.alloc _).alloc _) (by omega) _ _ _ (by omega) (by omega) (by omega) (by have := hR.blk.inside; omega) (by intro j hj; rw [World.cell?_alloc_new]; first | (rcases (show j = 0 ∨ j = 1 ∨ j = 2 ∨ j = 3 ∨ j = 4 ∨ j = 5 ∨ j = 6 by omega) with rfl | rfl | rfl | rfl | rfl | rfl | rfl <;> exact ⟨_, by decide, rfl⟩) | (rcases (show j = 0 ∨ j = 1 ∨ j = 2 ∨ j = 3 ∨ j = 4 by omega) with rfl | rfl | rfl | rfl | rfl <;> exact ⟨_, by decide, rfl⟩) | (rcases (show j = 0 ∨ j = 1 ∨ j = 2 ∨ j = 3 by omega) with rfl | rfl | rfl | rfl <;> exact ⟨_, by decide, rfl⟩))).mono ?_
       clear hR
       rintro e wk ⟨v, v0, rfl, hR, hG⟩
       replace hT := only_trans (by first | exact hT | exact only_alloc hT _ | exact only_alloc (only_alloc hT _) _) hG; clear hG)
    | (go_at_call 26
       refine (number_str _ _ (by omega) (by omega)).mono ?_
       rintro e wk ⟨s, hs, rfl, rfl⟩)
    | (go_at_call 20
       refine (exprText_any _ (by omega) (by omega) (by first | exact hR | exact hR.alloc _ | exact (hR.alloc _).alloc _) (by omega)).mono ?_
       clear hR
       rintro e wk ⟨s, q, hs, hq, rfl, hR, hG⟩
       replace hT := only_trans (by first | exact hT | exact only_alloc hT _ | exact only_alloc (only_alloc hT _) _) hG; clear hG)
    | (go_at_call 17
       refine (blockText_0 (by first | exact hR | exact hR.alloc _ | exact (hR.alloc _).alloc _) (by omega)).mono ?_
       clear hR
       rintro e wk ⟨s, q, hs, hq, rfl, hR, hG⟩
       replace hT := only_trans (by first | exact hT | exact only_alloc hT _ | exact only_alloc (only_alloc hT _) _) hG; clear hG))
      all_goals
        go_roundw
        case rel => exact ⟨m - 1, _, _, by omega, by first | go_num | (congr 1; omega), rfl, by (try simp only [ByteArray.size_append, ByteArray.size_mk', List.size_toArray, List.length_cons, List.length_nil]); omega, by omega, hR, hT⟩
        case measure => simp [intOf]; omega
    · obtain rfl : m = 0 := by omega
      go_wp2_with fail
      go_ret
      exact ⟨_, _, by omega, by omega, rfl, hR, hT⟩


set_option maxRecDepth 100000 in
set_option maxHeartbeats 16000000 in
theorem blockText_2 {A : Option Addr} {n cap g : Nat} {zs : List Int} {p : Nat} {w : World} (h : Rd w g A n cap zs p) (hp : p + 1733 < 1000000) :
    Calls Try.prog 17 #[.pointer (some ⟨g, 0, none⟩), .int .i64 2] w (StrOk 1950 1633 w g A n cap zs p) := by
  have hg := h.blk.inside
  have hR := h
  clear h
  have hT := only_refl w g
  go_enter Try.func17, Try.ntmps17
  go_wp2_with fail
  refine (one_rel (fun x => 0 ≤ x ∧ x ≤ 3) (by first | exact hR | exact hR.alloc _ | exact (hR.alloc _).alloc _) (by omega) _ _ _ (by omega) (by omega) (by omega) (by have := hR.blk.inside; omega) (by intro j hj; rw [World.cell?_alloc_new]; first | (rcases (show j = 0 ∨ j = 1 ∨ j = 2 ∨ j = 3 by omega) with rfl | rfl | rfl | rfl <;> exact ⟨_, by omega, rfl⟩) | (rcases (show j = 0 ∨ j = 1 ∨ j = 2 by omega) with rfl | rfl | rfl <;> exact ⟨_, by omega, rfl⟩))).mono ?_
  clear hR
  rintro e wk ⟨v, ⟨v0, v1⟩, rfl, hR, hG⟩
  replace hT := only_trans (by first | exact hT | exact only_alloc hT _ | exact only_alloc (only_alloc hT _) _) hG; clear hG
  obtain ⟨nn, rfl⟩ := Int.eq_ofNat_of_zero_le v0
  have HR := shade hR
  have HT := shade hT
  clear hR hT
  go_wp2_with fail
  go_loopw [5, 6] (fun t i wr => ∃ (m : Nat) (s : ByteArray) (q : Nat), m ≤ 3 ∧ i = .int .i64 m ∧ t = .string s ∧ s.size ≤ 650 * (3 - m) ∧ q ≤ p + 1 + 544 * (3 - m) ∧ Rd wr g A n cap zs q ∧ w.grownBy wr (some g)) (fun _ i _ => (intOf i).toNat)
  case atStart => exact ⟨nn, ⟨#[]⟩, p + 1, by omega, rfl, rfl, Nat.zero_le _, by omega, HR.out, HT.out⟩
  case round =>
    clear HR HT
    obtain ⟨m, s0, q0, hm, rfl, rfl, hs0, hq0, hR, hT⟩ := hrel
    have hgl := hR.blk.inside
    by_cases hm0 : 0 < m
    · go_wp2_with (first
    | (go_at_call 19
       refine (pick_rel _ (by first | exact hR | exact hR.alloc _ | exact (hR.alloc _).alloc _) (by omega)).mono ?_
       clear hR
       rintro e wk ⟨v, ⟨v0, v1, v2⟩, rfl, hR, hG⟩
       replace v1 := v1 (by omega)
       clear v2
       replace hT := only_trans (by first | exact hT | exact only_alloc hT _ | exact only_alloc (only_alloc hT _) _) hG; clear hG)
    | (go_at_call 18
       refine (one_rel (fun x => 0 ≤ x ∧ x < 256) (by first | exact hR | exact hR.alloc _ | exact (hR.alloc _).alloc _) (by omega) _ _ _ (by omega) (by omega) (by omega) (by have := hR.blk.inside; omega) (by intro j hj; rw [World.cell?_alloc_new]; first | (rcases (show j = 0 ∨ j = 1 ∨ j = 2 ∨ j = 3 by omega) with rfl | rfl | rfl | rfl <;> exact ⟨_, by omega, rfl⟩) | (rcases (show j = 0 ∨ j = 1 ∨ j = 2 by omega) with rfl | rfl | rfl <;> exact ⟨_, by omega, rfl⟩))).mono ?_
       clear hR
       rintro e wk ⟨v, ⟨v0, v1⟩, rfl, hR, hG⟩
       replace hT := only_trans (by first | exact hT | exact only_alloc hT _ | exact only_alloc (only_alloc hT _) _) hG; clear hG)
    | (go_at_call 25
       refine (of_rel (fun s => s.size ≤ 3) (by first | exact hR | exact hR.alloc _ | exact (hR.alloc _).alloc _) (by omega) _ _ _ (by omega) (by omega) (by omega) (by have := hR.blk.inside; omega) (by intro j hj; rw [World.cell?_alloc_new]; first | (rcases (show j = 0 ∨ j = 1 ∨ j = 2 ∨ j = 3 ∨ j = 4 ∨ j = 5 ∨ j = 6 by omega) with rfl | rfl | rfl | rfl | rfl | rfl | rfl <;> exact ⟨_, by decide, rfl⟩) | (rcases (show j = 0 ∨ j = 1 ∨ j = 2 ∨ j = 3 ∨ j = 4 by omega) with rfl | rfl | rfl | rfl | rfl <;> exact ⟨_, by decide, rfl⟩) | (rcases (show j = 0 ∨ j = 1 ∨ j = 2 ∨ j = 3 by omega) with rfl | rfl | rfl | rfl <;> exact ⟨_, by decide, rfl⟩))).mono ?_
       clear hR
       rintro e wk ⟨v, v0, rfl, hR, hG⟩
       replace hT := only_trans (by first | exact hT | exact only_alloc hT _ | exact only_alloc (only_alloc hT _) _) hG; clear hG)
    | (go_at_call 26
       refine (number_str _ _ (by omega) (by omega)).mono ?_
       rintro e wk ⟨s, hs, rfl, rfl⟩)
    | (go_at_call 20
       refine (exprText_any _ (by omega) (by omega) (by first | exact hR | exact hR.alloc _ | exact (hR.alloc _).alloc _) (by omega)).mono ?_
       clear hR
       rintro e wk ⟨s, q, hs, hq, rfl, hR, hG⟩
       replace hT := only_trans (by first | exact hT | exact only_alloc hT _ | exact only_alloc (only_alloc hT _) _) hG; clear hG)
    | (go_at_call 17
       refine (blockText_1 (by first | exact hR | exact hR.alloc _ | exact (hR.alloc _).alloc _) (by omega)).mono ?_
       clear hR
       rintro e wk ⟨s, q, hs, hq, rfl, hR, hG⟩
       replace hT := only_trans (by first | exact hT | exact only_alloc hT _ | exact only_alloc (only_alloc hT _) _) hG; clear hG))
      all_goals
        go_roundw
        case rel => exact ⟨m - 1, _, _, by omega, by first | go_num | (congr 1; omega), rfl, by (try simp only [ByteArray.size_append, ByteArray.size_mk', List.size_toArray, List.length_cons, List.length_nil]); omega, by omega, hR, hT⟩
        case measure => simp [intOf]; omega
    · obtain rfl : m = 0 := by omega
      go_wp2_with fail
      go_ret
      exact ⟨_, _, by omega, by omega, rfl, hR, hT⟩

end Go.Proofs.Ytghjppijcneamaa
