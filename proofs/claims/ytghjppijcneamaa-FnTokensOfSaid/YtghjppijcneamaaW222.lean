/- Sources that are drawn: only the reader changes. -/
import Derived.Test.YtghjppijcneamaaW221
namespace Go.Proofs.Ytghjppijcneamaa
open Go.RowKit
set_option linter.unusedSimpArgs false
theorem blockText_any {A : Option Addr} {n cap g : Nat} {zs : List Int} {p : Nat} (d : Int) (d0 : 0 ≤ d) (d1 : d ≤ 2) {w : World} (h : Rd w g A n cap zs p) (hp : p + 1733 < 1000000) :
    Calls Try.prog 17 #[.pointer (some ⟨g, 0, none⟩), .int .i64 d] w (StrOk 1950 1633 w g A n cap zs p) := by
  rcases (show d = 0 ∨ d = 1 ∨ d = 2 by omega) with rfl | rfl | rfl
  · exact (blockText_0 h (by omega)).mono fun e w' h => h.weak (by omega) (by omega)
  · exact (blockText_1 h (by omega)).mono fun e w' h => h.weak (by omega) (by omega)
  · exact (blockText_2 h (by omega)).mono fun e w' h => h.weak (by omega) (by omega)
theorem Rd.drew {A : Option Addr} {n cap g : Nat} {zs : List Int} {p : Nat} {w : World} (h : Rd w g A n cap zs p) : Rd w.drew g A n cap zs p := ⟨h.blk, h.len, h.cap, h.cells, h.rng, h.few⟩
theorem only_drew {w : World} {g : Nat} : w.grownBy w.drew (some g) := ⟨rfl, rfl, rfl, Nat.le_refl _, fun _ _ _ => rfl⟩
set_option maxRecDepth 100000 in
set_option maxHeartbeats 16000000 in
theorem mutate_any {A : Option Addr} {n cap g : Nat} {zs : List Int} {p : Nat} (s : ByteArray) (hs : s.size ≤ 10000) {w : World} (h : Rd w g A n cap zs p) (hp : p + 60 < 1000000) :
    Calls Try.prog 21 #[.pointer (some ⟨g, 0, none⟩), .string s] w (StrOk 10010 5 w g A n cap zs p) := by
  have hg := h.blk.inside
  have hR := h
  clear h
  have hT := only_refl w g
  go_enter Try.func21, Try.ntmps21
  go_wp2_with fail
  refine (pick_rel _ hR (by omega)).mono ?_
  clear hR
  rintro e wk ⟨v, ⟨v0, v1, _⟩, rfl, hR, hG⟩
  replace v1 := v1 (by omega)
  replace hT := only_trans (by first | exact hT | exact only_alloc hT _ | exact only_alloc (only_alloc hT _) _) hG; clear hG
  go_wp2_with fail
  refine (pick_rel _ hR (by omega)).mono ?_
  clear hR
  rintro e wk ⟨c, ⟨c0, c1, _⟩, rfl, hR, hG⟩
  replace c1 := c1 (by omega)
  replace hT := only_trans (by first | exact hT | exact only_alloc hT _ | exact only_alloc (only_alloc hT _) _) hG; clear hG
  have hgl := hR.blk.inside
  have HR := shade hR
  have HT := shade hT
  clear hR hT
  rcases (show c = 0 ∨ c = 1 ∨ c = 2 ∨ c = 3 ∨ c = 4 by omega) with rfl | rfl | rfl | rfl | rfl
  · by_cases hvs : v < (s.size : Int)
    · have hw : IntKind.i64.wrap (v + 1) = v + 1 := by rw [IntKind.wrap_i64]; omega
      have v2 : v ≤ (s.size : Int) := by omega
      have v3 : (0 : Int) ≤ v + 1 := by omega
      have v4 : v + 1 ≤ (s.size : Int) := by omega
      obtain ⟨X, hX⟩ : ∃ X, s.extract 0 v.toNat = X := ⟨_, rfl⟩
      obtain ⟨Z, hZ⟩ : ∃ Z, s.extract (v + 1).toNat s.size = Z := ⟨_, rfl⟩
      have lX : X.size ≤ 10000 := by rw [← hX, ByteArray.size_extract]; omega
      have lZ : Z.size ≤ 10000 := by rw [← hZ, ByteArray.size_extract]; omega
      have lXZ : X.size + Z.size ≤ 10000 := by rw [← hX, ← hZ, ByteArray.size_extract, ByteArray.size_extract]; omega
      have a1 := fun (b : UInt8) (W : World) => run_string_add_sum (P := Try.prog) W X (⟨#[b]⟩ : ByteArray) (show X.size + 1 ≤ _ by omega)
      have s1 := fun (b : UInt8) => (show (X ++ (⟨#[b]⟩ : ByteArray)).size = X.size + 1 from ByteArray.size_append)
      have a2 := fun (b : UInt8) (W : World) => run_string_add_sum (P := Try.prog) W (X ++ (⟨#[b]⟩ : ByteArray)) Z (by rw [s1]; omega)
      have s2 := fun (b : UInt8) => (show ((X ++ (⟨#[b]⟩ : ByteArray)) ++ Z).size = X.size + 1 + Z.size from ByteArray.size_append.trans (by rw [s1]))
      have S2 := shade s2
      have H0 := shade (Rd.drew HR.out)
      clear s1 s2
      go_wp2_with fail
      go_region_held3 (fun _ => True) (exact trivial)
        (first
          | (go_at_call 25; refine (of_rel (fun s => ∃ b : UInt8, s = ⟨#[b]⟩) (H0.out.alloc _) (by omega) _ _ _ (by omega) (by omega) (by omega) (by have := H0.out.blk.inside; omega) (by intro j hj; rw [show (⟨wk.heap.size, j, none⟩ : Addr) = ⟨wk.drew.heap.size, j, none⟩ from rfl, World.cell?_alloc_new]; rcases (show j = 0 ∨ j = 1 ∨ j = 2 ∨ j = 3 ∨ j = 4 ∨ j = 5 ∨ j = 6 by omega) with rfl | rfl | rfl | rfl | rfl | rfl | rfl <;> exact ⟨_, ⟨_, rfl⟩, rfl⟩)).mono ?_; rintro e w4 ⟨x, ⟨b, rfl⟩, rfl, hR, hG⟩; have HR4 := shade hR; have HT4 := shade (only_trans (only_trans HT.out only_drew) (only_trans (only_alloc (only_refl _ _) _) hG)); clear hR hG))
      go_wp2_with fail
      go_ret
      exact ⟨_, _, by rw [S2.out]; omega, by omega, rfl, HR4.out, HT4.out⟩
    · go_wp2_with fail
      go_ret
      exact ⟨_, _, by omega, by omega, rfl, HR.out, HT.out⟩
  · by_cases hvs : v < (s.size : Int)
    · have hw : IntKind.i64.wrap (v + 1) = v + 1 := by rw [IntKind.wrap_i64]; omega
      have v2 : v ≤ (s.size : Int) := by omega
      have v3 : (0 : Int) ≤ v + 1 := by omega
      have v4 : v + 1 ≤ (s.size : Int) := by omega
      obtain ⟨X, hX⟩ : ∃ X, s.extract 0 v.toNat = X := ⟨_, rfl⟩
      obtain ⟨Z, hZ⟩ : ∃ Z, s.extract (v + 1).toNat s.size = Z := ⟨_, rfl⟩
      have lX : X.size ≤ 10000 := by rw [← hX, ByteArray.size_extract]; omega
      have lZ : Z.size ≤ 10000 := by rw [← hZ, ByteArray.size_extract]; omega
      have lXZ : X.size + Z.size ≤ 10000 := by rw [← hX, ← hZ, ByteArray.size_extract, ByteArray.size_extract]; omega
      have a1 := fun (b : UInt8) (W : World) => run_string_add_sum (P := Try.prog) W X (⟨#[b]⟩ : ByteArray) (show X.size + 1 ≤ _ by omega)
      have s1 := fun (b : UInt8) => (show (X ++ (⟨#[b]⟩ : ByteArray)).size = X.size + 1 from ByteArray.size_append)
      have a2 := fun (b : UInt8) (W : World) => run_string_add_sum (P := Try.prog) W (X ++ (⟨#[b]⟩ : ByteArray)) Z (by rw [s1]; omega)
      have s2 := fun (b : UInt8) => (show ((X ++ (⟨#[b]⟩ : ByteArray)) ++ Z).size = X.size + 1 + Z.size from ByteArray.size_append.trans (by rw [s1]))
      have S2 := shade s2
      have H0 := shade (Rd.drew HR.out)
      clear s1 s2
      go_wp2_with fail
      go_region_held3 (fun _ => True) (exact trivial)
        (first
          | (go_at_call 25; refine (of_rel (fun s => ∃ b : UInt8, s = ⟨#[b]⟩) (H0.out.alloc _) (by omega) _ _ _ (by omega) (by omega) (by omega) (by have := H0.out.blk.inside; omega) (by intro j hj; rw [show (⟨wk.heap.size, j, none⟩ : Addr) = ⟨wk.drew.heap.size, j, none⟩ from rfl, World.cell?_alloc_new]; rcases (show j = 0 ∨ j = 1 ∨ j = 2 ∨ j = 3 ∨ j = 4 ∨ j = 5 ∨ j = 6 by omega) with rfl | rfl | rfl | rfl | rfl | rfl | rfl <;> exact ⟨_, ⟨_, rfl⟩, rfl⟩)).mono ?_; rintro e w4 ⟨x, ⟨b, rfl⟩, rfl, hR, hG⟩; have HR4 := shade hR; have HT4 := shade (only_trans (only_trans HT.out only_drew) (only_trans (only_alloc (only_refl _ _) _) hG)); clear hR hG))
      go_wp2_with fail
      go_ret
      exact ⟨_, _, by rw [S2.out]; omega, by omega, rfl, HR4.out, HT4.out⟩
    · go_wp2_with fail
      go_ret
      exact ⟨_, _, by omega, by omega, rfl, HR.out, HT.out⟩
  · have v2 : v ≤ (s.size : Int) := by omega
    go_wp2_with fail
    go_ret
    exact ⟨_, _, by rw [ByteArray.size_extract]; omega, by omega, rfl, HR.out, HT.out⟩
  · have hR := HR.out
    have hT := HT.out
    go_wp2_with (first
    | (go_at_call 19
       refine (pick_rel _ (by first | exact hR | exact hR.alloc _ | exact (hR.alloc _).alloc _) (by omega)).mono ?_
       clear hR
       rintro e wk ⟨v, ⟨v0, v1, v2⟩, rfl, hR, hG⟩
       replace v1 := v1 (by omega)
       clear v2
       replace hT := only_trans (by first | exact hT | exact only_alloc hT _ | exact only_alloc (only_alloc hT _) _) hG; clear hG)
    | (go_at_call 18
       refine (one_rel (fun x => 0 ≤ x ∧ x < 256) (by first | exact hR | exact hR.alloc _ | exact (hR.alloc _).alloc _) (by omega) _ _ _ (by omega) (by omega) (by omega) (by have := hR.blk.inside; omega) (by intro j hj; rw [World.cell?_alloc_new]; first | (rcases (show j = 0 ∨ j = 1 ∨ j = 2 ∨ j = 3 by omega) with rfl | rfl | rfl | rfl <;> exact ⟨_, by omega, rfl⟩) | (rcases (show j = 0 ∨ j = 1 ∨ j = 2 by omega) with rfl | rfl | rfl <;> exact ⟨_, by omega, rfl⟩))).mono ?_
       clear hR
       rintro e wk ⟨v, ⟨v0, v1⟩, rfl, hR, hG⟩
       replace hT := only_trans (by first | exact hT | exact only_alloc hT _ | exact only_alloc (only_alloc hT _) _) hG; clear hG)
    | (go_at_call 25
       refine (of_rel (fun s => s.size ≤ 3) (by first | exact hR | exact hR.alloc _ | exact (hR.alloc _).alloc _) (by omega) _ _ _ (by omega) (by omega) (by omega) (by have := hR.blk.inside; omega) (by intro j hj; rw [World.cell?_alloc_new]; first | (rcases (show j = 0 ∨ j = 1 ∨ j = 2 ∨ j = 3 ∨ j = 4 ∨ j = 5 ∨ j = 6 by omega) with rfl | rfl | rfl | rfl | rfl | rfl | rfl <;> exact ⟨_, by decide, rfl⟩) | (rcases (show j = 0 ∨ j = 1 ∨ j = 2 ∨ j = 3 ∨ j = 4 by omega) with rfl | rfl | rfl | rfl | rfl <;> exact ⟨_, by decide, rfl⟩) | (rcases (show j = 0 ∨ j = 1 ∨ j = 2 ∨ j = 3 by omega) with rfl | rfl | rfl | rfl <;> exact ⟨_, by decide, rfl⟩))).mono ?_
       clear hR
       rintro e wk ⟨v, v0, rfl, hR, hG⟩
       replace hT := only_trans (by first | exact hT | exact only_alloc hT _ | exact only_alloc (only_alloc hT _) _) hG; clear hG)
    | (go_at_call 26
       refine (number_str _ _ (by omega) (by omega)).mono ?_
       rintro e wk ⟨s, hs, rfl, rfl⟩))
    go_ret
    exact ⟨_, _, by rw [ByteArray.size_append]; omega, by omega, rfl, hR, hT⟩
  · go_wp2_with fail
    go_ret
    exact ⟨_, _, by omega, by omega, rfl, HR.out, HT.out⟩
set_option maxRecDepth 100000 in
set_option maxHeartbeats 16000000 in
theorem someSource_any {A : Option Addr} {n cap g : Nat} {zs : List Int} {p : Nat} {w : World} (h : Rd w g A n cap zs p) (hp : p + 1933 < 1000000) :
    Calls Try.prog 12 #[.pointer (some ⟨g, 0, none⟩)] w (StrOk 10010 1683 w g A n cap zs p) := by
  have hg := h.blk.inside
  have hR := h
  clear h
  have hT := only_refl w g
  go_enter Try.func12, Try.ntmps12
  go_wp2_with fail
  refine (one_rel (fun x => 0 ≤ x ∧ x ≤ 2) (by first | exact hR | exact hR.alloc _ | exact (hR.alloc _).alloc _) (by omega) _ _ _ (by omega) (by omega) (by omega) (by have := hR.blk.inside; omega) (by intro j hj; rw [World.cell?_alloc_new]; first | (rcases (show j = 0 ∨ j = 1 ∨ j = 2 ∨ j = 3 by omega) with rfl | rfl | rfl | rfl <;> exact ⟨_, by omega, rfl⟩) | (rcases (show j = 0 ∨ j = 1 ∨ j = 2 by omega) with rfl | rfl | rfl <;> exact ⟨_, by omega, rfl⟩))).mono ?_
  clear hR
  rintro e wk ⟨v, ⟨v0, v1⟩, rfl, hR, hG⟩
  replace hT := only_trans (by first | exact hT | exact only_alloc hT _ | exact only_alloc (only_alloc hT _) _) hG; clear hG
  have hgl := hR.blk.inside
  go_wp2_with (first
    | (go_at_call 17
       refine (blockText_any _ (by omega) (by omega) (by first | exact hR | exact hR.alloc _ | exact (hR.alloc _).alloc _) (by omega)).mono ?_
       clear hR
       rintro e wk ⟨s, q, hs, hq, rfl, hR, hG⟩
       replace hT := only_trans (by first | exact hT | exact only_alloc hT _ | exact only_alloc (only_alloc hT _) _) hG; clear hG)
    | (go_at_call 21
       refine (mutate_any _ (by (try simp only [ByteArray.size_append, ByteArray.size_mk', ByteArray.size_extract, List.size_toArray, List.length_cons, List.length_nil]); omega) (by first | exact hR | exact hR.alloc _ | exact (hR.alloc _).alloc _) (by omega)).mono ?_
       clear hR
       rintro e wk ⟨s, q, hs, hq, rfl, hR, hG⟩
       replace hT := only_trans (by first | exact hT | exact only_alloc hT _ | exact only_alloc (only_alloc hT _) _) hG; clear hG)
    | (go_at_call 19
       refine (pick_rel _ (by first | exact hR | exact hR.alloc _ | exact (hR.alloc _).alloc _) (by omega)).mono ?_
       clear hR
       rintro e wk ⟨v, ⟨v0, v1, v2⟩, rfl, hR, hG⟩
       replace v1 := v1 (by omega)
       clear v2
       replace hT := only_trans (by first | exact hT | exact only_alloc hT _ | exact only_alloc (only_alloc hT _) _) hG; clear hG)
    | (go_at_call 18
       refine (one_rel (fun x => 0 ≤ x ∧ x < 256) (by first | exact hR | exact hR.alloc _ | exact (hR.alloc _).alloc _) (by omega) _ _ _ (by omega) (by omega) (by omega) (by have := hR.blk.inside; omega) (by intro j hj; rw [World.cell?_alloc_new]; first | (rcases (show j = 0 ∨ j = 1 ∨ j = 2 ∨ j = 3 by omega) with rfl | rfl | rfl | rfl <;> exact ⟨_, by omega, rfl⟩) | (rcases (show j = 0 ∨ j = 1 ∨ j = 2 by omega) with rfl | rfl | rfl <;> exact ⟨_, by omega, rfl⟩))).mono ?_
       clear hR
       rintro e wk ⟨v, ⟨v0, v1⟩, rfl, hR, hG⟩
       replace hT := only_trans (by first | exact hT | exact only_alloc hT _ | exact only_alloc (only_alloc hT _) _) hG; clear hG)
    | (go_at_call 25
       refine (of_rel (fun s => s.size ≤ 3) (by first | exact hR | exact hR.alloc _ | exact (hR.alloc _).alloc _) (by omega) _ _ _ (by omega) (by omega) (by omega) (by have := hR.blk.inside; omega) (by intro j hj; rw [World.cell?_alloc_new]; first | (rcases (show j = 0 ∨ j = 1 ∨ j = 2 ∨ j = 3 ∨ j = 4 ∨ j = 5 ∨ j = 6 by omega) with rfl | rfl | rfl | rfl | rfl | rfl | rfl <;> exact ⟨_, by decide, rfl⟩) | (rcases (show j = 0 ∨ j = 1 ∨ j = 2 ∨ j = 3 ∨ j = 4 by omega) with rfl | rfl | rfl | rfl | rfl <;> exact ⟨_, by decide, rfl⟩) | (rcases (show j = 0 ∨ j = 1 ∨ j = 2 ∨ j = 3 by omega) with rfl | rfl | rfl | rfl <;> exact ⟨_, by decide, rfl⟩))).mono ?_
       clear hR
       rintro e wk ⟨v, v0, rfl, hR, hG⟩
       replace hT := only_trans (by first | exact hT | exact only_alloc hT _ | exact only_alloc (only_alloc hT _) _) hG; clear hG)
    | (go_at_call 26
       refine (number_str _ _ (by omega) (by omega)).mono ?_
       rintro e wk ⟨s, hs, rfl, rfl⟩)
    | (go_at_call 20
       refine (exprText_any _ (by omega) (by omega) (by first | exact hR | exact hR.alloc _ | exact (hR.alloc _).alloc _) (by omega)).mono ?_
       clear hR
       rintro e wk ⟨s, q, hs, hq, rfl, hR, hG⟩
       replace hT := only_trans (by first | exact hT | exact only_alloc hT _ | exact only_alloc (only_alloc hT _) _) hG; clear hG))
  all_goals
    go_ret
    exact ⟨_, _, by (try simp only [ByteArray.size_append, ByteArray.size_mk', ByteArray.size_extract, List.size_toArray, List.length_cons, List.length_nil]); omega, by omega, rfl, hR, hT⟩
end Go.Proofs.Ytghjppijcneamaa
