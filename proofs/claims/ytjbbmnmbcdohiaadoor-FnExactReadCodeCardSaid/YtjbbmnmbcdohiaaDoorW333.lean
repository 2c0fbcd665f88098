/- The text of a program is its lines; equalCode and newlines. -/
import Derived.Test.YtjbbmnmbcdohiaaDoorW332
import Derived.Test.YtjbbmnmbcdohiaaDoorW306
namespace Go.Proofs.YtjbbmnmbcdohiaaDoor
open Go.RowKit
set_option linter.unusedSimpArgs false
theorem split_lines : ∀ xs : List (List UInt8), (∀ x ∈ xs, (10 : UInt8) ∉ x) → splitC 10 (xs.flatMap (· ++ [10])) = xs ++ [[]]
  | [], _ => rfl
  | x :: xs, h => by
    have e : (x :: xs).flatMap (· ++ [10]) = x ++ 10 :: xs.flatMap (· ++ [10]) := by simp
    rw [e, splitC_hit 10 x _ (h x List.mem_cons_self), split_lines xs (fun y hy => h y (List.mem_cons_of_mem _ hy))]
    rfl
theorem join_split : ∀ s : List UInt8, (splitC 10 s).flatMap (· ++ [10]) = s ++ [10]
  | [] => rfl
  | x :: l => by
    have ih := join_split l
    obtain ⟨q, qs, hq⟩ : ∃ q qs, splitC 10 l = q :: qs := List.exists_cons_of_ne_nil (splitC_ne 10 l)
    unfold splitC
    rw [hq] at ih ⊢
    by_cases h : x = 10
    · rw [if_pos h, h]
      show [10] ++ (q :: qs).flatMap (· ++ [10]) = _
      rw [ih]
      rfl
    · rw [if_neg h]
      simp only [List.headD_cons, List.tail_cons, List.flatMap_cons, List.cons_append] at ih ⊢
      rw [ih]
theorem codeT_lines (n : Nat) (F : Nat → Ins) : codeT n F = (linesL n F).flatMap (· ++ [10]) := by
  unfold codeT linesL
  rw [List.flatMap_map]
  rfl
theorem RC.text {s : List UInt8} {n : Nat} {f : Nat → Ins} (h : RC s n f) : s = codeT n f := by
  have h1 := join_split s
  rw [h.cut, List.flatMap_append, ← codeT_lines] at h1
  simp only [List.flatMap_cons, List.flatMap_nil, List.nil_append, List.append_nil] at h1
  exact (List.append_cancel_right h1).symm
theorem RC.count {s : List UInt8} {n : Nat} {f : Nat → Ins} (h : RC s n f) : s.count 10 = n := by
  have h1 := splitC_len 10 s
  rw [h.cut, List.length_append, linesL_len, List.length_singleton] at h1
  omega
theorem wT_no10 : ∀ n : Fin 10, (10 : UInt8) ∉ (wT n.val).data.toList := by decide
theorem show_no10 {c : Ins} (h : insB c = true) : (10 : UInt8) ∉ insL c := by
  unfold insL showL
  rw [if_pos h]
  obtain ⟨op, d, a, b, k⟩ := c
  obtain ⟨d, a, b, k, rfl, rfl, rfl, rfl, hd, ha, hb, hk, hw0, hw1⟩ := VI_nat h
  obtain ⟨n, hn⟩ := Int.eq_ofNat_of_zero_le hw0
  simp only at hn
  intro hm
  rcases List.mem_append.1 hm with hm | hm
  · have h1 := op_is op n (by simp only at hw1; omega) hn
    rw [h1, ByteArray.toList_eq] at hm
    exact wT_no10 ⟨n, by simp only at hw1; omega⟩ hm
  · obtain ⟨ch, _, hc⟩ := List.mem_flatMap.1 hm
    rcases List.mem_cons.1 hc with e | e
    · revert e
      decide
    · obtain ⟨m, hm1, _⟩ := partV_nat d a b k ch.toNat hd ha hb hk
      refine partB_no d a b k ch ?_ 10 (by decide) e
      unfold partV
      split
      · omega
      · split
        · omega
        · split <;> omega
theorem vc_val {n : Nat} {F : Nat → Ins} (h : vcB n F = true) : ∀ j, j < n → insB (F j) = true := (vc_all h).2
theorem rc_of {n : Nat} {F : Nat → Ins} (h : vcB n F = true) : RC (codeT n F) n F := by
  refine ⟨?_, vc_val h, h⟩
  rw [codeT_lines, split_lines]
  intro x hx
  simp only [linesL, List.mem_map, List.mem_range] at hx
  obtain ⟨j, hj, rfl⟩ := hx
  exact show_no10 (vc_val h j hj)
theorem codeT_congr {n : Nat} {f g : Nat → Ins} (h : ∀ j, j < n → f j = g j) : codeT n f = codeT n g := by
  rw [codeT_lines, codeT_lines]
  congr 1
  unfold linesL
  apply List.map_congr_left
  intro j hj
  rw [h j (List.mem_range.1 hj)]
theorem equalCode_zero (A1 A2 : Option Addr) (c1 c2 : Nat) (w : World) :
    Calls Tryd.prog 19 #[.slice A1 0 c1, .slice A2 0 c2] w fun e w' => e = .returned (.bool true) ∧ w.grownBy w' none := by
  go_enter Tryd.func19, Tryd.ntmps19
  go_wp2
  refine wp_loop_rounds 1 ?_
  rw [rounds_succ]
  go_wp2
  go_ret
  exact ⟨rfl, World.grownBy.refl _ _⟩
set_option maxHeartbeats 4000000 in
theorem equalCode_at (b1 o1 b2 o2 c1 c2 n : Nat) (f : Nat → Ins) (w : World) (hn : n ≤ 9223372036854775807) (h1 : Code w (some ⟨b1, o1, none⟩) n f) (h2 : Code w (some ⟨b2, o2, none⟩) n f) :
    Calls Tryd.prog 19 #[.slice (some ⟨b1, o1, none⟩) n c1, .slice (some ⟨b2, o2, none⟩) n c2] w fun e w' => e = .returned (.bool true) ∧ w.grownBy w' none := by
  have H1 := shade h1
  have H2 := shade h2
  clear h1 h2
  go_enter Tryd.func19, Tryd.ntmps19
  go_wp2
  go_loopw [5] (fun i wr => ∃ k : Nat, k ≤ n ∧ i = .int .i64 k ∧ w.grownBy wr none) (fun i _ => n - (intOf i).toNat)
  case atStart => exact ⟨0, Nat.zero_le _, rfl, World.grownBy.refl _ _⟩
  case round =>
    obtain ⟨k, hk, rfl, hg⟩ := hrel
    by_cases hkn : k < n
    · have hgd := grown_same hg (grown_drew1 wr)
      have p := (H1.out.on hgd).five hkn
      have q := (H2.out.on hgd).five hkn
      have HG := shade hgd
      clear hg hgd
      generalize f k = cc at *
      obtain ⟨op, d, a, b', kk⟩ := cc
      simp only [] at p q
      have S0 := shade (And.intro p q)
      clear p q
      go_wp2_with fail
      go_region_held3 (fun w' => (w'.cell? ⟨b1, o1 + k * 5, none⟩ = some (.string op) ∧ w'.cell? ⟨b1, o1 + k * 5 + 1, none⟩ = some (.int .i64 d) ∧ w'.cell? ⟨b1, o1 + k * 5 + 2, none⟩ = some (.int .i64 a) ∧ w'.cell? ⟨b1, o1 + k * 5 + 3, none⟩ = some (.int .i64 b') ∧ w'.cell? ⟨b1, o1 + k * 5 + 4, none⟩ = some (.int .i64 kk)) ∧ (w'.cell? ⟨b2, o2 + k * 5, none⟩ = some (.string op) ∧ w'.cell? ⟨b2, o2 + k * 5 + 1, none⟩ = some (.int .i64 d) ∧ w'.cell? ⟨b2, o2 + k * 5 + 2, none⟩ = some (.int .i64 a) ∧ w'.cell? ⟨b2, o2 + k * 5 + 3, none⟩ = some (.int .i64 b') ∧ w'.cell? ⟨b2, o2 + k * 5 + 4, none⟩ = some (.int .i64 kk))) (exact S0.out) (fail)
      go_wp2_with fail
      go_roundw
      case rel => exact ⟨k + 1, by omega, by go_num, HG.out⟩
      case measure => simp [intOf]; omega
    · have hkn2 : k = n := by omega
      subst hkn2
      have HG := shade hg
      clear hg
      go_wp2
      go_ret
      exact ⟨rfl, HG.out⟩
theorem equalCode_any (A1 A2 : Option Addr) (c1 c2 n : Nat) (f : Nat → Ins) (w : World) (hn : n ≤ 9223372036854775807) (h1 : Code w A1 n f) (h2 : Code w A2 n f) :
    Calls Tryd.prog 19 #[.slice A1 n c1, .slice A2 n c2] w fun e w' => e = .returned (.bool true) ∧ w.grownBy w' none := by
  by_cases h0 : n = 0
  · subst h0
    exact equalCode_zero A1 A2 c1 c2 w
  · obtain ⟨b1, o1, rfl, _⟩ := h1.resolve_left h0
    obtain ⟨b2, o2, rfl, _⟩ := h2.resolve_left h0
    exact equalCode_at b1 o1 b2 o2 c1 c2 n f w hn h1 h2
theorem newlines_is (l : List UInt8) (w : World) (hl : l.length ≤ 1048576) :
    Calls Tryd.prog 22 #[.string (tx l)] w fun e w' => e = .returned (.int .i64 (l.count 10 : Nat)) ∧ w = w' := by
  have hz := tx_size l
  go_enter Tryd.func22, Tryd.ntmps22
  go_wp2
  go_loopw [3, 4] (fun v i wr => ∃ j : Nat, j ≤ l.length ∧ i = .int .i64 j ∧ v = .int .i64 ((l.take j).count 10 : Nat) ∧ w = wr) (fun _ i _ => l.length - (intOf i).toNat)
  case atStart => exact ⟨0, Nat.zero_le _, rfl, rfl, rfl⟩
  case round =>
    obtain ⟨j, hj, rfl, rfl, rfl⟩ := hrel
    by_cases hjn : j < l.length
    · have hg := tx_get l j (by rw [hz]; exact hjn) hjn
      have htk : (l.take (j + 1)).count 10 = (l.take j).count 10 + (if l[j] = 10 then 1 else 0) := by
        rw [List.take_succ_eq_append_getElem hjn, List.count_append, List.count_singleton]
        simp
      have hcl : (l.take j).count 10 ≤ j := Nat.le_trans List.count_le_length (by simp; omega)
      obtain ⟨c, hc⟩ : ∃ c, l[j] = c := ⟨_, rfl⟩
      rw [hc] at hg htk
      obtain ⟨C, hC⟩ : ∃ C, (l.take j).count 10 = C := ⟨_, rfl⟩
      rw [hC] at htk hcl ⊢
      have HTK := shade htk
      clear htk hc hC
      by_cases h10 : c = 10
      · have hb : ((c.toNat : Int) == 10) = true := by rw [h10]; rfl
        have HT := shade (show (l.take (j + 1)).count 10 = C + 1 from by rw [HTK.out, if_pos h10])
        clear h10 HTK
        go_wp2_with fail
        go_roundw
        case rel => exact ⟨j + 1, by omega, by go_num, by rw [HT.out]; go_num, trivial⟩
        case measure => simp [intOf]; omega
      · have hb : ((c.toNat : Int) == 10) = false := by
          simp only [beq_eq_false_iff_ne, ne_eq]
          intro e
          exact h10 (UInt8.toNat_inj.1 (by have : (10 : UInt8).toNat = 10 := rfl; omega))
        have HT := shade (show (l.take (j + 1)).count 10 = C from by rw [HTK.out, if_neg h10]; rfl)
        clear h10 HTK
        go_wp2_with fail
        go_roundw
        case rel => exact ⟨j + 1, by omega, by go_num, by rw [HT.out], trivial⟩
        case measure => simp [intOf]; omega
    · obtain rfl : j = l.length := by omega
      go_wp2_with fail
      go_ret
      rw [List.take_length]
      exact ⟨rfl, rfl⟩
end Go.Proofs.YtjbbmnmbcdohiaaDoor
