/- What the texts' walks call: marks (the same text for the same number), the kind of a byte, rows of digits and of letters. -/
import Derived.Test.YtghjppijcneamaaW200
import Derived.Laws.IdiomStrings
namespace Go.Proofs.Ytghjppijcneamaa
open Go.RowKit
def mkD (k : Nat) (acc : List UInt8) : List UInt8 := if h : k = 0 then acc else mkD (k / 10) (UInt8.ofNat (48 + k % 10) :: acc)
termination_by k
decreasing_by omega
/-- The mark of a number. -/
def mt (k : Nat) : ByteArray := tx (109 :: mkD k [])
theorem mkD_zero (acc : List UInt8) : mkD 0 acc = acc := by rw [mkD, dif_pos rfl]
theorem mkD_pos (k : Nat) (acc : List UInt8) (h : 0 < k) : mkD k acc = mkD (k / 10) (UInt8.ofNat (48 + k % 10) :: acc) := by
  rw [mkD, dif_neg (by omega)]
theorem tx_one (d : UInt8) (x : List UInt8) : ByteArray.append ⟨#[d]⟩ (tx x) = tx (d :: x) := tx_append [d] x
theorem tx_one' (d : UInt8) (x : List UInt8) : (⟨#[d]⟩ : ByteArray) ++ tx x = tx (d :: x) := tx_append [d] x
theorem grown_alloc' {a b : World} {row : Option Nat} (h : a.grownBy b row) (o : Obj) : a.grownBy (b.alloc o) row := grown_same h (World.grownBy_alloc b o row)
set_option maxHeartbeats 2000000 in
theorem markText_is (k : Nat) (w : World) (h0 : 0 < k) (h1 : k ≤ 100000000) :
    Calls Try.prog 16 #[.int .i64 k] w fun e w' => e = .returned (.string (mt k)) ∧ w.grownBy w' none := by
  go_enter Try.func16, Try.ntmps16
  go_wp2
  go_loopw [0, 3] (fun x t wr => ∃ (kk : Nat) (acc : List UInt8), x = .int .i64 kk ∧ t = .string (tx acc) ∧ mkD kk acc = mkD k [] ∧ acc.length + kk ≤ 100000000 ∧ w.grownBy wr none) (fun x _ _ => (intOf x).toNat)
  case atStart => exact ⟨k, [], rfl, rfl, rfl, by simpa using h1, World.grownBy.refl _ _⟩
  case round =>
    obtain ⟨kk, acc, rfl, rfl, hmk, hk1, hg⟩ := hrel
    have HG := shade hg
    have HM := shade hmk
    clear hg hmk
    by_cases hp : 0 < kk
    · obtain ⟨d, hd, hd2⟩ : ∃ d : UInt8, (d.toNat : Int) = 48 + (kk : Int) % 10 ∧ UInt8.ofNat (48 + kk % 10) = d := ⟨UInt8.ofNat (48 + kk % 10), by
        simp only [UInt8.toNat_ofNat']
        omega, rfl⟩
      have hcv : ∀ W : World, W.cell? ⟨wr.heap.size, 0, none⟩ = some (.int .u8 (48 + (kk : Int) % 10)) → (convert 22 9 (.slice (some ⟨wr.heap.size, 0, none⟩) 1 1)).run Try.prog W = .ok (.string ⟨#[d]⟩) W := fun W hW =>
        run_convert_bytes_back (P := Try.prog) W 22 9 5 ⟨wr.heap.size, 0, none⟩ 1 [d] Try.underlying22 Try.underlying5 Try.underlying9 (fun j hj => by
          have : j = 0 := by simpa using hj
          subst this
          rw [Addr.add_lit]
          simpa [hd] using hW)
      have hcv2 := hcv (wr.alloc (.cells #[.int .u8 (48 + (kk : Int) % 10)] 5)) (by rw [World.cell?_alloc_new]; rfl)
      have hadd := fun W : World => run_string_add_sum (P := Try.prog) W ⟨#[d]⟩ (tx acc) (by
        rw [tx_size]
        show 1 + acc.length ≤ _
        omega)
      clear hcv
      go_wp2
      go_roundw
      case rel =>
        refine ⟨kk / 10, d :: acc, by go_num, by first | rw [tx_one] | rw [tx_one'], ?_, ?_, grown_alloc' HG.out _⟩
        · rw [← HM.out, mkD_pos kk acc hp, hd2]
        · simp only [List.length_cons]
          omega
      case measure =>
        clear hcv2 hadd
        simp [intOf]
        omega
    · have hz : kk = 0 := by omega
      subst hz
      have hadd := fun W : World => run_string_add_sum (P := Try.prog) W ⟨#[109]⟩ (tx acc) (by
        rw [tx_size]
        show 1 + acc.length ≤ _
        omega)
      go_wp2
      go_ret
      rw [mkD_zero] at HM
      refine ⟨?_, HG.out⟩
      show _ = Ending.returned (Value.string (mt k))
      unfold mt
      rw [← HM.out]
      first | (rw [tx_one]; rfl) | (rw [tx_one']; rfl) | rfl
theorem kindOf_is (c : UInt8) (w : World) :
    Calls Try.prog 22 #[.int .u8 c.toNat] w fun e w' => e = .returned (.int .i64 (kd c)) ∧ w = w' := by
  have hc : c.toNat ≤ 255 := by have := c.toNat_lt; omega
  obtain ⟨x, hx⟩ : ∃ x : Nat, c.toNat = x := ⟨_, rfl⟩
  have hk : kd c = if x = 32 ∨ x = 10 then 0 else if 48 ≤ x ∧ x ≤ 57 then 1 else if 97 ≤ x ∧ x ≤ 122 then 2 else 3 := by rw [← hx]; rfl
  rw [hk, hx]
  rw [hx] at hc
  clear hk hx
  by_cases h0 : x = 32
  · subst h0
    go_enter Try.func22, Try.ntmps22
    go_wp2
    go_ret
    exact ⟨rfl, rfl⟩
  by_cases h1 : x = 10
  · subst h1
    go_enter Try.func22, Try.ntmps22
    go_wp2
    go_ret
    exact ⟨rfl, rfl⟩
  rw [if_neg (by omega)]
  by_cases h2 : 48 ≤ x ∧ x ≤ 57
  · rw [if_pos h2]
    have a0 : ((x : Int) == 32) = false := by simp; omega
    have a1 : ((x : Int) == 10) = false := by simp; omega
    have a2 : (48 : Int) ≤ x := by omega
    have a3 : (x : Int) ≤ 57 := by omega
    go_enter Try.func22, Try.ntmps22
    go_wp2
    go_ret
    exact ⟨rfl, rfl⟩
  rw [if_neg h2]
  by_cases h3 : 97 ≤ x ∧ x ≤ 122
  · rw [if_pos h3]
    have a0 : ((x : Int) == 32) = false := by simp; omega
    have a1 : ((x : Int) == 10) = false := by simp; omega
    have a2 : ¬ (x : Int) ≤ 57 := by omega
    have a4 : (97 : Int) ≤ x := by omega
    have a5 : (x : Int) ≤ 122 := by omega
    have a6 : (48 : Int) ≤ x := by omega
    go_enter Try.func22, Try.ntmps22
    go_wp2
    go_ret
    exact ⟨rfl, rfl⟩
  rw [if_neg h3]
  have a0 : ((x : Int) == 32) = false := by simp; omega
  have a1 : ((x : Int) == 10) = false := by simp; omega
  by_cases b1 : x < 48
  · have a2 : ¬ (48 : Int) ≤ x := by omega
    have a3 : ¬ (97 : Int) ≤ x := by omega
    go_enter Try.func22, Try.ntmps22
    go_wp2
    go_ret
    exact ⟨rfl, rfl⟩
  by_cases b2 : x < 97
  · have a2 : (48 : Int) ≤ x := by omega
    have a4 : ¬ (x : Int) ≤ 57 := by omega
    have a3 : ¬ (97 : Int) ≤ x := by omega
    go_enter Try.func22, Try.ntmps22
    go_wp2
    go_ret
    exact ⟨rfl, rfl⟩
  · have a2 : (48 : Int) ≤ x := by omega
    have a4 : ¬ (x : Int) ≤ 57 := by omega
    have a3 : (97 : Int) ≤ x := by omega
    have a5 : ¬ (x : Int) ≤ 122 := by omega
    go_enter Try.func22, Try.ntmps22
    go_wp2
    go_ret
    exact ⟨rfl, rfl⟩


set_option maxHeartbeats 2000000 in
theorem isDigits_is (x : List UInt8) (w : World) (hx : x.length ≤ 1048576) :
    Calls Try.prog 23 #[.string (tx x)] w fun e w' => e = .returned (.bool (allK 1 x)) ∧ w = w' := by
  have hz := tx_size x
  go_enter Try.func23, Try.ntmps23
  go_wp2
  go_loop [3] (fun i => ∃ j : Nat, j ≤ x.length ∧ i = .int .i64 j ∧ ∀ m (h : m < j) (h' : m < x.length), kd x[m] = 1) (fun i => x.length - (intOf i).toNat)
  case atStart => exact ⟨0, Nat.zero_le _, rfl, fun m h => absurd h (Nat.not_lt_zero m)⟩
  case round =>
    obtain ⟨j, hj, rfl, hall⟩ := hrel
    have HA := shade hall
    clear hall
    by_cases hjn : j < x.length
    · have hg := tx_get x j (by rw [hz]; exact hjn) hjn
      obtain ⟨b, hb⟩ : ∃ b : UInt8, x[j] = b := ⟨_, rfl⟩
      rw [hb] at hg
      have hk := kd_one b
      by_cases hd : kd b = 1
      · have h1 : (48 : Int) ≤ b.toNat := by have := hk.1 hd; omega
        have h2 : (b.toNat : Int) ≤ 57 := by have := hk.1 hd; omega
        go_wp2
        go_round
        case rel =>
          refine ⟨j + 1, by omega, by go_num, fun m h h' => ?_⟩
          by_cases e : m = j
          · subst e
            rw [hb]
            exact hd
          · exact HA.out m (by omega) h'
        case measure => simp [intOf]; omega
      · have hf : allK 1 x = false := by
          rcases hq : allK 1 x with _ | _
          · rfl
          · simp only [allK, Bool.and_eq_true, List.all_eq_true, beq_iff_eq] at hq
            exact absurd (hq.2 b (hb ▸ List.getElem_mem hjn)) hd
        by_cases hlo : b.toNat < 48
        · have h1 : ¬ (48 : Int) ≤ b.toNat := by omega
          go_wp2
          go_ret
          exact ⟨by first | rfl | (rw [hf]; rfl), rfl⟩
        · have h1 : (48 : Int) ≤ b.toNat := by omega
          have h2 : ¬ (b.toNat : Int) ≤ 57 := by
            intro e
            exact hd (hk.2 ⟨by omega, by omega⟩)
          go_wp2
          go_ret
          exact ⟨by first | rfl | (rw [hf]; rfl), rfl⟩
    · have hjn2 : j = x.length := by omega
      have hall : ∀ c ∈ x, kd c = 1 := by
        intro c hc
        obtain ⟨m, hm, e⟩ := List.getElem_of_mem hc
        rw [← e]
        exact HA.out m (by omega) hm
      by_cases he : x = []
      · subst he
        have hs : (tx []).toList = [] := tx_toList []
        go_wp2
        go_ret
        exact ⟨rfl, rfl⟩
      · have hs := tx_toList x
        have hq : (x == ([] : List UInt8)) = false := by
          rcases x with _ | ⟨_, _⟩
          · exact absurd rfl he
          · rfl
        have hf : allK 1 x = true := by
          simp only [allK, Bool.and_eq_true, List.all_eq_true, beq_iff_eq, Bool.not_eq_true', List.isEmpty_eq_false_iff]
          exact ⟨he, hall⟩
        subst hjn2
        go_wp2
        go_ret
        exact ⟨by first | rfl | (rw [hf]; rfl) | (rw [hf]; simp [hs, hq, he]), rfl⟩


set_option maxHeartbeats 2000000 in
theorem isLetters_is (x : List UInt8) (w : World) (hx : x.length ≤ 1048576) :
    Calls Try.prog 24 #[.string (tx x)] w fun e w' => e = .returned (.bool (allK 2 x)) ∧ w = w' := by
  have hz := tx_size x
  go_enter Try.func24, Try.ntmps24
  go_wp2
  go_loop [3] (fun i => ∃ j : Nat, j ≤ x.length ∧ i = .int .i64 j ∧ ∀ m (h : m < j) (h' : m < x.length), kd x[m] = 2) (fun i => x.length - (intOf i).toNat)
  case atStart => exact ⟨0, Nat.zero_le _, rfl, fun m h => absurd h (Nat.not_lt_zero m)⟩
  case round =>
    obtain ⟨j, hj, rfl, hall⟩ := hrel
    have HA := shade hall
    clear hall
    by_cases hjn : j < x.length
    · have hg := tx_get x j (by rw [hz]; exact hjn) hjn
      obtain ⟨b, hb⟩ : ∃ b : UInt8, x[j] = b := ⟨_, rfl⟩
      rw [hb] at hg
      have hk := kd_two b
      by_cases hd : kd b = 2
      · have h1 : (97 : Int) ≤ b.toNat := by have := hk.1 hd; omega
        have h2 : (b.toNat : Int) ≤ 122 := by have := hk.1 hd; omega
        go_wp2
        go_round
        case rel =>
          refine ⟨j + 1, by omega, by go_num, fun m h h' => ?_⟩
          by_cases e : m = j
          · subst e
            rw [hb]
            exact hd
          · exact HA.out m (by omega) h'
        case measure => simp [intOf]; omega
      · have hf : allK 2 x = false := by
          rcases hq : allK 2 x with _ | _
          · rfl
          · simp only [allK, Bool.and_eq_true, List.all_eq_true, beq_iff_eq] at hq
            exact absurd (hq.2 b (hb ▸ List.getElem_mem hjn)) hd
        by_cases hlo : b.toNat < 97
        · have h1 : ¬ (97 : Int) ≤ b.toNat := by omega
          go_wp2
          go_ret
          exact ⟨by first | rfl | (rw [hf]; rfl), rfl⟩
        · have h1 : (97 : Int) ≤ b.toNat := by omega
          have h2 : ¬ (b.toNat : Int) ≤ 122 := by
            intro e
            exact hd (hk.2 ⟨by omega, by omega⟩)
          go_wp2
          go_ret
          exact ⟨by first | rfl | (rw [hf]; rfl), rfl⟩
    · have hjn2 : j = x.length := by omega
      have hall : ∀ c ∈ x, kd c = 2 := by
        intro c hc
        obtain ⟨m, hm, e⟩ := List.getElem_of_mem hc
        rw [← e]
        exact HA.out m (by omega) hm
      by_cases he : x = []
      · subst he
        have hs : (tx []).toList = [] := tx_toList []
        go_wp2
        go_ret
        exact ⟨rfl, rfl⟩
      · have hs := tx_toList x
        have hq : (x == ([] : List UInt8)) = false := by
          rcases x with _ | ⟨_, _⟩
          · exact absurd rfl he
          · rfl
        have hf : allK 2 x = true := by
          simp only [allK, Bool.and_eq_true, List.all_eq_true, beq_iff_eq, Bool.not_eq_true', List.isEmpty_eq_false_iff]
          exact ⟨he, hall⟩
        subst hjn2
        go_wp2
        go_ret
        exact ⟨by first | rfl | (rw [hf]; rfl) | (rw [hf]; simp [hs, hq, he]), rfl⟩

end Go.Proofs.Ytghjppijcneamaa
