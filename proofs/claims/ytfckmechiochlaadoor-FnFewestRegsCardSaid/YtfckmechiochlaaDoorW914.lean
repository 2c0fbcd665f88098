/- Who is needed at once with whom, by the program. -/
import Derived.Test.YtfckmechiochlaaDoorW913
import Derived.Test.YtfckmechiochlaaDoorW863
namespace Go.Proofs.YtfckmechiochlaaDoor
open Go.RowKit
set_option linter.unusedSimpArgs false
/-- Those that are needed at once with one, by the first rows. -/
def wi (R : Nat → Nat) (i : Nat) : Nat → Nat
  | 0 => 0
  | k + 1 => if (R k).testBit i then wi R i k ||| R k else wi R i k
theorem wi_bit (R : Nat → Nat) (a i : Nat) : ∀ n, (wi R i n).testBit a = clB R a i n
  | 0 => by simp [wi, clB]
  | n + 1 => by
    have ih := wi_bit R a i n
    simp only [wi, clB]
    rcases hb : (R n).testBit i with _ | _
    · rw [if_neg (by decide), ih, Bool.and_false, Bool.or_false]
    · rw [if_pos rfl, Nat.testBit_or, ih, Bool.and_true]
theorem wi_lt (R : Nat → Nat) (i : Nat) : ∀ n, (∀ k, k < n → R k < 256) → wi R i n < 256
  | 0, _ => by
    show 0 < 256
    omega
  | n + 1, h => by
    have ih := wi_lt R i n (fun k hk => h k (by omega))
    simp only [wi]
    split
    · exact Nat.or_lt_two_pow (n := 8) ih (h n (by omega))
    · exact ih
/-- The row while row k is done up to i. -/
def wrow (R : Nat → Nat) (k i : Nat) : Nat → Int := fun j => ((if j < i then wi R j (k + 1) else wi R j k : Nat) : Int)
theorem wrow_start (R : Nat → Nat) (k j : Nat) : wrow R k 0 j = ((wi R j k : Nat) : Int) := by
  unfold wrow
  rw [if_neg (by omega)]
theorem wrow_end (R : Nat → Nat) (n k j : Nat) (h : j < n) : wrow R k n j = ((wi R j (k + 1) : Nat) : Int) := by
  unfold wrow
  rw [if_pos h]
theorem wrow_next (R : Nat → Nat) (k i j : Nat) : wrow R k (i + 1) j = if j = i then ((wi R i (k + 1) : Nat) : Int) else wrow R k i j := by
  unfold wrow
  by_cases e : j = i
  · subst e
    rw [if_pos (by omega), if_pos rfl]
  · rw [if_neg e]
    by_cases h : j < i
    · rw [if_pos h, if_pos (by omega)]
    · rw [if_neg h, if_neg (by omega)]
theorem numL_put (n : Nat) (f g : Nat → Int) (i : Nat) (x : Int) (h : ∀ j, g j = if j = i then x else f j) : (numL n f).set i (.int .i64 x) = numL n g := by
  apply List.ext_getElem?
  intro j
  rw [List.getElem?_set]
  by_cases hj : j < n
  · rw [numL_get n f j hj, numL_get n g j hj, numL_len, h j]
    by_cases e : i = j
    · subst e
      rw [if_pos rfl, if_pos hj, if_pos rfl]
    · rw [if_neg e, if_neg (fun e2 => e e2.symm)]
  · have e1 : (numL n f)[j]? = none := List.getElem?_eq_none (by rw [numL_len]; omega)
    have e2 : (numL n g)[j]? = none := List.getElem?_eq_none (by rw [numL_len]; omega)
    rw [e1, e2, numL_len]
    split
    · rename_i h1
      subst h1
      rw [if_neg hj]
    · rfl
set_option maxRecDepth 100000 in
set_option maxHeartbeats 8000000 in
theorem neededWith_any (A : Option Addr) (n c : Nat) (R : Nat → Nat) (w : World) (hn : n ≤ 8) (hR : ∀ i, i < n → R i < 256) (h : Nums w A n (fun j => (R j : Int))) :
    Calls Tryd.prog 53 #[.slice A n c] w fun e w' => ∃ g, e = .returned (.slice (some ⟨g, 0, none⟩) n n) ∧ w'.ownsRow w.heap.size 61 1 (.slice (some ⟨g, 0, none⟩) n n) n (numL n (fun i => ((wi R i n : Nat) : Int))) ∧ w.grownBy w' none := by
  have HN := shade h
  have HR := shade hR
  clear h hR
  obtain ⟨i0, hi, hz0, hz1, hz2⟩ := info_parts info_set
  go_enter Tryd.func53, Tryd.ntmps53
  go_wp2_with (first
    | (at_make; refine wpList_make_full _ rfl _ _ 58 rfl w.heap.size 61 i0 (.int .i64 0) 1 Tryd.underlying58 hi hz0 hz1 .i64 .i64 n n n rfl rfl rfl rfl (by rw [hz2]; omega) (by unfold maxLen; omega) (Nat.le_refl _) ?_)
    | go_in)
  intro w1 hown1 hgr1
  have hown2 : w1.ownsRow w.heap.size 61 1 (.slice (some ⟨w.heap.size, 0, none⟩) n n) n (numL n (fun j => ((wi R j 0 : Nat) : Int))) := by
    have e := made_zero n
    rw [e] at hown1
    exact hown1
  have HO := shade hown2
  have HG := shade hgr1
  clear hown1 hown2 hgr1
  go_wp2_with fail
  go_loopw [12] (fun q wr => ∃ k : Nat, k ≤ n ∧ q = .int .i64 (k : Int) ∧ w.grownBy wr none ∧ wr.ownsRow w.heap.size 61 1 (.slice (some ⟨w.heap.size, 0, none⟩) n n) n (numL n (fun j => ((wi R j k : Nat) : Int)))) (fun q _ => n - (intOf q).toNat)
  case atStart => exact ⟨0, Nat.zero_le _, rfl, HG.out, HO.out⟩
  case round =>
    obtain ⟨k, hk, rfl, hgr, hown⟩ := hrel
    have HGR := shade hgr
    have HOW := shade hown
    clear hgr hown
    by_cases hkn : k < n
    · obtain ⟨b, off, rfl, -⟩ := HN.out.resolve_left (by omega)
      have q0 : _ = some (Value.int .i64 ((R k : Nat) : Int)) := (nums_up HN.out HGR.out).cell hkn
      have hRk := HR.out k hkn
      obtain ⟨wo, hwo⟩ : ∃ wo : World, wo = wr := ⟨_, rfl⟩
      go_wp2_with fail
      go_loopw [18] (fun q wr2 => ∃ i : Nat, i ≤ n ∧ q = .int .i64 (i : Int) ∧ w.grownBy wr2 none ∧ wr2.ownsRow w.heap.size 61 1 (.slice (some ⟨w.heap.size, 0, none⟩) n n) n (numL n (wrow R k i))) (fun q _ => n - (intOf q).toNat)
      case atStart =>
        refine ⟨0, Nat.zero_le _, rfl, HGR.out, ?_⟩
        rw [numL_congr n (wrow R k 0) (fun j => ((wi R j k : Nat) : Int)) (fun j _ => wrow_start R k j)]
        exact HOW.out
      case round =>
        obtain ⟨i, hi2, rfl, hgr, hown⟩ := hrel
        have HGI := shade hgr
        have HOI := shade hown
        clear hgr hown
        by_cases hin : i < n
        · have q1 := World.ownsRow.cellAt HOI.out i (by omega)
          rw [numL_get n _ i hin, show wrow R k i i = ((wi R i k : Nat) : Int) by unfold wrow; rw [if_neg (by omega)]] at q1
          have q2 := World.ownsRow.frozenAt HOI.out i
          have hwl := wi_lt R i k (fun t ht => HR.out t (by omega))
          have HH := shade (fun W => has_any (R k) i W hRk (by omega))
          have HX := shade (show wi R i (k + 1) = if (R k).testBit i then wi R i k ||| R k else wi R i k from rfl)
          have h3 := or63 (wi R i k) (R k) hwl hRk
          have HST := shade (World.ownsRow.stored HOI.out i (.int .i64 ((wi R i k ||| R k : Nat) : Int)))
          rcases hb : (R k).testBit i with _ | _
          · rw [hb] at HX HH
            clear hb HST h3 q1 q2
            go_wp2_with (first
              | (go_at_call 86; refine (HH.out _).mono ?_; rintro e w' ⟨rfl, rfl⟩)
              | go_in)
            go_roundw
            case rel =>
              refine ⟨i + 1, by omega, by go_num, HGI.out, ?_⟩
              rw [numL_congr n (wrow R k (i + 1)) (wrow R k i) (fun j _ => by
                rw [wrow_next]
                split
                · rename_i e
                  rw [e, HX.out, if_neg (by decide)]
                  unfold wrow
                  rw [if_neg (Nat.lt_irrefl i)]
                · rfl)]
              exact HOI.out
            case measure => simp [intOf]; omega
          · rw [hb] at HX HH
            rw [if_pos rfl] at HX
            have HW2 := shade (fun j => wrow_next R k i j)
            rw [HX.out] at HW2
            clear hb HX
            generalize wi R i k ||| R k = U2 at *
            generalize wi R i k = U at *
            generalize R k = rk at *
            go_wp2_with (first
              | (go_at_call 86; refine (HH.out _).mono ?_; rintro e w' ⟨rfl, rfl⟩)
              | go_in)
            go_roundw
            case rel =>
              refine ⟨i + 1, by omega, by go_num, grown_row HGI.out HST.out.2 (fun b e => by injection e with e; omega), ?_⟩
              have h4 := HST.out.1
              rw [numL_put n (wrow R k i) (wrow R k (i + 1)) i (U2 : Int) (fun j => HW2.out j)] at h4
              exact h4
            case measure => simp [intOf]; omega
        · obtain rfl : i = n := by omega
          go_wp2_with fail
          go_roundw
          case rel =>
            refine ⟨k + 1, by omega, by go_num, HGI.out, ?_⟩
            rw [numL_congr i (fun j => ((wi R j (k + 1) : Nat) : Int)) (wrow R k i) (fun j hj => (wrow_end R i k j hj).symm)]
            exact HOI.out
          case measure => simp [intOf]; omega
    · obtain rfl : k = n := by omega
      go_wp2_with fail
      go_ret
      exact ⟨_, rfl, HOW.out, HGR.out⟩
end Go.Proofs.YtfckmechiochlaaDoor
