/- The program's wordsOf and TokensOf. -/
import Derived.Test.YtghjppijcneamaaW202
namespace Go.Proofs.Ytghjppijcneamaa
open Go.RowKit
theorem info9 : (Try.prog.info? 9).map (fun i => (i.zero, i.size, i.bytes)) = some (some (.string ⟨#[]⟩), 1, 16) := by kernel_rfl
/-- What a call leaves that makes a row of texts. -/
def StrRes (xs : List (List UInt8)) (w : World) (e : Ending) (w' : World) : Prop :=
  ∃ v, e = .returned v ∧ w'.ownsRow w.heap.size 9 1 v xs.length (strL xs) ∧ w.grownBy w' none
theorem grown_row {a b c : World} {v : Value} (h : a.grownBy b none) (h' : b.grownBy c v.ownBlock) (hv : ∀ j, v.ownBlock = some j → a.heap.size ≤ j) : a.grownBy c none := by
  rcases e : v.ownBlock with _ | j
  · rw [e] at h'
    exact grown_same h h'
  · rw [e] at h'
    exact grown_then h h' (hv j e)
theorem tx_drop (l : List UInt8) (k : Nat) : (tx l).extract k (tx l).size = tx (l.drop k) := by
  rw [tx_extract, tx_size, List.take_of_length_le (by simp)]
theorem tx_take (l : List UInt8) (k : Nat) : (tx l).extract 0 k = tx (l.take k) := by
  rw [tx_extract]
  simp
theorem kd_cmp (c : UInt8) (k : Nat) (h : kd c = k) : (Value.int IntKind.i64 (kd c : Int)) = .int .i64 (k : Int) := by rw [h]
set_option maxRecDepth 100000 in
set_option maxHeartbeats 8000000 in
theorem wordsOf_res (l : List UInt8) (w : World) (hl : l.length ≤ 1048576) :
    Calls Try.prog 14 #[.string (tx l)] w (StrRes (tkw [] l) w) := by
  have hlen := tkw_len l []
  simp only [List.length_nil, Nat.zero_add] at hlen
  have HL := shade hlen
  clear hlen
  go_enter Try.func14, Try.ntmps14
  go_wp2
  go_loopw [0, 3] (fun s v wr => ∃ (p : List UInt8) (xs : List (List UInt8)), p.length ≤ l.length ∧ s = .string (tx p) ∧ xs ++ tkw [] p = tkw [] l ∧ wr.ownsRow w.heap.size 9 1 v xs.length (strL xs) ∧ w.grownBy wr none) (fun s _ _ => match s with | .string b => b.size | _ => 0)
  case atStart => exact ⟨l, [], Nat.le_refl _, rfl, rfl, World.ownsRow_nil _ _ _ _, grown_refl _ _⟩
  case round =>
    obtain ⟨p, xs, hp, rfl, hx, ho, hg⟩ := hrel
    have HX := shade hx
    have HO := shade ho
    have HG := shade hg
    clear hx ho hg
    obtain ⟨A4, c4, rfl, -⟩ := ownsRow_slice HO.out
    have hz := tx_size p
    have ht := tx_toList p
    rcases p with _ | ⟨c, r⟩
    · have hx2 := HX.out
      rw [show tkw [] ([] : List UInt8) = [] from rfl, List.append_nil] at hx2
      subst hx2
      go_wp2
      go_ret
      exact ⟨_, rfl, HO.out, HG.out⟩
    · have hg := tx_get (c :: r) 0 (by rw [hz]; simp) (by simp)
      simp only [List.length_cons] at hz hp
      simp only [List.getElem_cons_zero] at hg
      go_wp2_with fail
      refine (kindOf_is c _).mono ?_
      rintro e w1 ⟨rfl, rfl⟩
      obtain ⟨k, hk⟩ : ∃ k, kd c = k := ⟨_, rfl⟩
      have hk3 : k ≤ 3 := by rw [← hk]; exact kd_le c
      rw [hk]
      obtain ⟨M, hM⟩ : ∃ M, runLen k r = M := ⟨_, rfl⟩
      have hMr : M ≤ r.length := by rw [← hM]; exact runLen_le k r
      have HIN := shade (fun (j : Nat) (hj : j < M) (h : j < r.length) => runLen_in k r j (by rw [hM]; exact hj) h)
      have HNX := shade (fun (h : M < r.length) => runLen_next k r M hM.symm h)
      have HST := shade (tkw_step c r)
      rw [hk, hM] at HST
      have HKC := shade hk
      clear hk hM hg
      go_wp2_with fail
      go_loop [5] (fun q => ∃ m : Nat, 1 ≤ m ∧ m ≤ M + 1 ∧ q = .int .i64 m) (fun q => r.length + 2 - (intOf q).toNat)
      case atStart => exact ⟨1, Nat.le_refl _, by omega, rfl⟩
      case round =>
        obtain ⟨m, hm1, hm2, rfl⟩ := hrel
        by_cases hmM : m < M + 1
        · have hmr : m - 1 < r.length := by omega
          obtain ⟨hkm, hk3'⟩ := HIN.out (m - 1) (by omega) hmr
          have hg := tx_get (c :: r) m (by rw [hz]; omega) (by simp; omega)
          have hg2 : (c :: r)[m]'(by simp; omega) = r[m - 1] := by
            obtain ⟨m, rfl⟩ : ∃ j, m = j + 1 := ⟨m - 1, by omega⟩
            rfl
          rw [hg2] at hg
          obtain ⟨d, hd⟩ : ∃ d, r[m - 1] = d := ⟨_, rfl⟩
          rw [hd] at hkm hg
          clear hg2 hd
          have e3 : ((k : Int) != 3) = true := by simp; omega
          go_wp2_with fail
          refine (kindOf_is d _).mono ?_
          rintro e w2 ⟨rfl, rfl⟩
          rw [hkm]
          go_wp2_with fail
          go_round
          case rel => exact ⟨m + 1, by omega, by omega, by go_num⟩
          case measure => simp [intOf]; omega
        · obtain rfl : m = M + 1 := by omega
          clear hmM hm1 hm2 HIN
          by_cases h3 : k = 3
          · subst h3
            clear HNX
            have htk : (tx (c :: r)).extract 0 (M + 1) = tx (c :: r.take M) := by rw [tx_take]; rfl
            have hdr : (tx (c :: r)).extract (M + 1) (r.length + 1) = tx (r.drop M) := by
              have := tx_drop (c :: r) (M + 1)
              rw [hz] at this
              exact this
            have h0 : ¬ (3 : Nat) = 0 := by omega

            have hst := HST.out
            rw [if_neg h0] at hst
            have hx2 := HX.out
            rw [hst, ← List.append_assoc] at hx2
            have HX2 := shade hx2
            have hxl : xs.length + 1 ≤ l.length := by
              have h1 := congrArg List.length hx2
              simp only [List.length_append, List.length_cons, List.length_nil] at h1
              have := HL.out
              omega
            clear hst hx2
            obtain ⟨i0, hi0, hz0, hz1, hz2⟩ := info_parts info9
            go_wp2_with (first
                  | (at_builtin; go_loud (refine wpList_append_own _ rfl _ _ 24 rfl w.heap.size 9 i0 (.string ⟨#[]⟩) 1 16 Try.underlying24 hi0 hz0 hz1 hz2 rfl (by decide) _ _ _ rfl (HO.out.alloc _) ⟨wr.heap.size, 0, none⟩ 1 1 [.string _] rfl rfl (str_new _ _ _) (str_one _) (by unfold maxLen; omega) (by omega) (by have := HG.out.size; simp; omega) ?_))
                  | go_in)
            intro v' w8 hown8 hgr8 hnil8
            rw [strL_snoc] at hown8
            have HO8 := shade (show w8.ownsRow w.heap.size 9 1 v' (xs ++ [c :: r.take M]).length (strL (xs ++ [c :: r.take M])) from by
              rw [List.length_append]
              exact hown8)
            have HG8 := shade (grown_row (grown_same HG.out (World.grownBy_alloc wr (.cells #[.string (tx (c :: r.take M))] 9) none)) (show (wr.alloc (.cells #[.string (tx (c :: r.take M))] 9)).grownBy w8 _ from hgr8) (fun j e => (World.ownsRow.lt HO.out j e).1))
            clear hown8 hgr8 hnil8 hi0 hz0 hz1 hz2 HO HG
            go_wp2_with fail
            go_roundw
            case rel => exact ⟨r.drop M, xs ++ [c :: r.take M], by simp; omega, by first | rfl | (rw [← hdr]; rfl), HX2.out, HO8.out, HG8.out⟩
            case measure => simp [hz, tx_size]; omega
          by_cases hmr : M < r.length
          · have hne : kd (r[M]) ≠ k := by
              rcases HNX.out hmr with h | h
              · exact h
              · exact absurd h h3
            have hg := tx_get (c :: r) (M + 1) (by rw [hz]; omega) (by simp; omega)
            have hg2 : (c :: r)[M + 1]'(by simp; omega) = r[M] := rfl
            rw [hg2] at hg
            obtain ⟨d, hd⟩ : ∃ d, r[M] = d := ⟨_, rfl⟩
            rw [hd] at hne hg
            clear hg2 hd
            obtain ⟨kk, hkk⟩ : ∃ kk, kd d = kk := ⟨_, rfl⟩
            rw [hkk] at hne
            have e4 : ((kk : Int) == (k : Int)) = false := by simp; omega
            have htk : (tx (c :: r)).extract 0 (M + 1) = tx (c :: r.take M) := by rw [tx_take]; rfl
            have hdr : (tx (c :: r)).extract (M + 1) (r.length + 1) = tx (r.drop M) := by
              have := tx_drop (c :: r) (M + 1)
              rw [hz] at this
              exact this
            have e3 : ((k : Int) != 3) = true := by simp; omega
            clear h3 HNX
            by_cases h0 : k = 0
            · subst h0
              have e5 : (((0 : Nat) : Int) != 3) = true := rfl
              have hst := HST.out
              rw [if_pos rfl, List.nil_append] at hst
              have hx2 := HX.out
              rw [hst] at hx2
              have HX2 := shade hx2
              clear hst hx2
              go_wp2_with fail
              refine (kindOf_is d _).mono ?_
              rintro e w2 ⟨rfl, rfl⟩
              rw [hkk]
              go_wp2_with fail
              go_roundw
              case rel => exact ⟨r.drop M, xs, by simp; omega, by first | rfl | (rw [← hdr]; rfl), HX2.out, HO.out, HG.out⟩
              case measure => simp [hz, tx_size]; omega
            · have e0 : ((k : Int) != 0) = true := by simp; omega
              have hst := HST.out
              rw [if_neg h0] at hst
              have hx2 := HX.out
              rw [hst, ← List.append_assoc] at hx2
              have HX2 := shade hx2
              have hxl : xs.length + 1 ≤ l.length := by
                have h1 := congrArg List.length hx2
                simp only [List.length_append, List.length_cons, List.length_nil] at h1
                have := HL.out
                omega
              clear hst hx2
              obtain ⟨i0, hi0, hz0, hz1, hz2⟩ := info_parts info9
              go_wp2_with fail
              refine (kindOf_is d _).mono ?_
              rintro e w2 ⟨rfl, rfl⟩
              rw [hkk]
              go_wp2_with (first
                    | (at_builtin; go_loud (refine wpList_append_own _ rfl _ _ 24 rfl w.heap.size 9 i0 (.string ⟨#[]⟩) 1 16 Try.underlying24 hi0 hz0 hz1 hz2 rfl (by decide) _ _ _ rfl (HO.out.alloc _) ⟨wr.heap.size, 0, none⟩ 1 1 [.string _] rfl rfl (str_new _ _ _) (str_one _) (by unfold maxLen; omega) (by omega) (by have := HG.out.size; simp; omega) ?_))
                    | go_in)
              intro v' w8 hown8 hgr8 hnil8
              rw [strL_snoc] at hown8
              have HO8 := shade (show w8.ownsRow w.heap.size 9 1 v' (xs ++ [c :: r.take M]).length (strL (xs ++ [c :: r.take M])) from by
                rw [List.length_append]
                exact hown8)
              have HG8 := shade (grown_row (grown_same HG.out (World.grownBy_alloc wr (.cells #[.string (tx (c :: r.take M))] 9) none)) (show (wr.alloc (.cells #[.string (tx (c :: r.take M))] 9)).grownBy w8 _ from hgr8) (fun j e => (World.ownsRow.lt HO.out j e).1))
              clear hown8 hgr8 hnil8 hi0 hz0 hz1 hz2 HO HG
              go_wp2_with fail
              go_roundw
              case rel => exact ⟨r.drop M, xs ++ [c :: r.take M], by simp; omega, by first | rfl | (rw [← hdr]; rfl), HX2.out, HO8.out, HG8.out⟩
              case measure => simp [hz, tx_size]; omega
          · have hmr2 : r.length ≤ M := by omega
            have htk : (tx (c :: r)).extract 0 (M + 1) = tx (c :: r.take M) := by rw [tx_take]; rfl
            have hdr : (tx (c :: r)).extract (M + 1) (r.length + 1) = tx (r.drop M) := by
              have := tx_drop (c :: r) (M + 1)
              rw [hz] at this
              exact this
            have e3 : ((k : Int) != 3) = true := by simp; omega
            clear h3 HNX
            by_cases h0 : k = 0
            · subst h0
              have e5 : (((0 : Nat) : Int) != 3) = true := rfl
              have hst := HST.out
              rw [if_pos rfl, List.nil_append] at hst
              have hx2 := HX.out
              rw [hst] at hx2
              have HX2 := shade hx2
              clear hst hx2
              go_wp2_with fail
              go_roundw
              case rel => exact ⟨r.drop M, xs, by simp; omega, by first | rfl | (rw [← hdr]; rfl), HX2.out, HO.out, HG.out⟩
              case measure => simp [hz, tx_size]; omega
            · have e0 : ((k : Int) != 0) = true := by simp; omega
              have hst := HST.out
              rw [if_neg h0] at hst
              have hx2 := HX.out
              rw [hst, ← List.append_assoc] at hx2
              have HX2 := shade hx2
              have hxl : xs.length + 1 ≤ l.length := by
                have h1 := congrArg List.length hx2
                simp only [List.length_append, List.length_cons, List.length_nil] at h1
                have := HL.out
                omega
              clear hst hx2
              obtain ⟨i0, hi0, hz0, hz1, hz2⟩ := info_parts info9
              go_wp2_with (first
                    | (at_builtin; go_loud (refine wpList_append_own _ rfl _ _ 24 rfl w.heap.size 9 i0 (.string ⟨#[]⟩) 1 16 Try.underlying24 hi0 hz0 hz1 hz2 rfl (by decide) _ _ _ rfl (HO.out.alloc _) ⟨wr.heap.size, 0, none⟩ 1 1 [.string _] rfl rfl (str_new _ _ _) (str_one _) (by unfold maxLen; omega) (by omega) (by have := HG.out.size; simp; omega) ?_))
                    | go_in)
              intro v' w8 hown8 hgr8 hnil8
              rw [strL_snoc] at hown8
              have HO8 := shade (show w8.ownsRow w.heap.size 9 1 v' (xs ++ [c :: r.take M]).length (strL (xs ++ [c :: r.take M])) from by
                rw [List.length_append]
                exact hown8)
              have HG8 := shade (grown_row (grown_same HG.out (World.grownBy_alloc wr (.cells #[.string (tx (c :: r.take M))] 9) none)) (show (wr.alloc (.cells #[.string (tx (c :: r.take M))] 9)).grownBy w8 _ from hgr8) (fun j e => (World.ownsRow.lt HO.out j e).1))
              clear hown8 hgr8 hnil8 hi0 hz0 hz1 hz2 HO HG
              go_wp2_with fail
              go_roundw
              case rel => exact ⟨r.drop M, xs ++ [c :: r.take M], by simp; omega, by first | rfl | (rw [← hdr]; rfl), HX2.out, HO8.out, HG8.out⟩
              case measure => simp [hz, tx_size]; omega

end Go.Proofs.Ytghjppijcneamaa
