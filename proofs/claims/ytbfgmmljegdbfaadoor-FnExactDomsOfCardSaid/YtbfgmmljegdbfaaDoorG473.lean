/- What is on all ways, by the model: plain facts. What is on all ways, by the model, walked. DomsOf and its model answer alike. DomsOf's exact law, walked. -/
import Derived.Test.YtbfgmmljegdbfaaDoorG470
import Derived.Test.YtbfgmmljegdbfaaDoorG464
import Derived.Test.YtbfgmmljegdbfaaDoorG465
import Derived.Test.YtbfgmmljegdbfaaDoorW401d
namespace Go.Proofs.YtbfgmmljegdbfaaDoor
open Go.RowKit
set_option linter.unusedSimpArgs false
/-- What the sets come to. -/
def tot (f : Nat → Nat) : Nat → Nat
  | 0 => 0
  | k + 1 => tot f k + f k
theorem tot_congr (f g : Nat → Nat) : ∀ k, (∀ x, x < k → f x = g x) → tot f k = tot g k
  | 0, _ => rfl
  | k + 1, h => by
    show tot f k + _ = tot g k + _
    rw [tot_congr f g k (fun x hx => h x (by omega)), h k (Nat.lt_succ_self k)]
theorem tot_set (f : Nat → Nat) (y v : Nat) (hv : v < f y) : ∀ k, y < k → tot (fun x => if x = y then v else f x) k < tot f k
  | 0, h => absurd h (Nat.not_lt_zero y)
  | k + 1, h => by
    show tot _ k + (if k = y then v else f k) < tot f k + f k
    by_cases e : y = k
    · subst e
      rw [tot_congr (fun x => if x = y then v else f x) f y (fun x hx => if_neg (by omega)), if_pos rfl]
      omega
    · have := tot_set f y v hv k (by omega)
      rw [if_neg (fun h => e h.symm)]
      omega
/-- What is on all ways to k, by what is on all ways to those before it. -/
def Ub (F : Nat → Ins) (n : Nat) (thr : Nat → Bool) (f : Nat → Nat) (k s : Nat) : Prop := s = k ∨ ∀ i, i < n → thr i = true → (k : Int) ∈ nxI (F i) i → (f i).testBit s = true
/-- The sets between two passes. -/
structure Psd (F : Nat → Ins) (n : Nat) (thr : Nat → Bool) (w wr : World) (k : Nat) (b : Bool) (f : Nat → Nat) : Prop where
  dts : Dts w wr n f
  lt : ∀ j, j < n → f j < 2 ^ n
  beg : ∀ s, s < n → ((f 0).testBit s = true ↔ s = 0)
  sup : ∀ j s, j < n → s < n → Dom F n s j → (f j).testBit s = true
  post : ∀ j s, 1 ≤ j → j < n → s < n → Ub F n thr f j s → (f j).testBit s = true
  clo : b = false → ∀ j s, 1 ≤ j → j < k → j < n → s < n → (f j).testBit s = true → Ub F n thr f j s
section
variable {F : Nat → Ins} {n k : Nat} {thr : Nat → Bool} {f : Nat → Nat} {w wr wr' : World} {b : Bool}
theorem Psd.on (h : Psd F n thr w wr k b f) (hg : wr.grownBy wr' none) : Psd F n thr w wr' k b f := ⟨h.dts.on hg, h.lt, h.beg, h.sup, h.post, h.clo⟩
theorem Psd.start (h : Psd F n thr w wr k b f) : Psd F n thr w wr 1 false f := ⟨h.dts, h.lt, h.beg, h.sup, h.post, fun _ j s h1 h2 => by omega⟩
theorem Psd.left (h : Psd F n thr w wr k b f) : tot (fun x => (outOf wr w.heap.size x).toNat) n = tot f n := tot_congr _ _ _ (fun x hx => by
  unfold outOf
  rw [h.dts.cell x hx]
  rfl)
theorem Psd.same (h : Psd F n thr w wr k b f) (s : Nat) (hb : ∀ q, q < n → (s.testBit q = true ↔ Ub F n thr f k q)) (e : s = f k) : Psd F n thr w wr (k + 1) b f := ⟨h.dts, h.lt, h.beg, h.sup, h.post, fun hb' j q h1 h2 h3 hq hj => by
  by_cases e' : j = k
  · subst e'
    rw [← e] at hj
    exact (hb q hq).1 hj
  · exact h.clo hb' j q h1 (by omega) h3 hq hj⟩
theorem Ub.mono {F : Nat → Ins} {n : Nat} {thr : Nat → Bool} {f f' : Nat → Nat} {k s : Nat} (h : Ub F n thr f k s) (hf : ∀ i, i < n → (f i).testBit s = true → (f' i).testBit s = true) : Ub F n thr f' k s := by
  rcases h with h | h
  · exact .inl h
  · exact .inr (fun i hi ht hk => hf i hi (h i hi ht hk))
theorem Psd.put (h : Psd F n thr w wr k b f) (hthr : ∀ y, y ≤ n → (thr y = true ↔ Way F n noCut 0 y)) (h1 : 1 ≤ k) (hk : k < n) (s : Nat) (hs : s < 2 ^ n) (hb : ∀ q, q < n → (s.testBit q = true ↔ Ub F n thr f k q)) (e : s ≠ f k) :
    Psd F n thr w (wr.setCell ⟨w.heap.size, k, none⟩ (.int .i64 (s : Int))) (k + 1) true (fun j => if j = k then s else f j) ∧ tot (fun j => if j = k then s else f j) n < tot f n := by
  have hsub : ∀ q, q < n → s.testBit q = true → (f k).testBit q = true := fun q hq hx => h.post k q h1 hk hq ((hb q hq).1 hx)
  have hle : s ≤ f k := by
    have e1 : s &&& f k = s := set_ext (n := n) (Nat.lt_of_le_of_lt Nat.and_le_left hs) hs (fun q hq => by
      rw [Nat.testBit_and]
      cases hx : s.testBit q
      · rfl
      · rw [hsub q hq hx]
        rfl)
    have := @Nat.and_le_right s (f k)
    omega
  refine ⟨⟨h.dts.set k s, fun j hj => ?_, fun q hq => ?_, fun j q hj hq hd => ?_, fun j q h1' hj hq hu => ?_, (fun e => by cases e)⟩, tot_set f k s (by omega) n hk⟩
  · show (if j = k then s else f j) < _
    split
    · exact hs
    · exact h.lt j hj
  · show (if 0 = k then s else f 0).testBit q = true ↔ _
    rw [if_neg (by omega)]
    exact h.beg q hq
  · show (if j = k then s else f j).testBit q = true
    by_cases e' : j = k
    · subst e'
      rw [if_pos rfl, hb q hq]
      by_cases eq : j = q
      · exact .inl eq.symm
      · exact .inr (fun i hi ht hs' => h.sup i q hi hq (hd.back eq hi ((hthr i (by omega)).1 ht) hs'))
    · rw [if_neg e']
      exact h.sup j q hj hq hd
  · have hu' : Ub F n thr f j q := hu.mono (fun i hi hx => by
      have hx' : (if i = k then s else f i).testBit q = true := hx
      by_cases e' : i = k
      · rw [if_pos e'] at hx'
        rw [e']
        exact hsub q hq hx'
      · rw [if_neg e'] at hx'
        exact hx')
    show (if j = k then s else f j).testBit q = true
    by_cases e' : j = k
    · subst e'
      rw [if_pos rfl]
      exact (hb q hq).2 hu'
    · rw [if_neg e']
      exact h.post j q h1' hj hq hu'
theorem Psd.bits (h : Psd F n thr w wr n false f) (hv : vcB n F = true) (hthr : ∀ y, y ≤ n → (thr y = true ↔ Way F n noCut 0 y)) (j s : Nat) (hj : j < n) (hs : s < n) (ht : thr j = true) : (f j).testBit s = true ↔ Dom F n s j := by
  refine ⟨fun hb => ?_, h.sup j s hj hs⟩
  refine ⟨(hthr j (by omega)).1 ht, ?_⟩
  by_cases e : j = s
  · exact .inl e
  · refine .inr (fun hw => ?_)
    have hX := hw (fun z => z = s ∨ z = n ∨ (z < n ∧ Way F n noCut 0 z ∧ (f z).testBit s = false)) (by
      by_cases e0 : 0 = s
      · exact .inl e0
      · refine .inr (.inr ⟨by omega, Way.start _ _ _ _, ?_⟩)
        rw [Bool.eq_false_iff, Ne, h.beg s hs]
        exact fun h => e0 h.symm) (fun x z hx hxn hc hz => by
      have hxs : x ≠ s := fun e' => by
        have hc' : (x == s) = false := hc
        rw [e'] at hc'
        simp at hc'
      rcases hx with hx | hx | ⟨_, hwx, hbx⟩
      · exact absurd hx hxs
      · omega
      · by_cases ez : z = s
        · exact .inl ez
        · obtain ⟨z', hz', hzn⟩ := nx_in hv hxn hz
          by_cases en : z = n
          · exact .inr (.inl en)
          · refine .inr (.inr ⟨by omega, hwx.step hxn rfl hz, ?_⟩)
            rw [Bool.eq_false_iff]
            intro hbz
            by_cases e0 : z = 0
            · subst e0
              exact ez ((h.beg s hs).1 hbz).symm
            · rcases h.clo rfl z s (by omega) (by omega) (by omega) hs hbz with hu | hu
              · exact ez hu.symm
              · rw [hu x hxn ((hthr x (by omega)).2 hwx) hz] at hbx
                cases hbx)
    rcases hX with hX | hX | ⟨_, _, hX⟩
    · exact e hX
    · omega
    · rw [hb] at hX
      cases hX
end
/-- What the first i leave of the set of k. -/
def Tgd (F : Nat → Ins) (n : Nat) (thr : Nat → Bool) (f : Nat → Nat) (k i s : Nat) : Prop := s < 2 ^ n ∧ ∀ q, q < n → (s.testBit q = true ↔ ∀ j, j < i → thr j = true → (k : Int) ∈ nxI (F j) j → (f j).testBit q = true)
section
variable {F : Nat → Ins} {n k i s : Nat} {thr : Nat → Bool} {f : Nat → Nat}
theorem Tgd.start : Tgd F n thr f k 0 (2 ^ n - 1) := ⟨by have := Nat.two_pow_pos n; omega, fun q hq => by
  rw [Nat.testBit_two_pow_sub_one, decide_eq_true hq]
  exact ⟨fun _ j hj => absurd hj (Nat.not_lt_zero j), fun _ => rfl⟩⟩
theorem Tgd.miss (h : Tgd F n thr f k i s) (hm : ¬ (thr i = true ∧ (k : Int) ∈ nxI (F i) i)) : Tgd F n thr f k (i + 1) s := ⟨h.1, fun q hq => by
  rw [h.2 q hq]
  constructor
  · intro hh j hj ht hk
    by_cases e : j = i
    · subst e
      exact absurd ⟨ht, hk⟩ hm
    · exact hh j (by omega) ht hk
  · intro hh j hj
    exact hh j (by omega)⟩
theorem Tgd.hit (h : Tgd F n thr f k i s) (ht : thr i = true) (hk : (k : Int) ∈ nxI (F i) i) : Tgd F n thr f k (i + 1) (s &&& f i) := ⟨Nat.lt_of_le_of_lt Nat.and_le_left h.1, fun q hq => by
  rw [Nat.testBit_and, Bool.and_eq_true, h.2 q hq]
  constructor
  · rintro ⟨h1, h2⟩ j hj ht' hk'
    by_cases e : j = i
    · subst e
      exact h2
    · exact h1 j (by omega) ht' hk'
  · intro hh
    exact ⟨fun j hj => hh j (by omega), hh i (by omega) ht hk⟩⟩
theorem Tgd.done (h : Tgd F n thr f k n s) (hk : k < n) : s ||| 2 ^ k < 2 ^ n ∧ ∀ q, q < n → ((s ||| 2 ^ k).testBit q = true ↔ Ub F n thr f k q) := by
  refine ⟨Nat.or_lt_two_pow h.1 (Nat.pow_lt_pow_right (by omega) hk), fun q hq => ?_⟩
  rw [Nat.testBit_or, Bool.or_eq_true, h.2 q hq, Nat.testBit_two_pow, decide_eq_true_eq]
  unfold Ub
  constructor
  · rintro (h1 | h1)
    · exact .inr h1
    · exact .inl h1.symm
  · rintro (h1 | h1)
    · exact .inr h1.symm
    · exact .inl h1
end
end Go.Proofs.YtbfgmmljegdbfaaDoor

namespace Go.Proofs.YtbfgmmljegdbfaaDoor
open Go.RowKit Go.Shelf
set_option linter.unusedSimpArgs false
theorem doms_begin {F : Nat → Ins} {n al k : Nat} {thr : Nat → Bool} {f : Nat → Nat} {w wr : World} (h1 : 1 ≤ n) (hal : 2 ^ n = al + 1) (h : Dts w wr n f) (hf : ∀ j, j < n → f j = al) :
    Psd F n thr w (wr.setCell ⟨w.heap.size, 0, none⟩ (.int .i64 1)) k true (fun j => if j = 0 then 1 else f j) := by
  have hal2 : al = 2 ^ n - 1 := by omega
  have hbit : ∀ j s, 1 ≤ j → j < n → s < n → ((fun j => if j = 0 then 1 else f j) j).testBit s = true := fun j s h1 hj hs => by
    show (if j = 0 then 1 else f j).testBit s = true
    rw [if_neg (by omega), hf j hj, hal2, Nat.testBit_two_pow_sub_one, decide_eq_true hs]
  have hone : ∀ s, (1 : Nat).testBit s = true ↔ s = 0 := fun s => by
    rw [show (1 : Nat) = 2 ^ 0 from rfl, Nat.testBit_two_pow, decide_eq_true_eq]
    exact eq_comm
  refine ⟨h.set 0 1, fun j hj => ?_, fun s hs => ?_, fun j s hj hs hd => ?_, fun j s h1' hj hs _ => hbit j s h1' hj hs, (fun e => by cases e)⟩
  · show (if j = 0 then 1 else f j) < _
    split
    · exact Nat.one_lt_two_pow (by omega)
    · rw [hf j hj]
      omega
  · show (if 0 = 0 then 1 else f 0).testBit s = true ↔ _
    rw [if_pos rfl]
    exact hone s
  · by_cases e : j = 0
    · subst e
      show (if 0 = 0 then 1 else f 0).testBit s = true
      rw [if_pos rfl, hone]
      rcases hd.2 with e | e
      · exact e.symm
      · exact absurd (Way.start _ _ _ _) e
    · exact hbit j s (by omega) hj hs
theorem getD_mem (l : List Int) (x : Int) : (∃ j, j < l.length ∧ l.getD j 0 = x) ↔ x ∈ l := by
  constructor
  · rintro ⟨j, hj, e⟩
    rw [List.getD_eq_getElem?_getD, List.getElem?_eq_getElem hj] at e
    rw [← e]
    exact List.getElem_mem hj
  · intro h
    obtain ⟨j, hj, e⟩ := List.getElem_of_mem h
    exact ⟨j, hj, by rw [List.getD_eq_getElem?_getD, List.getElem?_eq_getElem hj, e]; rfl⟩
set_option maxRecDepth 100000 in
set_option maxHeartbeats 32000000 in
theorem specDoms_pos (cb co n c : Nat) (F : Nat → Ins) (g : Nat → Nat) (w : World) (hn1 : 1 ≤ n) (hv : vcB n F = true) (h : Code w (some ⟨cb, co, none⟩) n F) (hgx : ∀ k, g k < 2 ^ n ∧ ∀ t, t < n → ((g k).testBit t = true ↔ Dom F n t k)) :
    Calls Tryd.prog 62 #[.slice (some ⟨cb, co, none⟩) n c] w (NumRes n (fun j => (g j : Int)) w) := by
  have hn := vcB_40 hv
  have HV := shade hv
  have H := shade h
  have HGX := shade hgx
  clear h hv hgx
  obtain ⟨i0, hi, hz0, hz1, hz2⟩ := info_parts info3n
  go_enter Tryd.func62, Tryd.ntmps62
  go_wp2_with fail
  refine (power_nat n hn w).mono ?_
  rintro e w1 ⟨rfl, rfl⟩
  obtain ⟨al, hal⟩ : ∃ al, 2 ^ n = al + 1 := ⟨2 ^ n - 1, by have := Nat.two_pow_pos n; omega⟩
  have hal40 : al + 1 ≤ 2 ^ 40 := by rw [← hal]; exact pow40 hn
  rw [hal, show ((al + 1 : Nat) : Int) = (al : Int) + 1 by omega]
  have HAL := shade hal
  clear hal
  go_wp2_with fail
  refine (specReached_any (some ⟨cb, co, none⟩) n c F w HV.out H.out).mono ?_
  rintro e wb ⟨thr, hthr, v, rfl, ho, hgb⟩
  obtain ⟨tb, tc, rfl, -⟩ := row_some ho
  have HT0 := shade (show OwnB wb w.heap.size (some ⟨tb, 0, none⟩) (n + 1) tc thr from ho)
  have HTB := shade (show tb < wb.heap.size from (World.ownsRow.lt ho tb rfl).2)
  have HTW := shade hthr
  have HGB := shade hgb
  clear ho hthr hgb
  go_wp2_with (first
    | (at_make; refine wpList_make_full _ rfl _ _ 35 rfl wb.heap.size 3 i0 (.int .i64 0) 1 Tryd.underlying35 hi hz0 hz1 .i64 .i64 n n n rfl rfl rfl rfl (by rw [hz2]; omega) (by unfold maxLen; omega) (Nat.le_refl _) ?_)
    | go_in)
  intro w2 hown2 hgr2
  simp only [made_nums] at hown2
  have L0 := shade (show Dts wb w2 n (fun _ => 0) from ⟨hown2, hgr2⟩)
  have HT1 := shade (HT0.out.on hgr2)
  clear hown2 hgr2 hi hz0 hz1 hz2 HT0
  go_wp2_with fail
  go_loopw [7] (fun q wr => ∃ (i : Nat) (f : Nat → Nat), i ≤ n ∧ q = .int .i64 (i : Int) ∧ Dts wb wr n f ∧ (∀ j, j < i → f j = al) ∧ OwnB wr w.heap.size (some ⟨tb, 0, none⟩) (n + 1) tc thr) (fun q _ => n - (intOf q).toNat)
  case atStart => exact ⟨0, _, by omega, rfl, L0.out, fun j hj => absurd hj (Nat.not_lt_zero j), HT1.out⟩
  case round =>
    clear L0 HT1
    obtain ⟨i, f, hi, rfl, hp, hf, ht⟩ := hrel
    have HP := shade hp
    have HF := shade hf
    have HT := shade ht
    clear hp hf ht
    by_cases hin : i < n
    · have s0 := HP.out.cell i hin
      have s1 := HP.out.free i
      have HN := shade (HP.out.set i al)
      have HTN := shade (HT.out.far (grown_set wb.heap.size i (.int .i64 (al : Int))) (fun e => by injection e with e; have := HTB.out; omega))
      clear HP HT
      go_wp2_with fail
      try (go_quiet (fail); go_wp2_with fail)
      go_roundw
      case rel => exact ⟨i + 1, _, by omega, by go_num, HN.out, fun j hj => by
        by_cases e : j = i
        · exact if_pos e
        · show (if j = i then al else f j) = al
          rw [if_neg e]
          exact HF.out j (by omega), HTN.out⟩
      case measure => simp [intOf]; omega
    · obtain rfl : n = i := by omega
      have hpos : (0 : Int) < (n : Int) := by omega
      have s0 := HP.out.cell 0 (by omega)
      have s1 := HP.out.free 0
      have HB := shade (doms_begin (F := F) (k := n) (thr := thr) hn1 HAL.out HP.out HF.out)
      have HTN := shade (HT.out.far (grown_set wb.heap.size 0 (.int .i64 1)) (fun e => by injection e with e; have := HTB.out; omega))
      clear HP HF HT
      go_upto_region 11 with (fail)
      obtain ⟨W3, hW3⟩ : ∃ W3, wr.setCell ⟨wb.heap.size, 0, none⟩ (.int .i64 1) = W3 := ⟨_, rfl⟩
      obtain ⟨f1, hf1⟩ : ∃ f1 : Nat → Nat, (fun j => if j = 0 then 1 else f j) = f1 := ⟨_, rfl⟩
      rw [hf1, hW3] at HB
      rw [hW3] at HTN
      rw [hW3]
      have hd : ∀ i : Decidable (0 < n), @decide (0 < n) i = true := fun i => @decide_eq_true _ i hn1
      rw [hd]
      clear hW3 hf1 s0 s1 hd
      go_wp2_with fail
      go_loopw [8] (fun ag wr => ∃ (b : Bool) (f : Nat → Nat), ag = .bool b ∧ Psd F n thr wb wr n b f ∧ OwnB wr w.heap.size (some ⟨tb, 0, none⟩) (n + 1) tc thr) (fun ag wr => 2 * tot (fun x => (outOf wr wb.heap.size x).toNat) n + flagV ag)
      case atStart => exact ⟨true, f1, rfl, HB.out, HTN.out⟩
      case round =>
        clear HB HTN
        obtain ⟨b, f, rfl, hp, ht⟩ := hrel
        have HP := shade hp
        have HT := shade ht
        clear hp ht
        rcases b with _ | _
        · have HBI := shade (fun j s hj hs ht => HP.out.bits HV.out HTW.out j s hj hs ht)
          have HD := shade HP.out.dts
          have HLT := shade HP.out.lt
          clear HP
          go_wp2_with fail
          go_loopw [12] (fun q w2 => ∃ (i : Nat) (f2 : Nat → Nat), i ≤ n ∧ q = .int .i64 (i : Int) ∧ Dts wb w2 n f2 ∧ (∀ j, j < i → f2 j = g j) ∧ (∀ j, i ≤ j → f2 j = f j) ∧ OwnB w2 w.heap.size (some ⟨tb, 0, none⟩) (n + 1) tc thr) (fun q _ => n - (intOf q).toNat)
          case atStart => exact ⟨0, f, by omega, rfl, HD.out, fun j hj => absurd hj (Nat.not_lt_zero j), fun _ _ => rfl, HT.out⟩
          case round =>
            clear HD HT
            obtain ⟨i, f2, hi, rfl, hp, hf, hf2, ht⟩ := hrel
            have HP := shade hp
            have HF := shade hf
            have HF2 := shade hf2
            have HT := shade ht
            clear hp hf hf2 ht
            by_cases hin : i < n
            · have s0 := HT.out.cell i (by omega)
              have s1 := HP.out.free i
              have s2 := HP.out.cell i hin
              rcases hti : thr i with _ | _
              · have HG0 := shade (show g i = 0 from set_ext (HGX.out i).1 (Nat.two_pow_pos n) (fun s hs => by
                  rw [Nat.zero_testBit, Bool.eq_false_iff, Ne, (HGX.out i).2 s hs]
                  intro hd
                  have := (HTW.out i (by omega)).2 hd.1
                  rw [hti] at this
                  cases this))
                rw [hti] at s0
                have HN := shade (HP.out.set i 0)
                have HTN := shade (HT.out.far (grown_set wb.heap.size i (.int .i64 0)) (fun e => by injection e with e; have := HTB.out; omega))
                clear hti HP HT
                go_wp2_with fail
                try (go_quiet (fail); go_wp2_with fail)
                go_roundw
                case rel => exact ⟨i + 1, _, by omega, by go_num, HN.out, fun j hj => by
                  show (if j = i then 0 else f2 j) = g j
                  by_cases e : j = i
                  · rw [if_pos e, e, HG0.out]
                  · rw [if_neg e]
                    exact HF.out j (by omega), fun j hj => by
                  show (if j = i then 0 else f2 j) = f j
                  rw [if_neg (by omega)]
                  exact HF2.out j (by omega), HTN.out⟩
                case measure => simp [intOf]; omega
              · have HG0 := shade (show f2 i = g i from by
                  rw [HF2.out i (Nat.le_refl i)]
                  exact set_ext (HLT.out i hin) (HGX.out i).1 (fun s hs => by rw [Bool.eq_iff_iff, HBI.out i s hin hs hti, (HGX.out i).2 s hs]))
                rw [hti] at s0
                clear hti
                go_wp2_with fail
                try (go_quiet (fail); go_wp2_with fail)
                go_roundw
                case rel => exact ⟨i + 1, f2, by omega, by go_num, HP.out, fun j hj => by
                  by_cases e : j = i
                  · rw [e, HG0.out]
                  · exact HF.out j (by omega), fun j hj => HF2.out j (by omega), HT.out⟩
                case measure => simp [intOf]; omega
            · obtain rfl : n = i := by omega
              go_wp2_with fail
              go_ret
              exact NumRes.behind HGB.out (HP.out.num HF.out)
        · have HQ := shade HP.out.start
          have HLE := shade HP.out.left
          obtain ⟨wo, rfl⟩ : ∃ wo : World, wo = wr := ⟨_, rfl⟩
          clear HP
          go_wp2_with fail
          go_loopw [8, 9] (fun ag q w2 => ∃ (b : Bool) (f2 : Nat → Nat) (k : Nat), 1 ≤ k ∧ k ≤ n ∧ q = .int .i64 (k : Int) ∧ ag = .bool b ∧ Psd F n thr wb w2 k b f2 ∧ OwnB w2 w.heap.size (some ⟨tb, 0, none⟩) (n + 1) tc thr ∧ tot f2 n ≤ tot f n ∧ (b = true → tot f2 n < tot f n)) (fun _ q _ => n - (intOf q).toNat)
          case atStart => exact ⟨false, f, 1, Nat.le_refl _, hn1, rfl, rfl, HQ.out, HT.out, Nat.le_refl _, (fun e => by cases e)⟩
          case round =>
            clear HQ HT
            obtain ⟨b, f2, k, hk1, hk, rfl, rfl, hp, ht, hle, hlt⟩ := hrel
            have HP := shade hp
            have HT := shade ht
            have HLO := shade hle
            have HLT := shade hlt
            clear hp ht hle hlt
            by_cases hkn : k < n
            · have hkk : (k : Int) < (n : Int) := by omega
              obtain ⟨wo2, rfl⟩ : ∃ wo2 : World, wo2 = wr := ⟨_, rfl⟩
              go_wp2_with fail
              go_loopw [10, 11] (fun st q w3 => ∃ (s i : Nat), i ≤ n ∧ q = .int .i64 (i : Int) ∧ st = .int .i64 (s : Int) ∧ Tgd F n thr f2 k i s ∧ Psd F n thr wb w3 k b f2 ∧ OwnB w3 w.heap.size (some ⟨tb, 0, none⟩) (n + 1) tc thr) (fun _ q _ => n - (intOf q).toNat)
              case atStart => exact ⟨al, 0, by omega, rfl, rfl, by
                have h := Tgd.start (F := F) (n := n) (k := k) (thr := thr) (f := f2)
                rw [HAL.out] at h
                exact h, HP.out, HT.out⟩
              case round =>
                clear HP HT
                obtain ⟨s, i, hi, rfl, rfl, htg, hp, ht⟩ := hrel
                have HP := shade hp
                have HT := shade ht
                have HG := shade htg
                clear hp ht htg
                by_cases hin : i < n
                · have s0 := HT.out.cell i (by omega)
                  rcases hti : thr i with _ | _
                  · have HM := shade (HG.out.miss (fun h => by rw [hti] at h; cases h.1))
                    rw [hti] at s0
                    clear hti HG
                    go_wp2_with fail
                    try (go_quiet (fail); go_wp2_with fail)
                    go_roundw
                    case rel => exact ⟨s, i + 1, by omega, by go_num, rfl, HM.out, HP.out, HT.out⟩
                    case measure => simp [intOf]; omega
                  · have HTI := shade hti
                    rw [hti] at s0
                    clear hti
                    have HNX := shade (nextOf_any cb co n c i F wr hn hin (H.out.on (grown_same HGB.out HP.out.dts.low)))
                    have HHI := shade (fun A0 c0 W hN => hasInt_any A0 (nxI (F i) i).length c0 (fun j => (nxI (F i) i).getD j 0) (k : Int) W (by have := nxI_le (F i) i; omega) hN)
                    have HMM := shade (getD_mem (nxI (F i) i) (k : Int))
                    obtain ⟨l0, hl0⟩ : ∃ l0, nxI (F i) i = l0 := ⟨_, rfl⟩
                    rw [hl0] at HNX HHI HMM
                    have HL0 := shade hl0
                    clear hl0
                    go_wp2_with fail
                    refine HNX.out.mono ?_
                    rintro e w5 h5
                    obtain ⟨v0, rfl, hR, hg5⟩ := NumRes.row h5.num
                    obtain ⟨A0, c0, rfl, hN⟩ := hR.nums
                    have HN := shade hN
                    have HP5 := shade (HP.out.on hg5)
                    have HT5 := shade (HT.out.on hg5)
                    clear h5 hR hN hg5 HNX HP HT
                    go_wp2_with fail
                    refine (HHI.out A0 c0 w5 HN.out).mono ?_
                    rintro e w6 ⟨⟨b6, rfl, hb6⟩, rfl⟩
                    have HB6 := shade (hb6.trans HMM.out)
                    clear hb6 HN HHI HMM
                    rcases b6 with _ | _
                    · have HM := shade (HG.out.miss (fun h => by
                        have h2 := h.2
                        rw [HL0.out] at h2
                        have := HB6.out.2 h2
                        cases this))
                      clear HG HB6
                      go_wp2_with fail
                      go_roundw
                      case rel => exact ⟨s, i + 1, by omega, by go_num, rfl, HM.out, HP5.out, HT5.out⟩
                      case measure => simp [intOf]; omega
                    · have HM := shade (HG.out.hit HTI.out (by rw [HL0.out]; exact HB6.out.1 rfl))
                      have s3 := HP5.out.dts.cell i hin
                      have HAND := shade (and_nat s (f2 i) (Nat.lt_of_lt_of_le HG.out.1 (Nat.pow_le_pow_right (by omega) (by omega))) (Nat.lt_of_lt_of_le (HP5.out.lt i hin) (Nat.pow_le_pow_right (by omega) (by omega))))
                      clear HG HB6
                      go_wp2_with fail
                      go_roundw
                      case rel =>
                        rw [HAND.out]
                        exact ⟨_, i + 1, by omega, by go_num, rfl, HM.out, HP5.out, HT5.out⟩
                      case measure => simp [intOf]; omega
                · obtain rfl : n = i := by omega
                  have HS := shade (HG.out.done hkn)
                  have HOR := shade (or_nat s (2 ^ k) (Nat.lt_of_lt_of_le HG.out.1 (Nat.pow_le_pow_right (by omega) (by omega))) (Nat.pow_lt_pow_right (by omega) (by omega)))
                  have HPW := shade (power_nat k (by omega) wr)
                  obtain ⟨s2, hs2⟩ : ∃ s2, s ||| 2 ^ k = s2 := ⟨_, rfl⟩
                  rw [hs2] at HS HOR
                  obtain ⟨pk, hpk⟩ : ∃ pk : Nat, 2 ^ k = pk := ⟨_, rfl⟩
                  rw [hpk] at HPW HOR
                  clear hs2 hpk HG
                  have s0 := HP.out.dts.cell k hkn
                  have s1 := HP.out.dts.free k
                  go_wp2_with fail
                  refine HPW.out.mono ?_
                  rintro e w6 ⟨rfl, rfl⟩
                  have hor := HOR.out
                  clear HPW HOR
                  by_cases e2 : s2 = f2 k
                  · have he : ((s2 : Int) == (f2 k : Int)) = true := beq_iff_eq.2 (by omega)
                    have HN := shade (HP.out.same s2 HS.out.2 e2)
                    clear e2 HP HS
                    go_wp2_with fail
                    go_roundw
                    case rel => exact ⟨b, f2, k + 1, by omega, by omega, by go_num, rfl, HN.out, HT.out, HLO.out, HLT.out⟩
                    case measure => simp [intOf]; omega
                  · have he : ((s2 : Int) == (f2 k : Int)) = false := beq_eq_false_iff_ne.2 (by omega)
                    have HN := shade (HP.out.put HTW.out hk1 hkn s2 HS.out.1 HS.out.2 e2)
                    have HTN := shade (HT.out.far (grown_set wb.heap.size k (.int .i64 (s2 : Int))) (fun e => by injection e with e; have := HTB.out; omega))
                    clear e2 HP HS HT
                    go_wp2_with fail
                    try (go_quiet (fail); go_wp2_with fail)
                    go_roundw
                    case rel =>
                      have h1 := HLO.out
                      have h2 := HN.out.2
                      exact ⟨true, _, k + 1, by omega, by omega, by go_num, rfl, HN.out.1, HTN.out, by omega, fun _ => by omega⟩
                    case measure => simp [intOf]; omega
            · obtain rfl : n = k := by omega
              go_wp2_with fail
              go_roundw
              case rel => exact ⟨b, f2, rfl, HP.out, HT.out⟩
              case measure =>
                have e1 := HP.out.left
                have e2 := HLE.out
                have e3 := HLO.out
                have e4 := HLT.out
                rw [e1, e2]
                rcases b with _ | _
                · simp [flagV]
                  omega
                · have := e4 rfl
                  simp [flagV]
                  omega
end Go.Proofs.YtbfgmmljegdbfaaDoor

namespace Go.Proofs.YtbfgmmljegdbfaaDoor
open Go.RowKit Go.Shelf
set_option linter.unusedSimpArgs false
set_option maxHeartbeats 8000000 in
theorem specDoms_zero (A : Option Addr) (c : Nat) (F : Nat → Ins) (g : Nat → Int) (w : World) (hv : vcB 0 F = true) (h : Code w A 0 F) :
    Calls Tryd.prog 62 #[.slice A 0 c] w (NumRes 0 g w) := by
  have HV := shade hv
  have H := shade h
  clear h hv
  obtain ⟨i0, hi, hz0, hz1, hz2⟩ := info_parts info3n
  go_enter Tryd.func62, Tryd.ntmps62
  go_wp2_with fail
  refine (power_nat 0 (by omega) w).mono ?_
  rintro e w1 ⟨rfl, rfl⟩
  rw [show ((2 ^ 0 : Nat) : Int) = 1 from rfl]
  go_wp2_with fail
  refine (specReached_any A 0 c F w HV.out H.out).mono ?_
  rintro e wb ⟨thr, hthr, v, rfl, ho, hgb⟩
  have HGB := shade hgb
  clear ho hthr hgb
  go_wp2_with (first
    | (at_make; refine wpList_make_full _ rfl _ _ 35 rfl wb.heap.size 3 i0 (.int .i64 0) 1 Tryd.underlying35 hi hz0 hz1 .i64 .i64 0 0 0 rfl rfl rfl rfl (by rw [hz2]; omega) (by unfold maxLen; omega) (Nat.le_refl _) ?_)
    | go_in)
  intro w2 hown2 hgr2
  have HO := shade hown2
  have HG2 := shade hgr2
  clear hown2 hgr2 hi hz0 hz1 hz2
  go_wp2_with fail
  refine wp_loop_rounds 1 ?_
  rw [rounds_succ]
  go_wp2_with fail
  refine wp_loop_rounds 2 ?_
  rw [rounds_succ]
  go_wp2_with fail
  refine wp_loop_rounds 1 ?_
  rw [rounds_succ]
  go_wp2_with fail
  rw [rounds_succ]
  go_wp2_with fail
  refine wp_loop_rounds 1 ?_
  rw [rounds_succ]
  go_wp2_with fail
  go_ret
  refine ⟨_, rfl, ?_, grown_same HGB.out HG2.out⟩
  have := World.ownsRow.mono HO.out HGB.out.size
  simpa [numL, made_nums] using this
/-- DomsOf and its model give the same sets. -/
theorem doms_both (n : Nat) (F : Nat → Ins) (hn : n ≤ 9223372036854775807) :
    ∃ (K : Nat) (f : Nat → Int), K ≤ 300 ∧ (∀ (A : Option Addr) (c : Nat) (W : World), Code W A n F → Calls Tryd.prog 27 #[.slice A n c] W (NumRes K f W)) ∧
      (∀ (A : Option Addr) (c : Nat) (W : World), WT W → Code W A n F → Calls Tryd.prog 28 #[.slice A n c] W (NumRes K f W)) := by
  rcases hv : vcB n F with _ | _
  · refine ⟨0, fun _ => 0, by omega, fun A c W hC => ?_, fun A c W hg hC => ?_⟩
    · have HV := shade (validCode_any A n c F W hn hC)
      rw [hv] at HV
      clear hv hC
      go_enter Tryd.func27, Tryd.ntmps27
      go_wp2_with fail
      refine HV.out.mono ?_
      rintro e w1 ⟨rfl, hgr⟩
      have HR := shade hgr
      clear hgr HV
      go_wp2_with fail
      go_ret
      exact ⟨_, rfl, World.ownsRow_nil _ _ _ _, HR.out⟩
    · have HV := shade (ValidCode_any A n c F W hg hn hC)
      rw [hv] at HV
      clear hv hC hg
      go_enter Tryd.func28, Tryd.ntmps28
      go_wp2_with fail
      refine HV.out.mono ?_
      rintro e w1 ⟨rfl, hgr⟩
      have HR := shade hgr
      clear hgr HV
      go_wp2_with fail
      go_ret
      exact ⟨_, rfl, World.ownsRow_nil _ _ _ _, HR.out⟩
  · have hn40 := vcB_40 hv
    obtain ⟨g, hgx⟩ := dom_sets F n
    have HGX := shade hgx
    have HVT := shade hv
    clear hgx
    have HSD := shade (show ∀ (A : Option Addr) (c : Nat) (W : World), Code W A n F → Calls Tryd.prog 62 #[.slice A n c] W (NumRes n (fun j => (g j : Int)) W) from fun A c W hC => by
      by_cases h0 : n = 0
      · subst h0
        exact specDoms_zero A c F _ W HVT.out hC
      · obtain ⟨b, off, rfl, -⟩ := hC.resolve_left h0
        exact specDoms_pos b off n c F g W (by omega) HVT.out hC HGX.out)
    refine ⟨n, fun j => (g j : Int), by omega, fun A c W hC => ?_, fun A c W hg hC => ?_⟩
    · have HV := shade (validCode_any A n c F W hn hC)
      rw [hv] at HV
      have HC := shade hC
      clear hv hC
      go_enter Tryd.func27, Tryd.ntmps27
      go_wp2_with fail
      refine HV.out.mono ?_
      rintro e w1 ⟨rfl, hgr⟩
      have HR := shade hgr
      clear hgr HV
      go_wp2_with fail
      refine (HSD.out A c w1 (HC.out.on HR.out)).mono ?_
      rintro e w2 h5
      obtain ⟨v, rfl, ho, hg2⟩ := h5
      have HO := shade (NumRes.behind HR.out (show NumRes n (fun j => (g j : Int)) w1 (.returned v) w2 from ⟨v, rfl, ho, hg2⟩))
      clear ho hg2
      go_wp2_with fail
      go_ret
      exact HO.out
    · have HV := shade (ValidCode_any A n c F W hg hn hC)
      rw [hv] at HV
      have HC := shade hC
      have HG := shade hg
      clear hv hC hg
      go_enter Tryd.func28, Tryd.ntmps28
      go_wp2_with fail
      refine HV.out.mono ?_
      rintro e w1 ⟨rfl, hgr⟩
      have HR := shade hgr
      clear hgr HV
      go_wp2_with fail
      refine (doms_any A n c F g w1 HVT.out (HG.out.below (below_of_grown HR.out) (wt_lt HG.out)) (HC.out.on HR.out) HGX.out).mono ?_
      rintro e w2 h5
      obtain ⟨v, rfl, ho, hg2⟩ := h5
      have HO := shade (NumRes.behind HR.out (show NumRes n (fun j => (g j : Int)) w1 (.returned v) w2 from ⟨v, rfl, ho, hg2⟩))
      clear ho hg2
      go_wp2_with fail
      go_ret
      exact HO.out
end Go.Proofs.YtbfgmmljegdbfaaDoor

namespace Go.Proofs.YtbfgmmljegdbfaaDoor
open Go.RowKit
set_option maxRecDepth 100000 in
set_option maxHeartbeats 4000000 in
theorem fnExactDomsOf_walk (A : Option Addr) (n c : Nat) (F : Nat → Ins) (w : World) (hg : WT w) (h : Code w A n F) (hn : n ≤ 9223372036854775807) (hs : ∀ j, j < n → (F j).op.size ≤ 9223372036854775807) :
    Calls Tryd.prog 5 #[.slice A n c] w fun e w' => e = .returned (.bool true) ∧ Below w.heap.size w w' := by
  have HSZ := shade (szInstrS_any A n c F 1048576 w (by omega) (by omega) hn hs h)
  have HS0 := shade (show SC w w A n F from ⟨hg, h, grown_refl _ _⟩)
  clear h hg hs
  obtain ⟨K, f, hK, HSpec, HImpl⟩ := doms_both n F hn
  have HSp := shade HSpec
  have HIm := shade HImpl
  clear HSpec HImpl
  go_enter Tryd.func5, Tryd.ntmps5
  go_wp2_with fail
  refine HSZ.out.mono ?_
  rintro e w1 ⟨r, rfl, hr, hgr⟩
  have HS1 := shade (HS0.out.grown hgr)
  clear hgr HSZ HS0
  rcases hr with hr | ⟨hr0, hr1⟩
  · go_wp2_with fail
    go_ret
    exact ⟨rfl, below_of_grown HS1.out.base⟩
  · have hnb : n ≤ 1048576 := by omega
    go_wp2_with fail
    refine (toInstrS_any A n c F _ hnb HS1.out.code).mono ?_
    rintro e w2 ⟨rfl, ho, hgr⟩
    have HS2 := shade (HS1.out.grown hgr)
    have HC := shade ho.code
    clear ho hgr HS1
    go_wp2_with fail
    refine (HSp.out _ _ _ HC.out).mono ?_
    rintro e w3 h5
    obtain ⟨v0, rfl, hR, hgr⟩ := NumRes.row h5
    have HS3 := shade (HS2.out.grown hgr)
    have HP3 := shade hR
    have l3 := hgr.size
    have b2 := HS2.out.lt
    clear hgr hR h5 HS2 HC
    go_wp2_with fail
    refine (toInstrS_any A n c F _ hnb HS3.out.code).mono ?_
    rintro e w4 ⟨rfl, hc4, hgr⟩
    have HS4 := shade (HS3.out.grown hgr)
    have HP4 := shade (HP3.out.grown hgr)
    have HX4 := shade hc4
    have l4 := (OwnC_lt hc4).2
    clear hgr hc4 HS3 HP3
    go_wp2_with fail
    refine (HIm.out _ _ _ HS4.out.wt HX4.out.code).mono ?_
    rintro e w5 h5
    obtain ⟨v1, rfl, hR, hgr⟩ := NumRes.row h5
    have l5 := hgr.size
    have HS5 := shade (HS4.out.grown hgr)
    have HP5 := shade (HP4.out.grown hgr)
    have HX5 := shade (OwnC_on HX4.out hgr)
    have HG5 := shade hR
    clear hgr HS4 HP4 HX4 hR h5
    go_wp2_with fail
    refine (eqIntS_row _ _ _ _ K _ _ f _ hK HG5.out HP5.out).mono ?_
    rintro e w6 ⟨rfl, hgr⟩
    have l6 := hgr.size
    have HS6 := shade (HS5.out.grown hgr)
    have HP6 := shade (HP5.out.grown hgr)
    have HX6 := shade (OwnC_on HX5.out hgr)
    have HG6 := shade (HG5.out.grown hgr)
    clear hgr HS5 HP5 HX5 HG5
    go_wp2_with fail
    refine (toInstrS_any A n c F _ hnb HS6.out.code).mono ?_
    rintro e w7 ⟨rfl, hc7, hgr⟩
    have l7 := hgr.size
    have HS7 := shade (HS6.out.grown hgr)
    have HP7 := shade (HP6.out.grown hgr)
    have HX7 := shade (OwnC_on HX6.out hgr)
    have HG7 := shade (HG6.out.grown hgr)
    have HC7 := shade hc7.code
    clear hgr HS6 HP6 HX6 HG6 hc7
    go_wp2_with fail
    refine (eqInstrS_any _ _ n n n F _ hn HX7.out.code HC7.out).mono ?_
    rintro e w8 ⟨rfl, hgr⟩
    have l8 := hgr.size
    have HS8 := shade (HS7.out.grown hgr)
    have HP8 := shade (HP7.out.grown hgr)
    have HX8 := shade (OwnC_on HX7.out hgr)
    have HG8 := shade (HG7.out.grown hgr)
    clear hgr HS7 HP7 HX7 HG7 HC7
    go_wp2_with fail
    refine (markInstrS_at _ w3.heap.size n n F 1 _ hnb (by omega) (by omega) HX8.out).mono ?_
    rintro e w12 ⟨rfl, _, hgr⟩
    have l12 := hgr.size
    have HS12 := shade (HS8.out.row hgr (fun b e => by injection e with e; omega))
    have HP12 := shade (HP8.out.row hgr (fun b e => by injection e with e; omega))
    have HG12 := shade (HG8.out.row hgr (fun b e => by injection e with e; omega))
    clear hgr HS8 HP8 HX8 HG8
    go_wp2_with fail
    refine (eqIntS_row _ _ _ _ K _ _ f _ hK HG12.out HP12.out).mono ?_
    rintro e w14 ⟨rfl, hgr⟩
    have l14 := hgr.size
    have HS14 := shade (HS12.out.grown hgr)
    have HP14 := shade (HP12.out.grown hgr)
    have HG14 := shade (HG12.out.grown hgr)
    clear hgr HS12 HP12 HG12
    go_wp2_with fail
    refine (markIntS_row _ _ K _ f 1 _ (by omega) (by omega) HG14.out).mono ?_
    rintro e w15 ⟨rfl, hm, hb⟩
    have l15 := hb.size
    have HS15 := shade (HS14.out.row hb (fun b e => by have := (HG14.out.rng e).1; omega))
    have HP15 := shade (HP14.out.row hb (fun b e => by have := (HG14.out.rng e).1; omega))
    have HG15 := shade hm
    clear hb hm HS14 HP14 HG14
    go_wp2_with fail
    refine (heldIntS_row _ _ K _ 1 _ (by omega) (by omega) HG15.out).mono ?_
    rintro e w16 ⟨rfl, rfl⟩
    go_wp2_with fail
    refine (toInstrS_any A n c F _ hnb HS15.out.code).mono ?_
    rintro e w17 ⟨rfl, hc7, hgr⟩
    have l17 := hgr.size
    have HS17 := shade (HS15.out.grown hgr)
    have HP17 := shade (HP15.out.grown hgr)
    have HG17 := shade (HG15.out.grown hgr)
    have HC17 := shade hc7.code
    clear hgr HS15 HP15 HG15 hc7
    go_wp2_with fail
    refine (HIm.out _ _ _ HS17.out.wt HC17.out).mono ?_
    rintro e w18 h5
    obtain ⟨v2, rfl, hR, hgr⟩ := NumRes.row h5
    have l18 := hgr.size
    have HS18 := shade (HS17.out.grown hgr)
    have HP18 := shade (HP17.out.grown hgr)
    have HG18 := shade (HG17.out.grown hgr)
    have HV18 := shade hR
    clear hgr HS17 HP17 HG17 HC17 hR h5
    go_wp2_with fail
    refine (eqIntS_row _ _ _ _ K _ _ f _ hK HV18.out HP18.out).mono ?_
    rintro e w19 ⟨rfl, hgr⟩
    have HS19 := shade (HS18.out.grown hgr)
    have HG19 := shade (HG18.out.grown hgr)
    clear hgr HS18 HP18 HG18 HV18
    go_wp2_with fail
    refine (heldIntS_row _ _ K _ 1 _ (by omega) (by omega) HG19.out).mono ?_
    rintro e w20 ⟨rfl, rfl⟩
    go_wp2_with fail
    go_ret
    exact ⟨rfl, below_of_grown HS19.out.base⟩

end Go.Proofs.YtbfgmmljegdbfaaDoor
