/- UsesOf answers as its model for the drawn instruction; a step writes no other register than it tells, and does not hang on others than it tells. -/
import Derived.Test.YtkljjacailgdaaaDoorW140
import Derived.Test.YtkljjacailgdaaaDoorW126
import Derived.Test.YtkljjacailgdaaaDoorG110
import Derived.IntWalk
namespace Go.Proofs.YtkljjacailgdaaaDoor
open Go.RowKit
set_option linter.unusedSimpArgs false
theorem sh_is (d : Int) (h0 : 0 ≤ d) (h1 : d ≤ 3) : sh d = 1 ∨ sh d = 2 ∨ sh d = 4 ∨ sh d = 8 := by
  rcases (show d = 0 ∨ d = 1 ∨ d = 2 ∨ d = 3 by omega) with rfl | rfl | rfl | rfl
  · exact .inl (by decide +kernel)
  · exact .inr (.inl (by decide +kernel))
  · exact .inr (.inr (.inl (by decide +kernel)))
  · exact .inr (.inr (.inr (by decide +kernel)))
theorem or_small (x y : Int) (hx : x = 1 ∨ x = 2 ∨ x = 4 ∨ x = 8) (hy : y = 1 ∨ y = 2 ∨ y = 4 ∨ y = 8) : 0 ≤ bits .or .i64 x y ∧ bits .or .i64 x y < 16 := by
  rcases hx with rfl | rfl | rfl | rfl <;> rcases hy with rfl | rfl | rfl | rfl <;> decide +kernel
theorem usesR_lt (n : Nat) (d a b : Int) (b1 : 0 ≤ d) (b1' : d ≤ 3) (b2 : 0 ≤ a) (b2' : a ≤ 3) (b3 : 0 ≤ b) (b3' : b ≤ 3) : 0 ≤ usesR n d a b ∧ usesR n d a b < 16 := by
  have hd := sh_is d b1 b1'
  have ha := sh_is a b2 b2'
  have hb := sh_is b b3 b3'
  have k1 := or_small _ _ ha hb
  have k2 := or_small _ _ hd ha
  unfold usesR
  repeat' split
  all_goals omega
/-- The other machine's registers: others where it is not told that they are read. -/
def otR (ur : Int) (j : Nat) : Int := if bitI ur j = 0 then (trR j + 77) % 256 else trR j
theorem trR_ok (j : Nat) : 0 ≤ trR j ∧ trR j ≤ 255 := by
  unfold trR
  omega
theorem otR_ok (ur : Int) (j : Nat) : 0 ≤ otR ur j ∧ otR ur j ≤ 255 := by
  have := trR_ok j
  unfold otR
  split <;> omega
theorem okL_of {n : Nat} {f : Nat → Int} (h : ∀ j, 0 ≤ f j ∧ f j ≤ 255) : okL n f = true := okL_iff.2 fun j _ => by
  have := h j
  simp [inRB]
  omega
/-- What is told of the registers is so. -/
theorem uses_math (nn an bn dn : Nat) (k : Int) (hn : nn ≤ 6) (ha : an < 4) (hb : bn < 4) (hd : dn < 4) :
    (∀ r, r < 4 → (bitI (usesW nn (dn : Int)) r = 0 → stepRegs nn dn an bn k trR trM r = trR r ∧ stepRegs nn dn an bn k (otR (usesR nn (dn : Int) (an : Int) (bn : Int))) trM r = otR (usesR nn (dn : Int) (an : Int) (bn : Int)) r) ∧
      (bitI (usesW nn (dn : Int)) r = 1 → stepRegs nn dn an bn k trR trM r = stepRegs nn dn an bn k (otR (usesR nn (dn : Int) (an : Int) (bn : Int))) trM r) ∧ (bitI (usesW nn (dn : Int)) r = 0 ∨ bitI (usesW nn (dn : Int)) r = 1)) ∧
    stepMem nn dn an k trR trM = stepMem nn dn an k (otR (usesR nn (dn : Int) (an : Int) (bn : Int))) trM := by
  have hsame : ∀ r, r < 4 → (1 ≤ nn ∧ r = an ∨ (1 ≤ nn ∧ nn ≤ 4) ∧ r = bn ∨ nn = 6 ∧ r = dn) → otR (usesR nn (dn : Int) (an : Int) (bn : Int)) r = trR r := fun r hr h => by
    have := (usesR_bits nn an bn dn r hn ha hb hd hr).2.2 h
    unfold otR
    rw [if_neg (by rw [this]; decide)]
  generalize otR (usesR nn (dn : Int) (an : Int) (bn : Int)) = g at *
  have hval : nn ≤ 5 → stepVal nn an bn k trR trM = stepVal nn an bn k g trM := fun h5 => by
    by_cases e0 : nn = 0
    · unfold stepVal
      rw [if_pos e0, if_pos e0]
    · have hA := hsame an ha (.inl ⟨by omega, rfl⟩)
      by_cases e5 : nn = 5
      · subst e5
        simp [stepVal, trM]
      · have hB := hsame bn hb (.inr (.inl ⟨⟨by omega, by omega⟩, rfl⟩))
        unfold stepVal
        rw [hA, hB]
        simp only [e0, e5, if_false]
        have e4 : ¬ (nn ≠ 1 ∧ nn ≠ 2 ∧ nn ≠ 3 ∧ nn ≠ 4) := by omega
        by_cases e1 : nn = 1
        · simp [e1]
        · by_cases e2 : nn = 2
          · simp [e2]
          · by_cases e3 : nn = 3
            · simp [e3]
            · have e4 : nn = 4 := by omega
              simp [e4]
  refine ⟨fun r hr => ?_, ?_⟩
  · rw [(usesW_bits nn dn r hd hr).2]
    unfold stepRegs
    by_cases h5 : nn ≤ 5
    · rw [if_pos h5, if_pos h5]
      by_cases hrd : r = dn
      · rw [if_pos ⟨h5, hrd⟩]
        refine ⟨fun h => absurd h (by decide), fun _ => ?_, .inr rfl⟩
        unfold upd
        rw [if_pos hrd, if_pos hrd, hval h5]
      · rw [if_neg (fun h => hrd h.2)]
        refine ⟨fun _ => ?_, fun h => absurd h (by decide), .inl rfl⟩
        unfold upd
        rw [if_neg hrd, if_neg hrd]
        exact ⟨rfl, rfl⟩
    · rw [if_neg h5, if_neg h5, if_neg (fun h => h5 h.1)]
      exact ⟨fun _ => ⟨rfl, rfl⟩, fun h => absurd h (by decide), .inl rfl⟩
  · unfold stepMem
    by_cases h6 : nn = 6
    · have hA := hsame an ha (.inl ⟨by omega, rfl⟩)
      have hD := hsame dn hd (.inr (.inr ⟨h6, rfl⟩))
      rw [if_pos h6, if_pos h6]
      unfold placeN
      rw [hA, hD]
    · rw [if_neg h6, if_neg h6]
theorem one_code (op : ByteArray) (d a b k : Int) (nn : Nat) (hv : vB op.toList d a b k = true) (hw : wordN op.toList = nn) (hn : nn ≤ 6) (f1 f2 : Nat → Int) (h1 : okL 4 f1 = true) (h2 : okL 8 f2 = true) : stepB 1 (fun _ => (⟨op, d, a, b, k⟩ : Ins)) 0 4 8 f1 f2 = true := by
  have hj : jmpB op.toList = false := by
    unfold jmpB
    rw [← word7, Bool.or_eq_false_iff]
    refine ⟨by rw [hw, beq_eq_false_iff_ne]; omega, ?_⟩
    rw [Bool.eq_false_iff]
    intro h
    rw [beq_iff_eq] at h
    have := wordN_at8
    rw [← h] at this
    omega
  have hok : okI 1 (⟨op, d, a, b, k⟩ : Ins) = true := by
    unfold okI
    rw [hv, hj]
    rfl
  unfold stepB
  rw [vcB_all (fun _ _ => hok), vmB_in (by omega) (by omega), h1, h2]
  have hh : haltB 1 (fun _ => (⟨op, d, a, b, k⟩ : Ins)) (0 : Int).toNat = false := by
    unfold haltB
    rw [Bool.or_eq_false_iff]
    refine ⟨by decide, ?_⟩
    rw [Bool.eq_false_iff]
    intro h
    have := (hlt_word op.toList).1 h
    omega
  rw [hh]
  rfl
theorem st_one (op : ByteArray) (dn an bn : Nat) (k : Int) (nn : Nat) (hw : wordN op.toList = nn) (f1 f2 : Nat → Int) :
    stRegs (fun _ => (⟨op, dn, an, bn, k⟩ : Ins)) 0 f1 f2 = stepRegs nn dn an bn k f1 f2 ∧ stMem (fun _ => (⟨op, dn, an, bn, k⟩ : Ins)) 0 f1 f2 = stepMem nn dn an k f1 f2 := by
  unfold stRegs stMem nOf rdOf raOf rbOf kOf
  simp only [hw, Int.toNat_natCast]
  exact ⟨trivial, trivial⟩
theorem code_one {W : World} {t : TypeId} (op : ByteArray) (d a b k : Int) : Code (W.alloc (.cells #[.string op, .int .i64 d, .int .i64 a, .int .i64 b, .int .i64 k] t)) (some ⟨W.heap.size, 0, none⟩) 1 (fun _ => ⟨op, d, a, b, k⟩) := by
  refine .inr ⟨W.heap.size, 0, rfl, by rw [World.size_alloc]; omega, fun j i hj hi => ?_⟩
  obtain rfl : j = 0 := by omega
  have h := (Holds5.fresh W t #[.string op, .int .i64 d, .int .i64 a, .int .i64 b, .int .i64 k]).look i
  rw [show 0 + 0 * 5 + i = i by omega, h, part5 _ _ hi]
  match i, hi with
  | 0, _ => rfl
  | 1, _ => rfl
  | 2, _ => rfl
  | 3, _ => rfl
  | 4, _ => rfl
/-- What stands while the other machine is changed. -/
structure UO (w0 wr : World) (bc bm bo B : Nat) (op : ByteArray) (d a b k : Int) (g1 c1 g2 c2 h1 e1 h2 e2 : Nat) (f : Nat → Int) : Prop where
  low : w0.grownBy wr none
  ins : Holds5 wr bc 24 #[.string op, .int .i64 d, .int .i64 a, .int .i64 b, .int .i64 k]
  mac : BoxM wr bm 0 (some ⟨g1, 0, none⟩) 4 c1 (some ⟨g2, 0, none⟩) 8 c2 trR trM
  oth : Holds5 wr bo 31 #[.int .i64 0, .slice (some ⟨h1, 0, none⟩) 4 e1, .slice (some ⟨h2, 0, none⟩) 8 e2]
  o1 : Own wr B (some ⟨h1, 0, none⟩) 4 e1 f
  n2 : Nums wr (some ⟨h2, 0, none⟩) 8 trM
  sep : bc < B ∧ bm < B ∧ g1 < B ∧ g2 < B ∧ h1 ≠ h2 ∧ bo ≠ h1 ∧ w0.heap.size ≤ B
section
variable {w0 wr w2 : World} {bc bm bo B : Nat} {op : ByteArray} {d a b k : Int} {g1 c1 g2 c2 h1 e1 h2 e2 : Nat} {f f3 : Nat → Int}
theorem UO.on (h : UO w0 wr bc bm bo B op d a b k g1 c1 g2 c2 h1 e1 h2 e2 f) (hg : wr.grownBy w2 none) : UO w0 w2 bc bm bo B op d a b k g1 c1 g2 c2 h1 e1 h2 e2 f :=
  ⟨grown_same h.low hg, h.ins.grown hg (by intro e; cases e), h.mac.on hg, h.oth.grown hg (by intro e; cases e), h.o1.on hg, h.n2.on hg, h.sep⟩
theorem UO.set (h : UO w0 wr bc bm bo B op d a b k g1 c1 g2 c2 h1 e1 h2 e2 f) (r : Nat) (x : Int) (hx : f3 r = x) (hf : ∀ j, j < 4 → j ≠ r → f j = f3 j) : UO w0 (wr.setCell ⟨h1, r, none⟩ (.int .i64 x)) bc bm bo B op d a b k g1 c1 g2 c2 h1 e1 h2 e2 f3 := by
  have ho := (World.ownsRow.stored h.o1 r (.int .i64 x)).1
  rw [numL_set 4 f f3 r x hx hf] at ho
  have l1 := h.o1.lt
  have hs := h.sep
  have hg : wr.grownBy (wr.setCell ⟨h1, r, none⟩ (.int .i64 x)) (some h1) := grown_set h1 r _
  exact ⟨grown_then h.low hg (by omega), h.ins.other (p := ⟨h1, r, none⟩) (by show bc ≠ h1; omega) _,
    ⟨h.mac.box.other (p := ⟨h1, r, none⟩) (by show bm ≠ h1; omega) _, h.mac.n1.grown hg (by intro b off e e'; injection e with e; injection e with e; injection e' with e'; omega), h.mac.n2.grown hg (by intro b off e e'; injection e with e; injection e with e; injection e' with e'; omega)⟩,
    h.oth.other (p := ⟨h1, r, none⟩) (by show bo ≠ h1; omega) _, ho, h.n2.grown hg (by intro b off e e'; injection e with e; injection e with e; injection e' with e'; omega), hs⟩
end


theorem jmp_word8 (l : List UInt8) : (l == [106, 109, 112]) = true ↔ wordN l = 8 := by
  refine word_iff l 8 _ (by omega) wordN_at8 (fun h => ?_)
  rcases word_is l 8 (by omega) h with h | h | h | h | h | h | h | h | h | h
  all_goals first
    | exact absurd h.1 (by omega)
    | exact h.2
set_option maxRecDepth 100000 in
set_option maxHeartbeats 16000000 in
theorem fnUsesOf_walk (A : Option Addr) (n cap : Nat) (zs : List Int) (w : World) (hg : WT w) (hB : Bys w A n cap zs) :
    Calls Tryd.prog 3 #[.slice A n cap] w fun e w' => e = .returned (.bool true) ∧ Below w.heap.size w w' := by
  have HG := shade hg
  have HBy := shade hB
  have hcap := hB.fits
  have hbig := hB.big
  unfold maxLen at hbig
  clear hg hB
  by_cases hl : 1048576 < n
  · go_enter Tryd.func3, Tryd.ntmps3
    go_wp2_with fail
    go_ret
    exact ⟨rfl, rfl, rfl, rfl, Nat.le_refl _, fun _ _ => rfl⟩
  · go_enter Tryd.func3, Tryd.ntmps3
    go_wp2_with fail
    refine (DrawUsesOf_any A n cap zs _ (HBy.out.alloc _)).mono ?_
    rintro e w1 ⟨op, d, a, b, k, rfl, hb1⟩
    have hga := World.grownBy_alloc w1 (.cells #[.string op, .int .i64 d, .int .i64 a, .int .i64 b, .int .i64 k] 24) none
    have hgt := grown_same (grown_of_below hb1) hga
    have i1 : Holds5 (w1.alloc (.cells #[.string op, .int .i64 d, .int .i64 a, .int .i64 b, .int .i64 k] 24)) w1.heap.size 24 #[.string op, .int .i64 d, .int .i64 a, .int .i64 b, .int .i64 k] := Holds5.fresh _ _ _
    have k1 := HG.out.below (below_of_grown hgt) (wt_lt HG.out)
    have zb := hb1.size
    clear hga hb1
    go_upto_region 4 with (fail)
    obtain ⟨W1, hW⟩ : ∃ W1, w1.alloc (.cells #[.string op, .int .i64 d, .int .i64 a, .int .i64 b, .int .i64 k] 24) = W1 := ⟨_, rfl⟩
    obtain ⟨bc, hbc⟩ : ∃ bc, w1.heap.size = bc := ⟨_, rfl⟩
    rw [hbc] at i1 zb ⊢
    rw [hW] at i1 k1 hgt ⊢
    have I1 := shade i1; have K1 := shade k1; have L1 := shade hgt
    clear k1 hgt hW hbc HBy
    have x0 := i1.look 0; have x1 := i1.look 1; have x2 := i1.look 2; have x3 := i1.look 3; have x4 := i1.look 4
    simp at x0 x1 x2 x3 x4
    clear i1
    rcases hv : vB op.toList d a b k with _ | _
    · have HV := shade hv
      clear hv
      go_wp2_with fail
      refine (UsesOf_no op d a b k _ K1.out HV.out).mono ?_
      rintro e w2 ⟨rfl, hb2⟩
      have hgr := grown_of_below hb2
      have i2 := I1.out.grown hgr (by intro e; cases e)
      have K2 := shade (K1.out.below hb2 (wt_lt K1.out)); have L2 := shade (grown_same L1.out hgr)
      clear hb2 hgr I1 K1 L1 x0 x1 x2 x3 x4
      have x0 := i2.look 0; have x1 := i2.look 1; have x2 := i2.look 2; have x3 := i2.look 3; have x4 := i2.look 4
      simp at x0 x1 x2 x3 x4
      have I2 := shade i2
      clear i2
      go_wp2_with fail
      refine (SpecUsesOf_no op d a b k HV.out _).mono ?_
      rintro e w3 ⟨rfl, hb2⟩
      have hgr := grown_of_below hb2
      have i2 := I2.out.grown hgr (by intro e; cases e)
      have K3 := shade (K2.out.below hb2 (wt_lt K2.out)); have L3 := shade (grown_same L2.out hgr)
      clear hb2 hgr I2 K2 L2 x0 x1 x2 x3 x4
      have x0 := i2.look 0; have x1 := i2.look 1; have x2 := i2.look 2; have x3 := i2.look 3; have x4 := i2.look 4
      simp at x0 x1 x2 x3 x4
      clear i2
      go_wp2_with fail
      refine (ValidInstr_any _ _ _ _ _ _ K3.out).mono ?_
      rw [HV.out]
      rintro e w4 ⟨rfl, hb2⟩
      have L4 := shade (grown_same L3.out (grown_of_below hb2))
      clear hb2
      go_wp2_with fail
      go_ret
      exact ⟨rfl, below_of_grown L4.out⟩
    · obtain ⟨⟨n0, n1⟩, ⟨b1, b1'⟩, ⟨b2, b2'⟩, ⟨b3, b3'⟩, ⟨k0, k1⟩⟩ := VI_bounds (vB_true.1 hv)
      obtain ⟨nn, hnn⟩ := Int.eq_ofNat_of_zero_le n0
      obtain ⟨dn, rfl⟩ := Int.eq_ofNat_of_zero_le b1
      obtain ⟨an, rfl⟩ := Int.eq_ofNat_of_zero_le b2
      obtain ⟨bn, rfl⟩ := Int.eq_ofNat_of_zero_le b3
      have h9 : (op.toList == [104, 108, 116]) = decide (nn = 9) := by
        rw [Bool.eq_iff_iff, hlt_word, decide_eq_true_eq]
        omega
      have h7 : (op.toList == [98, 122]) = decide (nn = 7) := by
        rw [Bool.eq_iff_iff, bz_word, decide_eq_true_eq]
        omega
      have h8 : (op.toList == [106, 109, 112]) = decide (nn = 8) := by
        rw [Bool.eq_iff_iff, jmp_word8, decide_eq_true_eq]
        omega
      have HU := shade (fun W hW => UsesOf_yes op dn an bn k W hW hv nn (by omega) hnn)
      have HSU := shade (fun W => SpecUsesOf_yes op dn an bn k hv nn (by omega) hnn W)
      have hur := usesR_lt nn (dn : Int) (an : Int) (bn : Int) (by omega) (by omega) (by omega) (by omega) (by omega) (by omega)
      have hn9 : nn ≤ 9 := by omega
      have HV := shade hv; have HNN := shade hnn
      obtain ⟨ur, hue⟩ : ∃ ur, usesR nn (dn : Int) (an : Int) (bn : Int) = ur := ⟨_, rfl⟩
      obtain ⟨uw, huw⟩ : ∃ uw, usesW nn (dn : Int) = uw := ⟨_, rfl⟩
      rw [hue, huw] at HU HSU
      rw [hue] at hur
      obtain ⟨u0, u1⟩ := hur
      have HUE := shade hue; have HUW := shade huw; have H7 := shade h7; have H8 := shade h8; have H9 := shade h9
      clear hv hnn hue huw h7 h8 h9 n0 n1 b1 b2 b3
      go_wp2_with fail
      refine (HU.out _ K1.out).mono ?_
      rintro e w2 ⟨rfl, hb2⟩
      have hgr := grown_of_below hb2
      have i2 := I1.out.grown hgr (by intro e; cases e)
      have K2 := shade (K1.out.below hb2 (wt_lt K1.out)); have L2 := shade (grown_same L1.out hgr)
      clear hb2 hgr I1 K1 L1 x0 x1 x2 x3 x4 HU
      have x0 := i2.look 0; have x1 := i2.look 1; have x2 := i2.look 2; have x3 := i2.look 3; have x4 := i2.look 4
      simp at x0 x1 x2 x3 x4
      have I2 := shade i2
      clear i2
      go_wp2_with fail
      refine (HSU.out _).mono ?_
      rintro e w3 ⟨rfl, hb2⟩
      have hgr := grown_of_below hb2
      have i2 := I2.out.grown hgr (by intro e; cases e)
      have K3 := shade (K2.out.below hb2 (wt_lt K2.out)); have L3 := shade (grown_same L2.out hgr)
      clear hb2 hgr I2 K2 L2 x0 x1 x2 x3 x4 HSU
      have x0 := i2.look 0; have x1 := i2.look 1; have x2 := i2.look 2; have x3 := i2.look 3; have x4 := i2.look 4
      simp at x0 x1 x2 x3 x4
      have I3 := shade i2
      clear i2
      by_cases h6 : nn ≤ 6
      · have h9 := H9.out; have h7 := H7.out; have h8 := H8.out
        rw [show decide (nn = 9) = false from decide_eq_false (by omega)] at h9
        rw [show decide (nn = 7) = false from decide_eq_false (by omega)] at h7
        rw [show decide (nn = 8) = false from decide_eq_false (by omega)] at h8
        clear H7 H8 H9
        have hun : decide (ur < 0) = false := decide_eq_false (by omega)
        go_wp2_with fail
        clear h7 h8 h9
        refine (trial_any _).mono ?_
        rintro e w4 ⟨g1, c1, g2, c2, rfl, hne, ho1, ho2, hgr⟩
        have hga := World.grownBy_alloc w4 (.cells #[.int .i64 0, .slice (some ⟨g1, 0, none⟩) 4 c1, .slice (some ⟨g2, 0, none⟩) 8 c2] 31) none
        have hgt := grown_same hgr hga
        have m4 : BoxM (w4.alloc (.cells #[.int .i64 0, .slice (some ⟨g1, 0, none⟩) 4 c1, .slice (some ⟨g2, 0, none⟩) 8 c2] 31)) w4.heap.size 0 (some ⟨g1, 0, none⟩) 4 c1 (some ⟨g2, 0, none⟩) 8 c2 trR trM := ⟨Holds5.fresh _ _ _, ho1.nums.alloc _, ho2.nums.alloc _⟩
        have i4 := I3.out.grown hgt (by intro e; cases e)
        have L4 := grown_same L3.out hgt
        have z1 := ho1.lt
        have z2 := ho2.lt
        have z3 : (w4.alloc (.cells #[.int .i64 0, .slice (some ⟨g1, 0, none⟩) 4 c1, .slice (some ⟨g2, 0, none⟩) 8 c2] 31)).heap.size = w4.heap.size + 1 := World.size_alloc _ _
        clear hga hgt hgr ho1 ho2 x0 x1 x2 x3 x4 I3 L3 K3
        go_upto_region 9 with (fail)
        obtain ⟨W4, hW⟩ : ∃ W4, w4.alloc (.cells #[.int .i64 0, .slice (some ⟨g1, 0, none⟩) 4 c1, .slice (some ⟨g2, 0, none⟩) 8 c2] 31) = W4 := ⟨_, rfl⟩
        obtain ⟨bm, hbm⟩ : ∃ bm, w4.heap.size = bm := ⟨_, rfl⟩
        rw [hbm] at m4 z1 z2 z3 ⊢
        rw [hW] at m4 i4 L4 z3 ⊢
        have M4 := shade m4; have I4 := shade i4; have HL4 := shade L4; have Z := shade (And.intro z1 (And.intro z2 z3))
        clear m4 i4 L4 hW hbm z1 z2 z3
        go_wp2_with fail
        refine (trial_any _).mono ?_
        rintro e w5 ⟨h1, e1, h2, e2, rfl, hne2, hp1, hp2, hgr⟩
        have hga := World.grownBy_alloc w5 (.cells #[.int .i64 0, .slice (some ⟨h1, 0, none⟩) 4 e1, .slice (some ⟨h2, 0, none⟩) 8 e2] 31) none
        have hgt := grown_same hgr hga
        have y1 := hp1.lt
        have y2 := hp2.lt
        have hzz := Z.out
        have u5 : UO w (w5.alloc (.cells #[.int .i64 0, .slice (some ⟨h1, 0, none⟩) 4 e1, .slice (some ⟨h2, 0, none⟩) 8 e2] 31)) bc bm w5.heap.size W4.heap.size op dn an bn k g1 c1 g2 c2 h1 e1 h2 e2 trR :=
          ⟨grown_same HL4.out hgt, I4.out.grown hgt (by intro e; cases e), M4.out.on hgt, Holds5.fresh _ _ _, hp1.on hga, hp2.nums.alloc _, I4.out.inside, M4.out.box.inside, by omega, by omega, hne2, by omega, HL4.out.size⟩
        clear hga hgt hgr hp1 hp2 y1 y2 hzz Z M4 I4 HL4 hne2 hne
        go_upto_region 10 with (fail)
        obtain ⟨W5, hW⟩ : ∃ W5, w5.alloc (.cells #[.int .i64 0, .slice (some ⟨h1, 0, none⟩) 4 e1, .slice (some ⟨h2, 0, none⟩) 8 e2] 31) = W5 := ⟨_, rfl⟩
        obtain ⟨bo, hbo⟩ : ∃ bo, w5.heap.size = bo := ⟨_, rfl⟩
        obtain ⟨B, hBB⟩ : ∃ B, W4.heap.size = B := ⟨_, rfl⟩
        rw [hbo, hBB] at u5
        rw [hbo]
        rw [hW] at u5 ⊢
        have U5 := shade u5
        clear u5 hW hbo hBB
        go_wp2_with fail
        go_loopw [10] (fun q wr => ∃ r : Nat, r ≤ 4 ∧ q = .int .i64 r ∧ UO w wr bc bm bo B op dn an bn k g1 c1 g2 c2 h1 e1 h2 e2 (fun j => if j < r then otR ur j else trR j)) (fun q _ => 4 - (intOf q).toNat)
        case atStart => exact ⟨0, Nat.zero_le _, rfl, U5.out⟩
        case round =>
          clear U5
          obtain ⟨r, hr, rfl, hs⟩ := hrel
          have HS := shade hs
          by_cases hr4 : r < 4
          · have hub := (usesR_bits nn an bn dn r h6 (by omega) (by omega) (by omega) hr4).2.1
            rw [HUE.out] at hub
            have HBT := shade (lawBit_any ur r hr4 u0 u1 wr)
            have r4 : (r : Int) < 4 := by omega
            have r0 : (0 : Int) ≤ (r : Int) := by omega
            rcases hub with hb | hb
            · rw [hb] at HBT
              have y1 := hs.oth.look 1
              have z0 := hs.o1.nums.cell hr4
              have t0 := World.ownsRow.frozenAt hs.o1 r
              simp only [if_neg (Nat.lt_irrefl r)] at z0
              simp at y1 z0
              have hset := hs.set (f3 := fun j => if j < r + 1 then otR ur j else trR j) r ((trR r + 77) % 256) (by simp [otR, hb]) (fun j _ hne => by
                by_cases h : j < r
                · rw [if_pos h, if_pos (by omega)]
                · rw [if_neg h, if_neg (by omega)])
              have hsetd := (hs.on (grown_drew1 wr)).set (f3 := fun j => if j < r + 1 then otR ur j else trR j) r ((trR r + 77) % 256) (by simp [otR, hb]) (fun j _ hne => by
                by_cases h : j < r
                · rw [if_pos h, if_pos (by omega)]
                · rw [if_neg h, if_neg (by omega)])
              have HX := shade hset
              have HXD := shade hsetd
              have hx := trR_ok r
              obtain ⟨x, hxe⟩ : ∃ x, trR r = x := ⟨_, rfl⟩
              rw [hxe] at z0 HX HXD hx
              obtain ⟨hx0, hx1⟩ := hx
              clear hs hset hsetd hb hxe
              go_wp2_with fail
              refine HBT.out.mono ?_
              rintro e w' ⟨rfl, rfl⟩
              clear HBT
              have xw : IntKind.i64.wrap (x + 77) = x + 77 := IntWalk.i64_in _ (by omega)
              have xt : (x + 77).tmod 256 = (x + 77) % 256 := Int.tmod_eq_emod_of_nonneg (by omega)
              have x77 : 0 ≤ x + 77 := by omega
              go_upto_region 14 with (fail)
              have hsw : wr.drew.cell? ⟨bo, 1, none⟩ = some (.slice (some ⟨h1, 0, none⟩) 4 e1) ∧ wr.drew.cell? ⟨h1, r, none⟩ = some (.int .i64 x) := ⟨y1, z0⟩
              have t0' : wr.drew.frozen? ⟨h1, r, none⟩ = false := t0
              have z0' : wr.drew.cell? ⟨h1, r, none⟩ = some (.int .i64 x) := z0
              have HXd : Hid (UO w (wr.drew.setCell ⟨h1, r, none⟩ (.int .i64 ((x + 77) % 256))) bc bm bo B op dn an bn k g1 c1 g2 c2 h1 e1 h2 e2 (fun j => if j < r + 1 then otR ur j else trR j)) := HXD
              clear HX y1 z0 t0
              refine wp_region_G (by kernel_rfl) (fun w' => w'.cell? ⟨bo, 1, none⟩ = some (.slice (some ⟨h1, 0, none⟩) 4 e1) ∧ w'.cell? ⟨h1, r, none⟩ = some (.int .i64 x)) 11 12 [false, false, false, false, false, false, false, false, false, false, false, false] rfl rfl ?_
              obtain ⟨V0, hV⟩ : ∃ V0, wr.drew = V0 := ⟨_, rfl⟩
              rw [hV] at hsw t0' z0' HXd ⊢
              have HSW := shade hsw
              clear hV hsw
              refine WG.take (i := 0) (v := ?_) rfl (by kernel_rfl) (by kernel_rfl) (by kernel_rfl) (by kernel_rfl) (by kernel_rfl) (by kernel_rfl) (fun _ _ _ h => h) (Or.inl ⟨by rfl, ?_⟩) HSW.out ?_
              rotate_left
              · intro w' hSw
                try dsimp only at hSw
                go_simp
                try with_reducible rfl
              (try simp only [Act.put, List.setIfInBounds_toArray, List.set_cons_zero, List.set_cons_succ])
              refine WG.take (i := 1) (v := ?_) rfl (by kernel_rfl) (by kernel_rfl) (by kernel_rfl) (by kernel_rfl) (by kernel_rfl) (by kernel_rfl) (fun _ _ _ h => h) (Or.inl ⟨by rfl, ?_⟩) HSW.out ?_
              rotate_left
              · intro w' hSw
                try dsimp only at hSw
                go_simp
                try with_reducible rfl
              (try simp only [Act.put, List.setIfInBounds_toArray, List.set_cons_zero, List.set_cons_succ])
              refine WG.take (i := 2) (v := ?_) rfl (by kernel_rfl) (by kernel_rfl) (by kernel_rfl) (by kernel_rfl) (by kernel_rfl) (by kernel_rfl) (fun _ _ _ h => h) (Or.inl ⟨by rfl, ?_⟩) HSW.out ?_
              rotate_left
              · intro w' hSw
                try dsimp only at hSw
                go_simp
                try with_reducible rfl
              (try simp only [Act.put, List.setIfInBounds_toArray, List.set_cons_zero, List.set_cons_succ])
              refine WG.take (i := 3) (v := ?_) rfl (by kernel_rfl) (by kernel_rfl) (by kernel_rfl) (by kernel_rfl) (by kernel_rfl) (by kernel_rfl) (fun _ _ _ h => h) (Or.inl ⟨by rfl, ?_⟩) HSW.out ?_
              rotate_left
              · intro w' hSw
                try dsimp only at hSw
                go_simp
                try with_reducible rfl
              (try simp only [Act.put, List.setIfInBounds_toArray, List.set_cons_zero, List.set_cons_succ])
              refine WG.take (i := 4) (v := ?_) rfl (by kernel_rfl) (by kernel_rfl) (by kernel_rfl) (by kernel_rfl) (by kernel_rfl) (by kernel_rfl) (fun _ _ _ h => h) (Or.inl ⟨by rfl, ?_⟩) HSW.out ?_
              rotate_left
              · intro w' hSw
                try dsimp only at hSw
                go_simp
                try with_reducible rfl
              (try simp only [Act.put, List.setIfInBounds_toArray, List.set_cons_zero, List.set_cons_succ])
              refine WG.take (i := 5) (v := ?_) rfl (by kernel_rfl) (by kernel_rfl) (by kernel_rfl) (by kernel_rfl) (by kernel_rfl) (by kernel_rfl) (fun _ _ _ h => h) (Or.inl ⟨by rfl, ?_⟩) HSW.out ?_
              rotate_left
              · intro w' hSw
                try dsimp only at hSw
                go_simp
                try with_reducible rfl
              (try simp only [Act.put, List.setIfInBounds_toArray, List.set_cons_zero, List.set_cons_succ])
              refine WG.take (i := 6) (v := ?_) rfl (by kernel_rfl) (by kernel_rfl) (by kernel_rfl) (by kernel_rfl) (by kernel_rfl) (by kernel_rfl) (fun _ _ _ h => h) (Or.inl ⟨by rfl, ?_⟩) HSW.out ?_
              rotate_left
              · intro w' hSw
                try dsimp only at hSw
                go_simp
                try with_reducible rfl
              (try simp only [Act.put, List.setIfInBounds_toArray, List.set_cons_zero, List.set_cons_succ])
              refine WG.take (i := 7) (v := ?_) rfl (by kernel_rfl) (by kernel_rfl) (by kernel_rfl) (by kernel_rfl) (by kernel_rfl) (by kernel_rfl) (fun _ _ _ h => h) (Or.inl ⟨by rfl, ?_⟩) HSW.out ?_
              rotate_left
              · intro w' hSw
                try dsimp only at hSw
                go_simp
                try with_reducible rfl
              (try simp only [Act.put, List.setIfInBounds_toArray, List.set_cons_zero, List.set_cons_succ])
              refine WG.take (i := 8) (v := ?_) rfl (by kernel_rfl) (by kernel_rfl) (by kernel_rfl) (by kernel_rfl) (by kernel_rfl) (by kernel_rfl) (fun _ _ _ h => h) (Or.inl ⟨by rfl, ?_⟩) HSW.out ?_
              rotate_left
              · intro w' hSw
                try dsimp only at hSw
                go_simp
                try with_reducible rfl
              (try simp only [Act.put, List.setIfInBounds_toArray, List.set_cons_zero, List.set_cons_succ])
              refine WG.take (i := 9) (v := ?_) rfl (by kernel_rfl) (by kernel_rfl) (by kernel_rfl) (by kernel_rfl) (by kernel_rfl) (by kernel_rfl) (fun _ _ _ h => h) (Or.inl ⟨by rfl, ?_⟩) HSW.out ?_
              rotate_left
              · intro w' hSw
                try dsimp only at hSw
                go_simp
                try with_reducible rfl
              (try simp only [Act.put, List.setIfInBounds_toArray, List.set_cons_zero, List.set_cons_succ])
              refine WG.take (i := 10) (v := ?_) rfl (by kernel_rfl) (by kernel_rfl) (by kernel_rfl) (by kernel_rfl) (by kernel_rfl) (by kernel_rfl) (fun _ _ _ h => h) (Or.inl ⟨by rfl, ?_⟩) HSW.out ?_
              rotate_left
              · intro w' hSw
                try dsimp only at hSw
                go_simp
                try with_reducible rfl
              (try simp only [Act.put, List.setIfInBounds_toArray, List.set_cons_zero, List.set_cons_succ])
              refine WG.last (by kernel_rfl) (by kernel_rfl) ?_
              refine wpOp_lay (by rfl) (fun K hK => ?_)
              go_simp
              refine hK.out _ _ ?_
              clear hK K z0' t0' xw xt
              go_wp2
              go_roundw
              case rel => exact ⟨r + 1, by omega, by go_num, HXd.out⟩
              case measure => simp [intOf]; omega
            · rw [hb] at HBT
              have hset : UO w wr bc bm bo B op dn an bn k g1 c1 g2 c2 h1 e1 h2 e2 (fun j => if j < r + 1 then otR ur j else trR j) := ⟨hs.low, hs.ins, hs.mac, hs.oth, hs.o1.congr (fun j hj => by
                by_cases h : j < r
                · rw [if_pos h, if_pos (by omega)]
                · rw [if_neg h]
                  by_cases h2 : j = r
                  · rw [h2, if_pos (by omega)]
                    unfold otR
                    rw [if_neg (by rw [hb]; decide)]
                  · rw [if_neg (by omega)]), hs.n2, hs.sep⟩
              have HX := shade hset
              clear hs hset hb
              go_wp2_with fail
              refine HBT.out.mono ?_
              rintro e w' ⟨rfl, rfl⟩
              clear HBT
              go_wp2
              go_roundw
              case rel => exact ⟨r + 1, by omega, by go_num, HX.out⟩
              case measure => simp [intOf]; omega
          · have hr2 : r = 4 := by omega
            subst hr2
            have hfull : UO w wr bc bm bo B op dn an bn k g1 c1 g2 c2 h1 e1 h2 e2 (otR ur) := ⟨hs.low, hs.ins, hs.mac, hs.oth, hs.o1.congr (fun j hj => if_pos hj), hs.n2, hs.sep⟩
            have HF := shade hfull
            clear hs hfull HS
            have hst := one_code op dn an bn k nn HV.out HNN.out h6 trR trM (okL_of trR_ok) (okL_of (fun _ => by unfold trM; omega))
            have HST := shade hst
            have i6 := HF.out.ins
            have hwt : WT wr := HG.out.below (below_of_grown HF.out.low) (wt_lt HG.out)
            have HWT := shade hwt
            have hal := HF.out.on (World.grownBy_alloc wr (.cells #[.string op, .int .i64 dn, .int .i64 an, .int .i64 bn, .int .i64 k] 24) none)
            have y0 := hal.mac.box.look 0; have y1 := hal.mac.box.look 1; have y2 := hal.mac.box.look 2
            simp at y0 y1 y2
            have x0 := i6.look 0; have x1 := i6.look 1; have x2 := i6.look 2; have x3 := i6.look 3; have x4 := i6.look 4
            simp at x0 x1 x2 x3 x4
            clear i6 hst hwt hal
            go_wp2_with fail
            refine (StepMachine_yes _ 1 1 (fun _ => ⟨op, dn, an, bn, k⟩) 0 (some ⟨g1, 0, none⟩) 4 c1 (some ⟨g2, 0, none⟩) 8 c2 trR trM _ (HWT.out.below (below_of_grown (World.grownBy_alloc _ _ none)) (wt_lt HWT.out)) (by omega) (code_one op dn an bn k) (HF.out.mac.n1.alloc _) (HF.out.mac.n2.alloc _) HST.out).mono ?_
            rintro e w6 ⟨p1, q1, s1, t1, rfl, hne, ho1, ho2, hgr⟩
            obtain ⟨at1, ha1⟩ : ∃ at1, stAt (fun _ => (⟨op, dn, an, bn, k⟩ : Ins)) 0 trR = at1 := ⟨_, rfl⟩
            rw [ha1]
            have hga := World.grownBy_alloc w6 (.cells #[.int .i64 at1, .slice (some ⟨p1, 0, none⟩) 4 q1, .slice (some ⟨s1, 0, none⟩) 8 t1] 31) none
            have hgt := grown_same (grown_same (World.grownBy_alloc wr _ none) hgr) hga
            have u6 := HF.out.on hgt
            have x6 : BoxM (w6.alloc (.cells #[.int .i64 at1, .slice (some ⟨p1, 0, none⟩) 4 q1, .slice (some ⟨s1, 0, none⟩) 8 t1] 31)) w6.heap.size at1 (some ⟨p1, 0, none⟩) 4 q1 (some ⟨s1, 0, none⟩) 8 t1 (stRegs (fun _ => (⟨op, dn, an, bn, k⟩ : Ins)) 0 trR trM) (stMem (fun _ => (⟨op, dn, an, bn, k⟩ : Ins)) 0 trR trM) := ⟨Holds5.fresh _ _ _, ho1.nums.alloc _, ho2.nums.alloc _⟩
            clear hga hgt hgr ho1 ho2 hne ha1 y0 y1 y2 x0 x1 x2 x3 x4 HF HST HWT
            go_upto_region 16 with (fail)
            obtain ⟨W6, hW⟩ : ∃ W6, w6.alloc (.cells #[.int .i64 at1, .slice (some ⟨p1, 0, none⟩) 4 q1, .slice (some ⟨s1, 0, none⟩) 8 t1] 31) = W6 := ⟨_, rfl⟩
            obtain ⟨bx, hbx⟩ : ∃ bx, w6.heap.size = bx := ⟨_, rfl⟩
            rw [hbx] at x6 ⊢
            rw [hW] at u6 x6 ⊢
            have U6 := shade u6; have X6 := shade x6
            clear u6 x6 hW hbx
            have hst := one_code op dn an bn k nn HV.out HNN.out h6 (otR ur) trM (okL_of (otR_ok ur)) (okL_of (fun _ => by unfold trM; omega))
            have HST := shade hst
            have i6 := U6.out.ins
            have hwt : WT W6 := HG.out.below (below_of_grown U6.out.low) (wt_lt HG.out)
            have HWT := shade hwt
            have hal := U6.out.on (World.grownBy_alloc W6 (.cells #[.string op, .int .i64 dn, .int .i64 an, .int .i64 bn, .int .i64 k] 24) none)
            have y0 := hal.oth.look 0; have y1 := hal.oth.look 1; have y2 := hal.oth.look 2
            simp at y0 y1 y2
            have x0 := i6.look 0; have x1 := i6.look 1; have x2 := i6.look 2; have x3 := i6.look 3; have x4 := i6.look 4
            simp at x0 x1 x2 x3 x4
            clear i6 hst hwt hal
            go_wp2_with fail
            refine (StepMachine_yes _ 1 1 (fun _ => ⟨op, dn, an, bn, k⟩) 0 (some ⟨h1, 0, none⟩) 4 e1 (some ⟨h2, 0, none⟩) 8 e2 (otR ur) trM _ (HWT.out.below (below_of_grown (World.grownBy_alloc _ _ none)) (wt_lt HWT.out)) (by omega) (code_one op dn an bn k) (U6.out.o1.nums.alloc _) (U6.out.n2.alloc _) HST.out).mono ?_
            rintro e w7 ⟨p2, q2, s2, t2, rfl, hne, ho1, ho2, hgr⟩
            obtain ⟨at2, ha2⟩ : ∃ at2, stAt (fun _ => (⟨op, dn, an, bn, k⟩ : Ins)) 0 (otR ur) = at2 := ⟨_, rfl⟩
            rw [ha2]
            have hga := World.grownBy_alloc w7 (.cells #[.int .i64 at2, .slice (some ⟨p2, 0, none⟩) 4 q2, .slice (some ⟨s2, 0, none⟩) 8 t2] 31) none
            have hgt := grown_same (grown_same (World.grownBy_alloc W6 _ none) hgr) hga
            have u7 := U6.out.on hgt
            have x7 := X6.out.on hgt
            have y7 : BoxM (w7.alloc (.cells #[.int .i64 at2, .slice (some ⟨p2, 0, none⟩) 4 q2, .slice (some ⟨s2, 0, none⟩) 8 t2] 31)) w7.heap.size at2 (some ⟨p2, 0, none⟩) 4 q2 (some ⟨s2, 0, none⟩) 8 t2 (stRegs (fun _ => (⟨op, dn, an, bn, k⟩ : Ins)) 0 (otR ur) trM) (stMem (fun _ => (⟨op, dn, an, bn, k⟩ : Ins)) 0 (otR ur) trM) := ⟨Holds5.fresh _ _ _, ho1.nums.alloc _, ho2.nums.alloc _⟩
            clear hga hgt hgr ho1 ho2 hne ha2 y0 y1 y2 x0 x1 x2 x3 x4 U6 X6 HST HWT
            go_upto_region 17 with (fail)
            obtain ⟨W7, hW⟩ : ∃ W7, w7.alloc (.cells #[.int .i64 at2, .slice (some ⟨p2, 0, none⟩) 4 q2, .slice (some ⟨s2, 0, none⟩) 8 t2] 31) = W7 := ⟨_, rfl⟩
            obtain ⟨by', hby⟩ : ∃ by', w7.heap.size = by' := ⟨_, rfl⟩
            rw [hby] at y7 ⊢
            rw [hW] at u7 x7 y7 ⊢
            obtain ⟨hma, hmm⟩ := uses_math nn an bn dn k h6 (by omega) (by omega) (by omega)
            rw [HUE.out, HUW.out] at hma
            rw [HUE.out] at hmm
            obtain ⟨e1r, e1m⟩ := st_one op dn an bn k nn HNN.out trR trM
            obtain ⟨e2r, e2m⟩ := st_one op dn an bn k nn HNN.out (otR ur) trM
            rw [e1r, e1m, hmm] at x7
            rw [e2r, e2m] at y7
            obtain ⟨XR, hXR⟩ : ∃ XR, stepRegs nn dn an bn k trR trM = XR := ⟨_, rfl⟩
            obtain ⟨YR, hYR⟩ : ∃ YR, stepRegs nn dn an bn k (otR ur) trM = YR := ⟨_, rfl⟩
            obtain ⟨ZM, hZM⟩ : ∃ ZM, stepMem nn dn an k (otR ur) trM = ZM := ⟨_, rfl⟩
            rw [hXR, hZM] at x7
            rw [hYR, hZM] at y7
            rw [hXR, hYR] at hma
            have HMA := shade hma
            have U7 := shade u7; have X7 := shade x7; have Y7 := shade y7
            have huw := (usesW_bits nn dn 0 (by omega) (by omega)).1
            rw [HUW.out] at huw
            obtain ⟨v0, v1⟩ := huw
            clear u7 x7 y7 hW hby hma hmm e1r e1m e2r e2m hXR hYR hZM
            go_wp2_with fail
            go_loopw [15] (fun q wr => ∃ r : Nat, r ≤ 4 ∧ q = .int .i64 r ∧ W7.grownBy wr none) (fun q _ => 4 - (intOf q).toNat)
            case atStart => exact ⟨0, Nat.zero_le _, rfl, grown_refl _ _⟩
            case round =>
              obtain ⟨r, hr, rfl, hgw⟩ := hrel
              have u8 := U7.out.on hgw
              have x8 := X7.out.on hgw
              have y8 := Y7.out.on hgw
              have HGW := shade hgw
              clear hgw
              by_cases hr4 : r < 4
              · obtain ⟨hm0, hm1, hm01⟩ := HMA.out r hr4
                have hq := fun (W : World) => (lawBit_any uw r hr4 v0 v1 W).mono (fun _ _ h => And.intro h.1 h.2.symm)
                have xb := x8.box.look 1; have yb := y8.box.look 1; have mb := u8.mac.box.look 1; have ob := u8.oth.look 1
                have xc := x8.n1.cell hr4; have yc := y8.n1.cell hr4; have mc := u8.mac.n1.cell hr4; have oc := u8.o1.nums.cell hr4
                simp at xb yb mb ob xc yc mc oc
                have r4 : (r : Int) < 4 := by omega
                rcases hm01 with hb | hb
                · obtain ⟨e1, e2⟩ := hm0 hb
                  rw [e1] at xc
                  rw [e2] at yc
                  obtain ⟨x, hx⟩ : ∃ x, trR r = x := ⟨_, rfl⟩
                  obtain ⟨y, hy⟩ : ∃ y, otR ur r = y := ⟨_, rfl⟩
                  rw [hx] at xc mc
                  rw [hy] at yc oc
                  rw [hb] at hq
                  have HQ := shade hq
                  clear hm0 hm1 hb e1 e2 hx hy hq u8 x8 y8
                  go_wp2_with fail
                  go_quiet ((go_at_call 17; exact Calls.quiet_of_same (HQ.out _)))
                  go_wp2
                  go_roundw
                  case rel => exact ⟨r + 1, by omega, by go_num, grown_drewN HGW.out _⟩
                  case measure => simp [intOf]; omega
                · have e1 := hm1 hb
                  rw [e1] at xc
                  obtain ⟨y, hy⟩ : ∃ y, YR r = y := ⟨_, rfl⟩
                  rw [hy] at xc yc
                  rw [hb] at hq
                  have HQ := shade hq
                  clear hm0 hm1 hb e1 hy hq u8 x8 y8
                  go_wp2_with fail
                  go_quiet ((go_at_call 17; exact Calls.quiet_of_same (HQ.out _)))
                  go_wp2
                  go_roundw
                  case rel => exact ⟨r + 1, by omega, by go_num, grown_drewN HGW.out _⟩
                  case measure => simp [intOf]; omega
              · have xb := x8.box.look 2; have yb := y8.box.look 2
                simp at xb yb
                have HL := shade u8.low
                have XN := shade x8.n2; have YN := shade y8.n2
                clear u8 x8 y8
                go_wp2_with fail
                refine (equalInts_any _ _ _ _ 8 ZM ZM _ (by omega) XN.out YN.out (fun _ _ => rfl)).mono ?_
                rintro e w9 ⟨rfl, m9, rfl⟩
                go_wp2_with fail
                go_ret
                exact ⟨rfl, below_of_grown (grown_drewN HL.out _)⟩
      · have hcase : nn = 7 ∨ nn = 8 ∨ nn = 9 := by omega
        have h9 := H9.out; have h7 := H7.out; have h8 := H8.out
        clear H7 H8 H9
        rcases hcase with rfl | rfl | rfl
        all_goals
          simp at h7 h8 h9
          go_wp2_with fail
          refine (ValidInstr_any _ _ _ _ _ _ K3.out).mono ?_
          rw [HV.out]
          rintro e w4 ⟨rfl, hb2⟩
          have L4 := shade (grown_same L3.out (grown_of_below hb2))
          clear hb2
          go_wp2_with fail
          go_ret
          exact ⟨rfl, below_of_grown L4.out⟩
end Go.Proofs.YtkljjacailgdaaaDoor
