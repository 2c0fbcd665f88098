/- What UsesOf's law tries: bits, a machine of some numbers, a drawn instruction. -/
import Derived.Test.YtkljjacailgdaaaDoorG120
import Derived.Test.YtkljjacailgdaaaDoorG77
import Derived.Test.YtkljjacailgdaaaDoorG130
import Derived.Test.YtkljjacailgdaaaDoorW24
namespace Go.Proofs.YtkljjacailgdaaaDoor
open Go.RowKit
set_option linter.unusedSimpArgs false

set_option maxHeartbeats 1000000 in
theorem DrawUsesOf_any (A : Option Addr) (n cap : Nat) (zs : List Int) (w : World) (h : Bys (w.alloc (.cells #[.string ⟨#[]⟩, .int .i64 0, .int .i64 0, .int .i64 0, .int .i64 0] 24)) A n cap zs) :
    Calls Tryd.prog 12 #[.slice A n cap] w (DrawOk w) := by
  have HN := shade (newReader_any A n cap zs _ h)
  clear h
  go_enter Tryd.func12, Tryd.ntmps12
  go_wp2_with fail
  refine HN.out.mono ?_
  rintro e w1 ⟨m, rfl, hR, hb1⟩
  rw [World.size_alloc] at hR
  have hZ := (Holds5.fresh w 24 #[.string ⟨#[]⟩, .int .i64 0, .int .i64 0, .int .i64 0, .int .i64 0]).below hb1 (by simp)
  have hlt := hR.blk.inside
  have HB1 := shade (show Below w.heap.size w w1 from ((Below.refl _ _).alloc (Nat.le_refl _) _).trans (hb1.mono (by simp)))
  have HS := shade (someInstr_any hR (by omega))
  clear hb1 hR
  go_wp2_with fail
  refine HS.out.mono ?_
  rintro e w2 ⟨op, d, a, b, k, q, hq, rfl, hR, hG⟩
  have hZ2 := hZ.grown hG (by intro e; injection e with e; simp at e)
  have hB2 : Below w.heap.size w w2 := HB1.out.grown hG HB1.out.size (by intro g hg; injection hg with hg; subst hg; simp)
  have r0 := hZ2.look 0; have r1 := hZ2.look 1; have r2 := hZ2.look 2; have r3 := hZ2.look 3; have r4 := hZ2.look 4
  have f0 := hZ2.free 0; have f1 := hZ2.free 1; have f2 := hZ2.free 2; have f3 := hZ2.free 3; have f4 := hZ2.free 4
  simp at r0 r1 r2 r3 r4
  clear hR hG hZ
  have HB2 := shade hB2
  clear hB2
  go_wp2_with fail
  refine bodyPost_ret (results_cell_row rfl _ _ _ _ _ (0, 0) _ rfl (Holds5.five hZ2 _ _ _ _ _) Tryd.underlying24 rfl (by kernel_rfl)) rfl ?_
  have hB := HB2.out
  exact ⟨op, d, a, b, k, rfl, by go_grown⟩


set_option maxHeartbeats 1000000 in
theorem lawPower_0 (w : World) : Calls Tryd.prog 57 #[.int .i64 0] w fun e w' => e = .returned (.int .i64 1) ∧ w = w' := by
  go_enter Tryd.func57, Tryd.ntmps57
  go_wp2
  refine wp_loop_rounds 6 ?_
  iterate 6 (try any_goals (rw [rounds_succ]; go_wp2))
  go_ret
  exact ⟨rfl, rfl⟩


set_option maxHeartbeats 1000000 in
theorem lawPower_1 (w : World) : Calls Tryd.prog 57 #[.int .i64 1] w fun e w' => e = .returned (.int .i64 2) ∧ w = w' := by
  go_enter Tryd.func57, Tryd.ntmps57
  go_wp2
  refine wp_loop_rounds 6 ?_
  iterate 6 (try any_goals (rw [rounds_succ]; go_wp2))
  go_ret
  exact ⟨rfl, rfl⟩


set_option maxHeartbeats 1000000 in
theorem lawPower_2 (w : World) : Calls Tryd.prog 57 #[.int .i64 2] w fun e w' => e = .returned (.int .i64 4) ∧ w = w' := by
  go_enter Tryd.func57, Tryd.ntmps57
  go_wp2
  refine wp_loop_rounds 6 ?_
  iterate 6 (try any_goals (rw [rounds_succ]; go_wp2))
  go_ret
  exact ⟨rfl, rfl⟩


set_option maxHeartbeats 1000000 in
theorem lawPower_3 (w : World) : Calls Tryd.prog 57 #[.int .i64 3] w fun e w' => e = .returned (.int .i64 8) ∧ w = w' := by
  go_enter Tryd.func57, Tryd.ntmps57
  go_wp2
  refine wp_loop_rounds 6 ?_
  iterate 6 (try any_goals (rw [rounds_succ]; go_wp2))
  go_ret
  exact ⟨rfl, rfl⟩


/-- A bit of a set of registers. -/
def bitI (x : Int) (j : Nat) : Int := if j = 0 then x % 2 else if j = 1 then x / 2 % 2 else if j = 2 then x / 4 % 2 else x / 8 % 2


set_option maxHeartbeats 1000000 in
theorem lawBit_0 (x : Int) (h0 : 0 ≤ x) (h1 : x < 16) (w : World) : Calls Tryd.prog 17 #[.int .i64 x, .int .i64 0] w fun e w' => e = .returned (.int .i64 (x % 2)) ∧ w = w' := by
  go_enter Tryd.func17, Tryd.ntmps17
  go_wp2_with fail
  refine (lawPower_0 _).mono ?_
  rintro e w1 ⟨rfl, rfl⟩
  go_wp2_with fail
  go_ret
  exact ⟨rfl, rfl⟩


set_option maxHeartbeats 1000000 in
theorem lawBit_1 (x : Int) (h0 : 0 ≤ x) (h1 : x < 16) (w : World) : Calls Tryd.prog 17 #[.int .i64 x, .int .i64 1] w fun e w' => e = .returned (.int .i64 (x / 2 % 2)) ∧ w = w' := by
  go_enter Tryd.func17, Tryd.ntmps17
  go_wp2_with fail
  refine (lawPower_1 _).mono ?_
  rintro e w1 ⟨rfl, rfl⟩
  go_wp2_with fail
  go_ret
  exact ⟨rfl, rfl⟩


set_option maxHeartbeats 1000000 in
theorem lawBit_2 (x : Int) (h0 : 0 ≤ x) (h1 : x < 16) (w : World) : Calls Tryd.prog 17 #[.int .i64 x, .int .i64 2] w fun e w' => e = .returned (.int .i64 (x / 4 % 2)) ∧ w = w' := by
  go_enter Tryd.func17, Tryd.ntmps17
  go_wp2_with fail
  refine (lawPower_2 _).mono ?_
  rintro e w1 ⟨rfl, rfl⟩
  go_wp2_with fail
  go_ret
  exact ⟨rfl, rfl⟩


set_option maxHeartbeats 1000000 in
theorem lawBit_3 (x : Int) (h0 : 0 ≤ x) (h1 : x < 16) (w : World) : Calls Tryd.prog 17 #[.int .i64 x, .int .i64 3] w fun e w' => e = .returned (.int .i64 (x / 8 % 2)) ∧ w = w' := by
  go_enter Tryd.func17, Tryd.ntmps17
  go_wp2_with fail
  refine (lawPower_3 _).mono ?_
  rintro e w1 ⟨rfl, rfl⟩
  go_wp2_with fail
  go_ret
  exact ⟨rfl, rfl⟩


theorem lawBit_any (x : Int) (j : Nat) (hj : j < 4) (h0 : 0 ≤ x) (h1 : x < 16) (w : World) : Calls Tryd.prog 17 #[.int .i64 x, .int .i64 (j : Int)] w fun e w' => e = .returned (.int .i64 (bitI x j)) ∧ w = w' := by
  rcases (show j = 0 ∨ j = 1 ∨ j = 2 ∨ j = 3 by omega) with rfl | rfl | rfl | rfl
  · exact lawBit_0 x h0 h1 w
  · exact lawBit_1 x h0 h1 w
  · exact lawBit_2 x h0 h1 w
  · exact lawBit_3 x h0 h1 w
theorem or_tab : ∀ a b r : Fin 4, (0 ≤ bits .or .i64 (sh (a.val : Int)) (sh (b.val : Int)) ∧ bits .or .i64 (sh (a.val : Int)) (sh (b.val : Int)) < 16) ∧ (bitI (bits .or .i64 (sh (a.val : Int)) (sh (b.val : Int))) r.val = 0 ∨ bitI (bits .or .i64 (sh (a.val : Int)) (sh (b.val : Int))) r.val = 1) ∧ (r = a ∨ r = b → bitI (bits .or .i64 (sh (a.val : Int)) (sh (b.val : Int))) r.val = 1) := by decide +kernel
theorem sh_tab : ∀ a r : Fin 4, (0 ≤ sh (a.val : Int) ∧ sh (a.val : Int) < 16) ∧ bitI (sh (a.val : Int)) r.val = if r = a then 1 else 0 := by decide +kernel
theorem zero_tab : ∀ r : Fin 4, bitI 0 r.val = 0 := by decide +kernel
theorem or_bits (a b r : Nat) (ha : a < 4) (hb : b < 4) (hr : r < 4) : (0 ≤ bits .or .i64 (sh (a : Int)) (sh (b : Int)) ∧ bits .or .i64 (sh (a : Int)) (sh (b : Int)) < 16) ∧ (bitI (bits .or .i64 (sh (a : Int)) (sh (b : Int))) r = 0 ∨ bitI (bits .or .i64 (sh (a : Int)) (sh (b : Int))) r = 1) ∧ (r = a ∨ r = b → bitI (bits .or .i64 (sh (a : Int)) (sh (b : Int))) r = 1) := by
  have h := or_tab ⟨a, ha⟩ ⟨b, hb⟩ ⟨r, hr⟩
  simp only [Fin.mk.injEq] at h
  exact h
theorem sh_bits (a r : Nat) (ha : a < 4) (hr : r < 4) : (0 ≤ sh (a : Int) ∧ sh (a : Int) < 16) ∧ bitI (sh (a : Int)) r = if r = a then 1 else 0 := by
  have h := sh_tab ⟨a, ha⟩ ⟨r, hr⟩
  simp only [Fin.mk.injEq] at h
  exact h
theorem usesR_bits (n a b d r : Nat) (hn : n ≤ 6) (ha : a < 4) (hb : b < 4) (hd : d < 4) (hr : r < 4) :
    (0 ≤ usesR n (d : Int) (a : Int) (b : Int) ∧ usesR n (d : Int) (a : Int) (b : Int) < 16) ∧ (bitI (usesR n (d : Int) (a : Int) (b : Int)) r = 0 ∨ bitI (usesR n (d : Int) (a : Int) (b : Int)) r = 1) ∧
    ((1 ≤ n ∧ r = a ∨ (1 ≤ n ∧ n ≤ 4) ∧ r = b ∨ n = 6 ∧ r = d) → bitI (usesR n (d : Int) (a : Int) (b : Int)) r = 1) := by
  have h1 := or_bits a b r ha hb hr
  have h2 := or_bits d a r hd ha hr
  have h3 := sh_bits a r ha hr
  have h0 := zero_tab ⟨r, hr⟩
  simp only [] at h0
  unfold usesR
  by_cases e0 : n = 0
  · rw [if_pos e0]
    exact ⟨⟨by omega, by omega⟩, .inl h0, fun h => by omega⟩
  rw [if_neg e0]
  by_cases e4 : n ≤ 4
  · rw [if_pos e4]
    exact ⟨h1.1, h1.2.1, fun h => h1.2.2 (by omega)⟩
  rw [if_neg e4]
  by_cases e5 : n = 5
  · rw [if_pos e5]
    refine ⟨h3.1, ?_, fun h => ?_⟩
    · rw [h3.2]
      split
      · exact .inr rfl
      · exact .inl rfl
    · rw [h3.2, if_pos (by omega)]
  rw [if_neg e5, if_pos (by omega)]
  exact ⟨h2.1, h2.2.1, fun h => h2.2.2 (by omega)⟩
theorem usesW_bits (n d r : Nat) (hd : d < 4) (hr : r < 4) :
    (0 ≤ usesW n (d : Int) ∧ usesW n (d : Int) < 16) ∧ bitI (usesW n (d : Int)) r = if n ≤ 5 ∧ r = d then 1 else 0 := by
  have h3 := sh_bits d r hd hr
  have h0 := zero_tab ⟨r, hr⟩
  simp only [] at h0
  unfold usesW
  by_cases e : n ≤ 5
  · rw [if_pos e]
    refine ⟨h3.1, ?_⟩
    rw [h3.2]
    simp [e]
  · rw [if_neg e]
    refine ⟨⟨by omega, by omega⟩, ?_⟩
    rw [h0, if_neg (by omega)]
/-- The numbers of the tried machine. -/
def trR (j : Nat) : Int := (35 + 3 * (j : Int)) % 256
def trM (_ : Nat) : Int := 1
/-- What stands while the tried machine is made. -/
structure TO (w wr : World) (b g1 c1 g2 c2 : Nat) (f1 f2 : Nat → Int) : Prop where
  res : Holds5 wr w.heap.size 31 #[.int .i64 0, .slice none 0 0, .slice none 0 0]
  var : Holds5 wr b 31 #[.int .i64 0, .slice (some ⟨g1, 0, none⟩) 4 c1, .slice (some ⟨g2, 0, none⟩) 8 c2]
  o1 : Own wr (w.heap.size + 1) (some ⟨g1, 0, none⟩) 4 c1 f1
  o2 : Own wr (w.heap.size + 1) (some ⟨g2, 0, none⟩) 8 c2 f2
  sep : w.heap.size < b ∧ b ≠ g1 ∧ b ≠ g2 ∧ g1 ≠ g2
  low : w.grownBy wr none
section
variable {w wr w2 : World} {b g1 c1 g2 c2 : Nat} {f1 f2 f3 : Nat → Int}
theorem TO.set1 (h : TO w wr b g1 c1 g2 c2 f1 f2) (r : Nat) (x : Int) (hx : f3 r = x) (hf : ∀ j, j < 4 → j ≠ r → f1 j = f3 j) : TO w (wr.setCell ⟨g1, r, none⟩ (.int .i64 x)) b g1 c1 g2 c2 f3 f2 := by
  have h1 := (World.ownsRow.stored h.o1 r (.int .i64 x)).1
  rw [numL_set 4 f1 f3 r x hx hf] at h1
  have l1 := h.o1.lt
  have hs := h.sep
  exact ⟨h.res.other (p := ⟨g1, r, none⟩) (by show w.heap.size ≠ g1; omega) _, h.var.other (p := ⟨g1, r, none⟩) (by show b ≠ g1; omega) _, h1, h.o2.far (by omega) r _, hs, grown_put h.low (by omega) r _⟩
theorem TO.set2 (h : TO w wr b g1 c1 g2 c2 f1 f2) (r : Nat) (x : Int) (hx : f3 r = x) (hf : ∀ j, j < 8 → j ≠ r → f2 j = f3 j) : TO w (wr.setCell ⟨g2, r, none⟩ (.int .i64 x)) b g1 c1 g2 c2 f1 f3 := by
  have h1 := (World.ownsRow.stored h.o2 r (.int .i64 x)).1
  rw [numL_set 8 f2 f3 r x hx hf] at h1
  have l1 := h.o2.lt
  have hs := h.sep
  exact ⟨h.res.other (p := ⟨g2, r, none⟩) (by show w.heap.size ≠ g2; omega) _, h.var.other (p := ⟨g2, r, none⟩) (by show b ≠ g2; omega) _, h.o1.far (by omega) r _, h1, hs, grown_put h.low (by omega) r _⟩
end
theorem make_own (V : World) (B n : Nat) (hB : B ≤ V.heap.size) (hn : n = 4 ∨ n = 8) : Own (V.alloc (.cells (if n = 4 then #[.int .i64 0, .int .i64 0, .int .i64 0, .int .i64 0] else #[.int .i64 0, .int .i64 0, .int .i64 0, .int .i64 0, .int .i64 0, .int .i64 0, .int .i64 0, .int .i64 0]) 3)) B (some ⟨V.heap.size, 0, none⟩) n n (fun _ => 0) := by
  rcases hn with rfl | rfl
  · exact World.ownsRow_lit (base := B) (e := 3) (size := 1) V #[.int .i64 0, .int .i64 0, .int .i64 0, .int .i64 0] 4 hB (by decide) rfl
  · exact World.ownsRow_lit (base := B) (e := 3) (size := 1) V #[.int .i64 0, .int .i64 0, .int .i64 0, .int .i64 0, .int .i64 0, .int .i64 0, .int .i64 0, .int .i64 0] 8 hB (by decide) rfl


set_option maxRecDepth 100000 in
set_option maxHeartbeats 8000000 in
theorem trial_any (w : World) : Calls Tryd.prog 16 #[.int .i64 5] w (MachOk w 0 4 8 trR trM) := by
  have hm4 := make4
  have hm8 := make8
  have hR0 : Holds5 (w.alloc (.cells #[.int .i64 0, .slice none 0 0, .slice none 0 0] 31)) w.heap.size 31 #[.int .i64 0, .slice none 0 0, .slice none 0 0] := Holds5.fresh _ _ _
  have hG0 := World.grownBy_alloc w (.cells #[.int .i64 0, .slice none 0 0, .slice none 0 0] 31) none
  have hz0 : (w.alloc (.cells #[.int .i64 0, .slice none 0 0, .slice none 0 0] 31)).heap.size = w.heap.size + 1 := World.size_alloc _ _
  obtain ⟨W0, hW0⟩ : ∃ W0, w.alloc (.cells #[.int .i64 0, .slice none 0 0, .slice none 0 0] 31) = W0 := ⟨_, rfl⟩
  rw [hW0] at hR0 hG0 hz0
  have HR0 := shade hR0; have HG0 := shade hG0; have HW0 := shade hW0; have HZ0 := shade hz0
  clear hR0 hG0 hW0 hz0
  go_enter Tryd.func16, Tryd.ntmps16
  go_upto_region 1 with (fail)
  rw [HW0.out]
  clear HW0
  go_cut [3] (fun s3 wx => ∃ (b g1 c1 g2 c2 : Nat), s3 = .pointer (some ⟨b, 0, none⟩) ∧ TO w wx b g1 c1 g2 c2 (fun _ => 0) (fun _ => 0))
  case first =>
    have R0 := shade HR0.out.drew; have G0 := shade (grown_same HG0.out (grown_drew1 W0)); have Z := shade (show W0.drew.heap.size = w.heap.size + 1 from HZ0.out)
    clear HR0 HG0 HZ0
    refine wp_region_G (by kernel_rfl) (fun _ => True) 4 5 [false, false, false, false, false] rfl rfl ?_
    obtain ⟨V0, hV⟩ : ∃ V0, W0.drew = V0 := ⟨_, rfl⟩
    rw [hV] at R0 G0 Z ⊢
    clear hV
    refine WG.all (rs := [0, 1, 3]) (by kernel_rfl) (by simp) (by decide) ?_
    intro i hi
    simp only [List.mem_cons, List.not_mem_nil, or_false] at hi
    rcases hi with rfl | rfl | rfl
    · refine wpOp_lay (by rfl) (fun K hK => ?_)
      go_simp
      have hg := World.grownBy_alloc V0 (.cells #[.int .i64 0, .int .i64 0, .int .i64 0, .int .i64 0] 3) none
      have hz : (V0.alloc (.cells #[.int .i64 0, .int .i64 0, .int .i64 0, .int .i64 0] 3)).heap.size = V0.heap.size + 1 := World.size_alloc _ _
      have ho : Own (V0.alloc (.cells #[.int .i64 0, .int .i64 0, .int .i64 0, .int .i64 0] 3)) (w.heap.size + 1) (some ⟨V0.heap.size, 0, none⟩) 4 4 (fun _ => 0) := make_own V0 _ 4 (by have := R0.out.inside; omega) (.inl rfl)
      refine hK.out _ _ ⟨trivial, ?_⟩
      clear hK K
      (try simp only [Act.put, List.setIfInBounds_toArray, List.set_cons_zero, List.set_cons_succ])
      obtain ⟨V1, hV⟩ : ∃ V, V0.alloc (.cells #[.int .i64 0, .int .i64 0, .int .i64 0, .int .i64 0] 3) = V := ⟨_, rfl⟩
      rw [hV] at hg ho hz ⊢
      have Z' := Z.out
      have Z := shade (And.intro hz Z')
      have R1 := shade (R0.out.grown hg (by intro e; cases e)); have G1 := shade (grown_same G0.out hg); have O11 := shade ho
      clear hg hV ho hz Z'
      refine WG.all (rs := [1, 3]) (by kernel_rfl) (by simp) (by decide) ?_
      intro i hi
      simp only [List.mem_cons, List.not_mem_nil, or_false] at hi
      rcases hi with rfl | rfl
      · refine wpOp_lay (by rfl) (fun K hK => ?_)
        go_simp
        have hg := World.grownBy_alloc V1 (.cells #[.int .i64 0, .int .i64 0, .int .i64 0, .int .i64 0, .int .i64 0, .int .i64 0, .int .i64 0, .int .i64 0] 3) none
        have hz : (V1.alloc (.cells #[.int .i64 0, .int .i64 0, .int .i64 0, .int .i64 0, .int .i64 0, .int .i64 0, .int .i64 0, .int .i64 0] 3)).heap.size = V1.heap.size + 1 := World.size_alloc _ _
        have ho : Own (V1.alloc (.cells #[.int .i64 0, .int .i64 0, .int .i64 0, .int .i64 0, .int .i64 0, .int .i64 0, .int .i64 0, .int .i64 0] 3)) (w.heap.size + 1) (some ⟨V1.heap.size, 0, none⟩) 8 8 (fun _ => 0) := make_own V1 _ 8 (by have := R1.out.inside; omega) (.inr rfl)
        refine hK.out _ _ ⟨trivial, ?_⟩
        clear hK K
        (try simp only [Act.put, List.setIfInBounds_toArray, List.set_cons_zero, List.set_cons_succ])
        obtain ⟨V2, hV⟩ : ∃ V, V1.alloc (.cells #[.int .i64 0, .int .i64 0, .int .i64 0, .int .i64 0, .int .i64 0, .int .i64 0, .int .i64 0, .int .i64 0] 3) = V := ⟨_, rfl⟩
        rw [hV] at hg ho hz ⊢
        have Z' := Z.out
        have Z := shade (And.intro hz Z')
        have R2 := shade (R1.out.grown hg (by intro e; cases e)); have G2 := shade (grown_same G1.out hg); have O22 := shade ho; have O12 := shade (O11.out.on hg)
        clear hg hV ho hz Z'
        refine WG.take (i := 2) (v := ?_) rfl (by kernel_rfl) (by kernel_rfl) (by kernel_rfl) (by kernel_rfl) (by kernel_rfl) (by kernel_rfl) (fun _ _ _ h => h) (Or.inl ⟨by rfl, ?_⟩) trivial ?_
        rotate_left
        · intro w' hSw
          try dsimp only at hSw
          go_simp
          try with_reducible rfl
        (try simp only [Act.put, List.setIfInBounds_toArray, List.set_cons_zero, List.set_cons_succ])
        refine WG.all (rs := [3]) (by kernel_rfl) (by simp) (by decide) ?_
        intro i hi
        simp only [List.mem_cons, List.not_mem_nil, or_false] at hi
        subst hi
        refine wpOp_lay (by rfl) (fun K hK => ?_)
        go_simp
        have hg := World.grownBy_alloc V2 (.cells #[.int .i64 0, .slice none 0 0, .slice none 0 0] 31) none
        have hz : (V2.alloc (.cells #[.int .i64 0, .slice none 0 0, .slice none 0 0] 31)).heap.size = V2.heap.size + 1 := World.size_alloc _ _
        have ho : Holds5 (V2.alloc (.cells #[.int .i64 0, .slice none 0 0, .slice none 0 0] 31)) V2.heap.size 31 #[.int .i64 0, .slice none 0 0, .slice none 0 0] := Holds5.fresh _ _ _
        refine hK.out _ _ ⟨trivial, ?_⟩
        clear hK K
        (try simp only [Act.put, List.setIfInBounds_toArray, List.set_cons_zero, List.set_cons_succ])
        obtain ⟨V3, hV⟩ : ∃ V, V2.alloc (.cells #[.int .i64 0, .slice none 0 0, .slice none 0 0] 31) = V := ⟨_, rfl⟩
        rw [hV] at hg ho hz ⊢
        have Z' := Z.out
        have Z := shade (And.intro hz Z')
        have R3 := shade (R2.out.grown hg (by intro e; cases e)); have G3 := shade (grown_same G2.out hg); have B3 := shade ho; have O13 := shade (O12.out.on hg); have O23 := shade (O22.out.on hg)
        clear hg hV ho hz Z'
        refine WG.last (by kernel_rfl) (by kernel_rfl) ?_
        have y0 := B3.out.look 0; have y1 := B3.out.look 1; have y2 := B3.out.look 2; have t0 := B3.out.free 0; have t1 := B3.out.free 1; have t2 := B3.out.free 2
        simp at y0 y1 y2
        refine wpOp_lay (by rfl) (fun K hK => ?_)
        go_simp
        refine hK.out _ _ ?_
        have hb := ((B3.out.put 0 (.int .i64 0)).put 1 (.slice (some ⟨V0.heap.size, 0, none⟩) 4 4)).put 2 (.slice (some ⟨V1.heap.size, 0, none⟩) 8 8)
        simp at hb
        have hs := Z.out
        have hM : TO w _ (V2.heap.size) (V0.heap.size) 4 (V1.heap.size) 8 (fun _ => 0) (fun _ => 0) := ⟨(((R3.out.other (p := ⟨V2.heap.size, 0, none⟩) (by show w.heap.size ≠ V2.heap.size; omega) _).other (p := ⟨V2.heap.size, 1, none⟩) (by show w.heap.size ≠ V2.heap.size; omega) _).other (p := ⟨V2.heap.size, 2, none⟩) (by show w.heap.size ≠ V2.heap.size; omega) _), hb, (((O13.out.far (r := V2.heap.size) (by omega) 0 _).far (r := V2.heap.size) (by omega) 1 _).far (r := V2.heap.size) (by omega) 2 _), (((O23.out.far (r := V2.heap.size) (by omega) 0 _).far (r := V2.heap.size) (by omega) 1 _).far (r := V2.heap.size) (by omega) 2 _), ⟨by omega, by omega, by omega, by omega⟩, grown_then G3.out (grown_set3 _ _ _ _ _) (by omega)⟩
        have HM := shade hM
        clear hK K y0 y1 y2 t0 t1 t2 hb hM hs
        go_wp2_with fail
        go_meet
        exact ⟨_, _, _, _, _, rfl, HM.out⟩
      · refine wpOp_lay (by rfl) (fun K hK => ?_)
        go_simp
        have hg := World.grownBy_alloc V1 (.cells #[.int .i64 0, .slice none 0 0, .slice none 0 0] 31) none
        have hz : (V1.alloc (.cells #[.int .i64 0, .slice none 0 0, .slice none 0 0] 31)).heap.size = V1.heap.size + 1 := World.size_alloc _ _
        have ho : Holds5 (V1.alloc (.cells #[.int .i64 0, .slice none 0 0, .slice none 0 0] 31)) V1.heap.size 31 #[.int .i64 0, .slice none 0 0, .slice none 0 0] := Holds5.fresh _ _ _
        refine hK.out _ _ ⟨trivial, ?_⟩
        clear hK K
        (try simp only [Act.put, List.setIfInBounds_toArray, List.set_cons_zero, List.set_cons_succ])
        obtain ⟨V2, hV⟩ : ∃ V, V1.alloc (.cells #[.int .i64 0, .slice none 0 0, .slice none 0 0] 31) = V := ⟨_, rfl⟩
        rw [hV] at hg ho hz ⊢
        have Z' := Z.out
        have Z := shade (And.intro hz Z')
        have R2 := shade (R1.out.grown hg (by intro e; cases e)); have G2 := shade (grown_same G1.out hg); have B2 := shade ho; have O12 := shade (O11.out.on hg)
        clear hg hV ho hz Z'
        refine WG.all (rs := [1]) (by kernel_rfl) (by simp) (by decide) ?_
        intro i hi
        simp only [List.mem_cons, List.not_mem_nil, or_false] at hi
        subst hi
        refine wpOp_lay (by rfl) (fun K hK => ?_)
        go_simp
        have hg := World.grownBy_alloc V2 (.cells #[.int .i64 0, .int .i64 0, .int .i64 0, .int .i64 0, .int .i64 0, .int .i64 0, .int .i64 0, .int .i64 0] 3) none
        have hz : (V2.alloc (.cells #[.int .i64 0, .int .i64 0, .int .i64 0, .int .i64 0, .int .i64 0, .int .i64 0, .int .i64 0, .int .i64 0] 3)).heap.size = V2.heap.size + 1 := World.size_alloc _ _
        have ho : Own (V2.alloc (.cells #[.int .i64 0, .int .i64 0, .int .i64 0, .int .i64 0, .int .i64 0, .int .i64 0, .int .i64 0, .int .i64 0] 3)) (w.heap.size + 1) (some ⟨V2.heap.size, 0, none⟩) 8 8 (fun _ => 0) := make_own V2 _ 8 (by have := R2.out.inside; omega) (.inr rfl)
        refine hK.out _ _ ⟨trivial, ?_⟩
        clear hK K
        (try simp only [Act.put, List.setIfInBounds_toArray, List.set_cons_zero, List.set_cons_succ])
        obtain ⟨V3, hV⟩ : ∃ V, V2.alloc (.cells #[.int .i64 0, .int .i64 0, .int .i64 0, .int .i64 0, .int .i64 0, .int .i64 0, .int .i64 0, .int .i64 0] 3) = V := ⟨_, rfl⟩
        rw [hV] at hg ho hz ⊢
        have Z' := Z.out
        have Z := shade (And.intro hz Z')
        have R3 := shade (R2.out.grown hg (by intro e; cases e)); have G3 := shade (grown_same G2.out hg); have O23 := shade ho; have O13 := shade (O12.out.on hg); have B3 := shade (B2.out.grown hg (by intro e; cases e))
        clear hg hV ho hz Z'
        refine WG.take (i := 2) (v := ?_) rfl (by kernel_rfl) (by kernel_rfl) (by kernel_rfl) (by kernel_rfl) (by kernel_rfl) (by kernel_rfl) (fun _ _ _ h => h) (Or.inl ⟨by rfl, ?_⟩) trivial ?_
        rotate_left
        · intro w' hSw
          try dsimp only at hSw
          go_simp
          try with_reducible rfl
        (try simp only [Act.put, List.setIfInBounds_toArray, List.set_cons_zero, List.set_cons_succ])
        refine WG.last (by kernel_rfl) (by kernel_rfl) ?_
        have y0 := B3.out.look 0; have y1 := B3.out.look 1; have y2 := B3.out.look 2; have t0 := B3.out.free 0; have t1 := B3.out.free 1; have t2 := B3.out.free 2
        simp at y0 y1 y2
        refine wpOp_lay (by rfl) (fun K hK => ?_)
        go_simp
        refine hK.out _ _ ?_
        have hb := ((B3.out.put 0 (.int .i64 0)).put 1 (.slice (some ⟨V0.heap.size, 0, none⟩) 4 4)).put 2 (.slice (some ⟨V2.heap.size, 0, none⟩) 8 8)
        simp at hb
        have hs := Z.out
        have hM : TO w _ (V1.heap.size) (V0.heap.size) 4 (V2.heap.size) 8 (fun _ => 0) (fun _ => 0) := ⟨(((R3.out.other (p := ⟨V1.heap.size, 0, none⟩) (by show w.heap.size ≠ V1.heap.size; omega) _).other (p := ⟨V1.heap.size, 1, none⟩) (by show w.heap.size ≠ V1.heap.size; omega) _).other (p := ⟨V1.heap.size, 2, none⟩) (by show w.heap.size ≠ V1.heap.size; omega) _), hb, (((O13.out.far (r := V1.heap.size) (by omega) 0 _).far (r := V1.heap.size) (by omega) 1 _).far (r := V1.heap.size) (by omega) 2 _), (((O23.out.far (r := V1.heap.size) (by omega) 0 _).far (r := V1.heap.size) (by omega) 1 _).far (r := V1.heap.size) (by omega) 2 _), ⟨by omega, by omega, by omega, by omega⟩, grown_then G3.out (grown_set3 _ _ _ _ _) (by omega)⟩
        have HM := shade hM
        clear hK K y0 y1 y2 t0 t1 t2 hb hM hs
        go_wp2_with fail
        go_meet
        exact ⟨_, _, _, _, _, rfl, HM.out⟩
    · refine wpOp_lay (by rfl) (fun K hK => ?_)
      go_simp
      have hg := World.grownBy_alloc V0 (.cells #[.int .i64 0, .int .i64 0, .int .i64 0, .int .i64 0, .int .i64 0, .int .i64 0, .int .i64 0, .int .i64 0] 3) none
      have hz : (V0.alloc (.cells #[.int .i64 0, .int .i64 0, .int .i64 0, .int .i64 0, .int .i64 0, .int .i64 0, .int .i64 0, .int .i64 0] 3)).heap.size = V0.heap.size + 1 := World.size_alloc _ _
      have ho : Own (V0.alloc (.cells #[.int .i64 0, .int .i64 0, .int .i64 0, .int .i64 0, .int .i64 0, .int .i64 0, .int .i64 0, .int .i64 0] 3)) (w.heap.size + 1) (some ⟨V0.heap.size, 0, none⟩) 8 8 (fun _ => 0) := make_own V0 _ 8 (by have := R0.out.inside; omega) (.inr rfl)
      refine hK.out _ _ ⟨trivial, ?_⟩
      clear hK K
      (try simp only [Act.put, List.setIfInBounds_toArray, List.set_cons_zero, List.set_cons_succ])
      obtain ⟨V1, hV⟩ : ∃ V, V0.alloc (.cells #[.int .i64 0, .int .i64 0, .int .i64 0, .int .i64 0, .int .i64 0, .int .i64 0, .int .i64 0, .int .i64 0] 3) = V := ⟨_, rfl⟩
      rw [hV] at hg ho hz ⊢
      have Z' := Z.out
      have Z := shade (And.intro hz Z')
      have R1 := shade (R0.out.grown hg (by intro e; cases e)); have G1 := shade (grown_same G0.out hg); have O21 := shade ho
      clear hg hV ho hz Z'
      refine WG.all (rs := [0, 3]) (by kernel_rfl) (by simp) (by decide) ?_
      intro i hi
      simp only [List.mem_cons, List.not_mem_nil, or_false] at hi
      rcases hi with rfl | rfl
      · refine wpOp_lay (by rfl) (fun K hK => ?_)
        go_simp
        have hg := World.grownBy_alloc V1 (.cells #[.int .i64 0, .int .i64 0, .int .i64 0, .int .i64 0] 3) none
        have hz : (V1.alloc (.cells #[.int .i64 0, .int .i64 0, .int .i64 0, .int .i64 0] 3)).heap.size = V1.heap.size + 1 := World.size_alloc _ _
        have ho : Own (V1.alloc (.cells #[.int .i64 0, .int .i64 0, .int .i64 0, .int .i64 0] 3)) (w.heap.size + 1) (some ⟨V1.heap.size, 0, none⟩) 4 4 (fun _ => 0) := make_own V1 _ 4 (by have := R1.out.inside; omega) (.inl rfl)
        refine hK.out _ _ ⟨trivial, ?_⟩
        clear hK K
        (try simp only [Act.put, List.setIfInBounds_toArray, List.set_cons_zero, List.set_cons_succ])
        obtain ⟨V2, hV⟩ : ∃ V, V1.alloc (.cells #[.int .i64 0, .int .i64 0, .int .i64 0, .int .i64 0] 3) = V := ⟨_, rfl⟩
        rw [hV] at hg ho hz ⊢
        have Z' := Z.out
        have Z := shade (And.intro hz Z')
        have R2 := shade (R1.out.grown hg (by intro e; cases e)); have G2 := shade (grown_same G1.out hg); have O12 := shade ho; have O22 := shade (O21.out.on hg)
        clear hg hV ho hz Z'
        refine WG.take (i := 2) (v := ?_) rfl (by kernel_rfl) (by kernel_rfl) (by kernel_rfl) (by kernel_rfl) (by kernel_rfl) (by kernel_rfl) (fun _ _ _ h => h) (Or.inl ⟨by rfl, ?_⟩) trivial ?_
        rotate_left
        · intro w' hSw
          try dsimp only at hSw
          go_simp
          try with_reducible rfl
        (try simp only [Act.put, List.setIfInBounds_toArray, List.set_cons_zero, List.set_cons_succ])
        refine WG.all (rs := [3]) (by kernel_rfl) (by simp) (by decide) ?_
        intro i hi
        simp only [List.mem_cons, List.not_mem_nil, or_false] at hi
        subst hi
        refine wpOp_lay (by rfl) (fun K hK => ?_)
        go_simp
        have hg := World.grownBy_alloc V2 (.cells #[.int .i64 0, .slice none 0 0, .slice none 0 0] 31) none
        have hz : (V2.alloc (.cells #[.int .i64 0, .slice none 0 0, .slice none 0 0] 31)).heap.size = V2.heap.size + 1 := World.size_alloc _ _
        have ho : Holds5 (V2.alloc (.cells #[.int .i64 0, .slice none 0 0, .slice none 0 0] 31)) V2.heap.size 31 #[.int .i64 0, .slice none 0 0, .slice none 0 0] := Holds5.fresh _ _ _
        refine hK.out _ _ ⟨trivial, ?_⟩
        clear hK K
        (try simp only [Act.put, List.setIfInBounds_toArray, List.set_cons_zero, List.set_cons_succ])
        obtain ⟨V3, hV⟩ : ∃ V, V2.alloc (.cells #[.int .i64 0, .slice none 0 0, .slice none 0 0] 31) = V := ⟨_, rfl⟩
        rw [hV] at hg ho hz ⊢
        have Z' := Z.out
        have Z := shade (And.intro hz Z')
        have R3 := shade (R2.out.grown hg (by intro e; cases e)); have G3 := shade (grown_same G2.out hg); have B3 := shade ho; have O13 := shade (O12.out.on hg); have O23 := shade (O22.out.on hg)
        clear hg hV ho hz Z'
        refine WG.last (by kernel_rfl) (by kernel_rfl) ?_
        have y0 := B3.out.look 0; have y1 := B3.out.look 1; have y2 := B3.out.look 2; have t0 := B3.out.free 0; have t1 := B3.out.free 1; have t2 := B3.out.free 2
        simp at y0 y1 y2
        refine wpOp_lay (by rfl) (fun K hK => ?_)
        go_simp
        refine hK.out _ _ ?_
        have hb := ((B3.out.put 0 (.int .i64 0)).put 1 (.slice (some ⟨V1.heap.size, 0, none⟩) 4 4)).put 2 (.slice (some ⟨V0.heap.size, 0, none⟩) 8 8)
        simp at hb
        have hs := Z.out
        have hM : TO w _ (V2.heap.size) (V1.heap.size) 4 (V0.heap.size) 8 (fun _ => 0) (fun _ => 0) := ⟨(((R3.out.other (p := ⟨V2.heap.size, 0, none⟩) (by show w.heap.size ≠ V2.heap.size; omega) _).other (p := ⟨V2.heap.size, 1, none⟩) (by show w.heap.size ≠ V2.heap.size; omega) _).other (p := ⟨V2.heap.size, 2, none⟩) (by show w.heap.size ≠ V2.heap.size; omega) _), hb, (((O13.out.far (r := V2.heap.size) (by omega) 0 _).far (r := V2.heap.size) (by omega) 1 _).far (r := V2.heap.size) (by omega) 2 _), (((O23.out.far (r := V2.heap.size) (by omega) 0 _).far (r := V2.heap.size) (by omega) 1 _).far (r := V2.heap.size) (by omega) 2 _), ⟨by omega, by omega, by omega, by omega⟩, grown_then G3.out (grown_set3 _ _ _ _ _) (by omega)⟩
        have HM := shade hM
        clear hK K y0 y1 y2 t0 t1 t2 hb hM hs
        go_wp2_with fail
        go_meet
        exact ⟨_, _, _, _, _, rfl, HM.out⟩
      · refine wpOp_lay (by rfl) (fun K hK => ?_)
        go_simp
        have hg := World.grownBy_alloc V1 (.cells #[.int .i64 0, .slice none 0 0, .slice none 0 0] 31) none
        have hz : (V1.alloc (.cells #[.int .i64 0, .slice none 0 0, .slice none 0 0] 31)).heap.size = V1.heap.size + 1 := World.size_alloc _ _
        have ho : Holds5 (V1.alloc (.cells #[.int .i64 0, .slice none 0 0, .slice none 0 0] 31)) V1.heap.size 31 #[.int .i64 0, .slice none 0 0, .slice none 0 0] := Holds5.fresh _ _ _
        refine hK.out _ _ ⟨trivial, ?_⟩
        clear hK K
        (try simp only [Act.put, List.setIfInBounds_toArray, List.set_cons_zero, List.set_cons_succ])
        obtain ⟨V2, hV⟩ : ∃ V, V1.alloc (.cells #[.int .i64 0, .slice none 0 0, .slice none 0 0] 31) = V := ⟨_, rfl⟩
        rw [hV] at hg ho hz ⊢
        have Z' := Z.out
        have Z := shade (And.intro hz Z')
        have R2 := shade (R1.out.grown hg (by intro e; cases e)); have G2 := shade (grown_same G1.out hg); have B2 := shade ho; have O22 := shade (O21.out.on hg)
        clear hg hV ho hz Z'
        refine WG.all (rs := [0]) (by kernel_rfl) (by simp) (by decide) ?_
        intro i hi
        simp only [List.mem_cons, List.not_mem_nil, or_false] at hi
        subst hi
        refine wpOp_lay (by rfl) (fun K hK => ?_)
        go_simp
        have hg := World.grownBy_alloc V2 (.cells #[.int .i64 0, .int .i64 0, .int .i64 0, .int .i64 0] 3) none
        have hz : (V2.alloc (.cells #[.int .i64 0, .int .i64 0, .int .i64 0, .int .i64 0] 3)).heap.size = V2.heap.size + 1 := World.size_alloc _ _
        have ho : Own (V2.alloc (.cells #[.int .i64 0, .int .i64 0, .int .i64 0, .int .i64 0] 3)) (w.heap.size + 1) (some ⟨V2.heap.size, 0, none⟩) 4 4 (fun _ => 0) := make_own V2 _ 4 (by have := R2.out.inside; omega) (.inl rfl)
        refine hK.out _ _ ⟨trivial, ?_⟩
        clear hK K
        (try simp only [Act.put, List.setIfInBounds_toArray, List.set_cons_zero, List.set_cons_succ])
        obtain ⟨V3, hV⟩ : ∃ V, V2.alloc (.cells #[.int .i64 0, .int .i64 0, .int .i64 0, .int .i64 0] 3) = V := ⟨_, rfl⟩
        rw [hV] at hg ho hz ⊢
        have Z' := Z.out
        have Z := shade (And.intro hz Z')
        have R3 := shade (R2.out.grown hg (by intro e; cases e)); have G3 := shade (grown_same G2.out hg); have O13 := shade ho; have O23 := shade (O22.out.on hg); have B3 := shade (B2.out.grown hg (by intro e; cases e))
        clear hg hV ho hz Z'
        refine WG.take (i := 2) (v := ?_) rfl (by kernel_rfl) (by kernel_rfl) (by kernel_rfl) (by kernel_rfl) (by kernel_rfl) (by kernel_rfl) (fun _ _ _ h => h) (Or.inl ⟨by rfl, ?_⟩) trivial ?_
        rotate_left
        · intro w' hSw
          try dsimp only at hSw
          go_simp
          try with_reducible rfl
        (try simp only [Act.put, List.setIfInBounds_toArray, List.set_cons_zero, List.set_cons_succ])
        refine WG.last (by kernel_rfl) (by kernel_rfl) ?_
        have y0 := B3.out.look 0; have y1 := B3.out.look 1; have y2 := B3.out.look 2; have t0 := B3.out.free 0; have t1 := B3.out.free 1; have t2 := B3.out.free 2
        simp at y0 y1 y2
        refine wpOp_lay (by rfl) (fun K hK => ?_)
        go_simp
        refine hK.out _ _ ?_
        have hb := ((B3.out.put 0 (.int .i64 0)).put 1 (.slice (some ⟨V2.heap.size, 0, none⟩) 4 4)).put 2 (.slice (some ⟨V0.heap.size, 0, none⟩) 8 8)
        simp at hb
        have hs := Z.out
        have hM : TO w _ (V1.heap.size) (V2.heap.size) 4 (V0.heap.size) 8 (fun _ => 0) (fun _ => 0) := ⟨(((R3.out.other (p := ⟨V1.heap.size, 0, none⟩) (by show w.heap.size ≠ V1.heap.size; omega) _).other (p := ⟨V1.heap.size, 1, none⟩) (by show w.heap.size ≠ V1.heap.size; omega) _).other (p := ⟨V1.heap.size, 2, none⟩) (by show w.heap.size ≠ V1.heap.size; omega) _), hb, (((O13.out.far (r := V1.heap.size) (by omega) 0 _).far (r := V1.heap.size) (by omega) 1 _).far (r := V1.heap.size) (by omega) 2 _), (((O23.out.far (r := V1.heap.size) (by omega) 0 _).far (r := V1.heap.size) (by omega) 1 _).far (r := V1.heap.size) (by omega) 2 _), ⟨by omega, by omega, by omega, by omega⟩, grown_then G3.out (grown_set3 _ _ _ _ _) (by omega)⟩
        have HM := shade hM
        clear hK K y0 y1 y2 t0 t1 t2 hb hM hs
        go_wp2_with fail
        go_meet
        exact ⟨_, _, _, _, _, rfl, HM.out⟩
    · refine wpOp_lay (by rfl) (fun K hK => ?_)
      go_simp
      have hg := World.grownBy_alloc V0 (.cells #[.int .i64 0, .slice none 0 0, .slice none 0 0] 31) none
      have hz : (V0.alloc (.cells #[.int .i64 0, .slice none 0 0, .slice none 0 0] 31)).heap.size = V0.heap.size + 1 := World.size_alloc _ _
      have ho : Holds5 (V0.alloc (.cells #[.int .i64 0, .slice none 0 0, .slice none 0 0] 31)) V0.heap.size 31 #[.int .i64 0, .slice none 0 0, .slice none 0 0] := Holds5.fresh _ _ _
      refine hK.out _ _ ⟨trivial, ?_⟩
      clear hK K
      (try simp only [Act.put, List.setIfInBounds_toArray, List.set_cons_zero, List.set_cons_succ])
      obtain ⟨V1, hV⟩ : ∃ V, V0.alloc (.cells #[.int .i64 0, .slice none 0 0, .slice none 0 0] 31) = V := ⟨_, rfl⟩
      rw [hV] at hg ho hz ⊢
      have Z' := Z.out
      have Z := shade (And.intro hz Z')
      have R1 := shade (R0.out.grown hg (by intro e; cases e)); have G1 := shade (grown_same G0.out hg); have B1 := shade ho
      clear hg hV ho hz Z'
      refine WG.all (rs := [0, 1]) (by kernel_rfl) (by simp) (by decide) ?_
      intro i hi
      simp only [List.mem_cons, List.not_mem_nil, or_false] at hi
      rcases hi with rfl | rfl
      · refine wpOp_lay (by rfl) (fun K hK => ?_)
        go_simp
        have hg := World.grownBy_alloc V1 (.cells #[.int .i64 0, .int .i64 0, .int .i64 0, .int .i64 0] 3) none
        have hz : (V1.alloc (.cells #[.int .i64 0, .int .i64 0, .int .i64 0, .int .i64 0] 3)).heap.size = V1.heap.size + 1 := World.size_alloc _ _
        have ho : Own (V1.alloc (.cells #[.int .i64 0, .int .i64 0, .int .i64 0, .int .i64 0] 3)) (w.heap.size + 1) (some ⟨V1.heap.size, 0, none⟩) 4 4 (fun _ => 0) := make_own V1 _ 4 (by have := R1.out.inside; omega) (.inl rfl)
        refine hK.out _ _ ⟨trivial, ?_⟩
        clear hK K
        (try simp only [Act.put, List.setIfInBounds_toArray, List.set_cons_zero, List.set_cons_succ])
        obtain ⟨V2, hV⟩ : ∃ V, V1.alloc (.cells #[.int .i64 0, .int .i64 0, .int .i64 0, .int .i64 0] 3) = V := ⟨_, rfl⟩
        rw [hV] at hg ho hz ⊢
        have Z' := Z.out
        have Z := shade (And.intro hz Z')
        have R2 := shade (R1.out.grown hg (by intro e; cases e)); have G2 := shade (grown_same G1.out hg); have O12 := shade ho; have B2 := shade (B1.out.grown hg (by intro e; cases e))
        clear hg hV ho hz Z'
        refine WG.all (rs := [1]) (by kernel_rfl) (by simp) (by decide) ?_
        intro i hi
        simp only [List.mem_cons, List.not_mem_nil, or_false] at hi
        subst hi
        refine wpOp_lay (by rfl) (fun K hK => ?_)
        go_simp
        have hg := World.grownBy_alloc V2 (.cells #[.int .i64 0, .int .i64 0, .int .i64 0, .int .i64 0, .int .i64 0, .int .i64 0, .int .i64 0, .int .i64 0] 3) none
        have hz : (V2.alloc (.cells #[.int .i64 0, .int .i64 0, .int .i64 0, .int .i64 0, .int .i64 0, .int .i64 0, .int .i64 0, .int .i64 0] 3)).heap.size = V2.heap.size + 1 := World.size_alloc _ _
        have ho : Own (V2.alloc (.cells #[.int .i64 0, .int .i64 0, .int .i64 0, .int .i64 0, .int .i64 0, .int .i64 0, .int .i64 0, .int .i64 0] 3)) (w.heap.size + 1) (some ⟨V2.heap.size, 0, none⟩) 8 8 (fun _ => 0) := make_own V2 _ 8 (by have := R2.out.inside; omega) (.inr rfl)
        refine hK.out _ _ ⟨trivial, ?_⟩
        clear hK K
        (try simp only [Act.put, List.setIfInBounds_toArray, List.set_cons_zero, List.set_cons_succ])
        obtain ⟨V3, hV⟩ : ∃ V, V2.alloc (.cells #[.int .i64 0, .int .i64 0, .int .i64 0, .int .i64 0, .int .i64 0, .int .i64 0, .int .i64 0, .int .i64 0] 3) = V := ⟨_, rfl⟩
        rw [hV] at hg ho hz ⊢
        have Z' := Z.out
        have Z := shade (And.intro hz Z')
        have R3 := shade (R2.out.grown hg (by intro e; cases e)); have G3 := shade (grown_same G2.out hg); have O23 := shade ho; have O13 := shade (O12.out.on hg); have B3 := shade (B2.out.grown hg (by intro e; cases e))
        clear hg hV ho hz Z'
        refine WG.take (i := 2) (v := ?_) rfl (by kernel_rfl) (by kernel_rfl) (by kernel_rfl) (by kernel_rfl) (by kernel_rfl) (by kernel_rfl) (fun _ _ _ h => h) (Or.inl ⟨by rfl, ?_⟩) trivial ?_
        rotate_left
        · intro w' hSw
          try dsimp only at hSw
          go_simp
          try with_reducible rfl
        (try simp only [Act.put, List.setIfInBounds_toArray, List.set_cons_zero, List.set_cons_succ])
        refine WG.last (by kernel_rfl) (by kernel_rfl) ?_
        have y0 := B3.out.look 0; have y1 := B3.out.look 1; have y2 := B3.out.look 2; have t0 := B3.out.free 0; have t1 := B3.out.free 1; have t2 := B3.out.free 2
        simp at y0 y1 y2
        refine wpOp_lay (by rfl) (fun K hK => ?_)
        go_simp
        refine hK.out _ _ ?_
        have hb := ((B3.out.put 0 (.int .i64 0)).put 1 (.slice (some ⟨V1.heap.size, 0, none⟩) 4 4)).put 2 (.slice (some ⟨V2.heap.size, 0, none⟩) 8 8)
        simp at hb
        have hs := Z.out
        have hM : TO w _ (V0.heap.size) (V1.heap.size) 4 (V2.heap.size) 8 (fun _ => 0) (fun _ => 0) := ⟨(((R3.out.other (p := ⟨V0.heap.size, 0, none⟩) (by show w.heap.size ≠ V0.heap.size; omega) _).other (p := ⟨V0.heap.size, 1, none⟩) (by show w.heap.size ≠ V0.heap.size; omega) _).other (p := ⟨V0.heap.size, 2, none⟩) (by show w.heap.size ≠ V0.heap.size; omega) _), hb, (((O13.out.far (r := V0.heap.size) (by omega) 0 _).far (r := V0.heap.size) (by omega) 1 _).far (r := V0.heap.size) (by omega) 2 _), (((O23.out.far (r := V0.heap.size) (by omega) 0 _).far (r := V0.heap.size) (by omega) 1 _).far (r := V0.heap.size) (by omega) 2 _), ⟨by omega, by omega, by omega, by omega⟩, grown_then G3.out (grown_set3 _ _ _ _ _) (by omega)⟩
        have HM := shade hM
        clear hK K y0 y1 y2 t0 t1 t2 hb hM hs
        go_wp2_with fail
        go_meet
        exact ⟨_, _, _, _, _, rfl, HM.out⟩
      · refine wpOp_lay (by rfl) (fun K hK => ?_)
        go_simp
        have hg := World.grownBy_alloc V1 (.cells #[.int .i64 0, .int .i64 0, .int .i64 0, .int .i64 0, .int .i64 0, .int .i64 0, .int .i64 0, .int .i64 0] 3) none
        have hz : (V1.alloc (.cells #[.int .i64 0, .int .i64 0, .int .i64 0, .int .i64 0, .int .i64 0, .int .i64 0, .int .i64 0, .int .i64 0] 3)).heap.size = V1.heap.size + 1 := World.size_alloc _ _
        have ho : Own (V1.alloc (.cells #[.int .i64 0, .int .i64 0, .int .i64 0, .int .i64 0, .int .i64 0, .int .i64 0, .int .i64 0, .int .i64 0] 3)) (w.heap.size + 1) (some ⟨V1.heap.size, 0, none⟩) 8 8 (fun _ => 0) := make_own V1 _ 8 (by have := R1.out.inside; omega) (.inr rfl)
        refine hK.out _ _ ⟨trivial, ?_⟩
        clear hK K
        (try simp only [Act.put, List.setIfInBounds_toArray, List.set_cons_zero, List.set_cons_succ])
        obtain ⟨V2, hV⟩ : ∃ V, V1.alloc (.cells #[.int .i64 0, .int .i64 0, .int .i64 0, .int .i64 0, .int .i64 0, .int .i64 0, .int .i64 0, .int .i64 0] 3) = V := ⟨_, rfl⟩
        rw [hV] at hg ho hz ⊢
        have Z' := Z.out
        have Z := shade (And.intro hz Z')
        have R2 := shade (R1.out.grown hg (by intro e; cases e)); have G2 := shade (grown_same G1.out hg); have O22 := shade ho; have B2 := shade (B1.out.grown hg (by intro e; cases e))
        clear hg hV ho hz Z'
        refine WG.all (rs := [0]) (by kernel_rfl) (by simp) (by decide) ?_
        intro i hi
        simp only [List.mem_cons, List.not_mem_nil, or_false] at hi
        subst hi
        refine wpOp_lay (by rfl) (fun K hK => ?_)
        go_simp
        have hg := World.grownBy_alloc V2 (.cells #[.int .i64 0, .int .i64 0, .int .i64 0, .int .i64 0] 3) none
        have hz : (V2.alloc (.cells #[.int .i64 0, .int .i64 0, .int .i64 0, .int .i64 0] 3)).heap.size = V2.heap.size + 1 := World.size_alloc _ _
        have ho : Own (V2.alloc (.cells #[.int .i64 0, .int .i64 0, .int .i64 0, .int .i64 0] 3)) (w.heap.size + 1) (some ⟨V2.heap.size, 0, none⟩) 4 4 (fun _ => 0) := make_own V2 _ 4 (by have := R2.out.inside; omega) (.inl rfl)
        refine hK.out _ _ ⟨trivial, ?_⟩
        clear hK K
        (try simp only [Act.put, List.setIfInBounds_toArray, List.set_cons_zero, List.set_cons_succ])
        obtain ⟨V3, hV⟩ : ∃ V, V2.alloc (.cells #[.int .i64 0, .int .i64 0, .int .i64 0, .int .i64 0] 3) = V := ⟨_, rfl⟩
        rw [hV] at hg ho hz ⊢
        have Z' := Z.out
        have Z := shade (And.intro hz Z')
        have R3 := shade (R2.out.grown hg (by intro e; cases e)); have G3 := shade (grown_same G2.out hg); have O13 := shade ho; have O23 := shade (O22.out.on hg); have B3 := shade (B2.out.grown hg (by intro e; cases e))
        clear hg hV ho hz Z'
        refine WG.take (i := 2) (v := ?_) rfl (by kernel_rfl) (by kernel_rfl) (by kernel_rfl) (by kernel_rfl) (by kernel_rfl) (by kernel_rfl) (fun _ _ _ h => h) (Or.inl ⟨by rfl, ?_⟩) trivial ?_
        rotate_left
        · intro w' hSw
          try dsimp only at hSw
          go_simp
          try with_reducible rfl
        (try simp only [Act.put, List.setIfInBounds_toArray, List.set_cons_zero, List.set_cons_succ])
        refine WG.last (by kernel_rfl) (by kernel_rfl) ?_
        have y0 := B3.out.look 0; have y1 := B3.out.look 1; have y2 := B3.out.look 2; have t0 := B3.out.free 0; have t1 := B3.out.free 1; have t2 := B3.out.free 2
        simp at y0 y1 y2
        refine wpOp_lay (by rfl) (fun K hK => ?_)
        go_simp
        refine hK.out _ _ ?_
        have hb := ((B3.out.put 0 (.int .i64 0)).put 1 (.slice (some ⟨V2.heap.size, 0, none⟩) 4 4)).put 2 (.slice (some ⟨V1.heap.size, 0, none⟩) 8 8)
        simp at hb
        have hs := Z.out
        have hM : TO w _ (V0.heap.size) (V2.heap.size) 4 (V1.heap.size) 8 (fun _ => 0) (fun _ => 0) := ⟨(((R3.out.other (p := ⟨V0.heap.size, 0, none⟩) (by show w.heap.size ≠ V0.heap.size; omega) _).other (p := ⟨V0.heap.size, 1, none⟩) (by show w.heap.size ≠ V0.heap.size; omega) _).other (p := ⟨V0.heap.size, 2, none⟩) (by show w.heap.size ≠ V0.heap.size; omega) _), hb, (((O13.out.far (r := V0.heap.size) (by omega) 0 _).far (r := V0.heap.size) (by omega) 1 _).far (r := V0.heap.size) (by omega) 2 _), (((O23.out.far (r := V0.heap.size) (by omega) 0 _).far (r := V0.heap.size) (by omega) 1 _).far (r := V0.heap.size) (by omega) 2 _), ⟨by omega, by omega, by omega, by omega⟩, grown_then G3.out (grown_set3 _ _ _ _ _) (by omega)⟩
        have HM := shade hM
        clear hK K y0 y1 y2 t0 t1 t2 hb hM hs
        go_wp2_with fail
        go_meet
        exact ⟨_, _, _, _, _, rfl, HM.out⟩
  case rest =>
    clear HR0 HG0 HZ0 hm4 hm8
    obtain ⟨b, g1, c1, g2, c2, rfl, hM⟩ := hcut
    have HM := shade hM
    clear hM
    go_wp2_with fail
    go_loopw [4] (fun q wr => ∃ r : Nat, r ≤ 4 ∧ q = .int .i64 r ∧ TO w wr b g1 c1 g2 c2 (fun j => if j < r then trR j else 0) (fun _ => 0)) (fun q _ => 4 - (intOf q).toNat)
    case atStart => exact ⟨0, Nat.zero_le _, rfl, HM.out⟩
    case round =>
      clear HM
      obtain ⟨r, hr, rfl, hs⟩ := hrel
      have HS := shade hs
      by_cases hr4 : r < 4
      · have y1 := hs.var.look 1
        have z0 := hs.o1.nums.cell hr4
        have t0 := World.ownsRow.frozenAt hs.o1 r
        simp at y1 z0
        have r4 : (r : Int) < 4 := by omega
        have hset := hs.set1 (f3 := fun j => if j < r + 1 then trR j else 0) r (trR r) (by simp) (fun j _ hne => by
          by_cases h : j < r
          · rw [if_pos h, if_pos (by omega)]
          · rw [if_neg h, if_neg (by omega)])
        have H9 := shade hset
        clear hs hset
        go_wp2
        go_roundw
        case rel => exact ⟨r + 1, by omega, by go_num, H9.out⟩
        case measure => simp [intOf]; omega
      · have hr2 : r = 4 := by omega
        subst hr2
        have hfull : TO w wr b g1 c1 g2 c2 trR (fun j => if j < 0 then trM j else 0) := ⟨hs.res, hs.var, hs.o1.congr (fun j hj => if_pos hj), hs.o2.congr (fun j _ => (if_neg (Nat.not_lt_zero j)).symm), hs.sep, hs.low⟩
        have HF := shade hfull
        clear hs hfull HS
        go_wp2_with fail
        go_loopw [5] (fun q wr => ∃ c : Nat, c ≤ 8 ∧ q = .int .i64 c ∧ TO w wr b g1 c1 g2 c2 trR (fun j => if j < c then trM j else 0)) (fun q _ => 8 - (intOf q).toNat)
        case atStart => exact ⟨0, Nat.zero_le _, rfl, HF.out⟩
        case round =>
          clear HF
          obtain ⟨c, hc, rfl, hs⟩ := hrel
          have HS := shade hs
          by_cases hc8 : c < 8
          · have y2 := hs.var.look 2
            have z0 := hs.o2.nums.cell hc8
            have t0 := World.ownsRow.frozenAt hs.o2 c
            simp at y2 z0
            have c8 : (c : Int) < 8 := by omega
            have hset := hs.set2 (f3 := fun j => if j < c + 1 then trM j else 0) c (trM c) (by simp) (fun j _ hne => by
              by_cases h : j < c
              · rw [if_pos h, if_pos (by omega)]
              · rw [if_neg h, if_neg (by omega)])
            have H9 := shade hset
            clear hs hset
            go_wp2
            go_roundw
            case rel => exact ⟨c + 1, by omega, by go_num, H9.out⟩
            case measure => simp [intOf]; omega
          · have hc2 : c = 8 := by omega
            subst hc2
            have hfull : TO w wr b g1 c1 g2 c2 trR trM := ⟨hs.res, hs.var, hs.o1, hs.o2.congr (fun j hj => if_pos hj), hs.sep, hs.low⟩
            have HF := shade hfull
            have y0 := hs.var.look 0; have y1 := hs.var.look 1; have y2 := hs.var.look 2; have q0 := hs.res.look 0; have q1 := hs.res.look 1; have q2 := hs.res.look 2; have t0 := hs.res.free 0; have t1 := hs.res.free 1; have t2 := hs.res.free 2
            simp at y0 y1 y2 q0 q1 q2
            clear hs hfull HS
            go_wp2_with fail
            have hm := HF.out
            have hs := hm.sep
            have l1 := hm.o1.lt
            have l2 := hm.o2.lt
            have hP := ((hm.res.put 0 (.int .i64 0)).put 1 (.slice (some ⟨g1, 0, none⟩) 4 c1)).put 2 (.slice (some ⟨g2, 0, none⟩) 8 c2)
            simp at hP
            refine bodyPost_ret (results_cell_row rfl _ _ _ _ _ (0, 0) _ rfl hP Tryd.underlying31 rfl (by kernel_rfl)) rfl ?_
            exact ⟨g1, c1, g2, c2, rfl, hs.2.2.2, (((hm.o1.lower (by omega)).far (r := w.heap.size) (by omega) 0 _).far (r := w.heap.size) (by omega) 1 _).far (r := w.heap.size) (by omega) 2 _, (((hm.o2.lower (by omega)).far (r := w.heap.size) (by omega) 0 _).far (r := w.heap.size) (by omega) 1 _).far (r := w.heap.size) (by omega) 2 _, grown_then hm.low (grown_set3 _ _ _ _ _) (Nat.le_refl _)⟩

end Go.Proofs.YtkljjacailgdaaaDoor
