/- Texts of instructions that are drawn: only the reader changes; how long the text of an instruction is. -/
import Derived.Test.YtjbbmnmbcdohiaaDoorW324
import Derived.Test.YtjbbmnmbcdohiaaDoorW24
import Derived.Test.YtjbbmnmbcdohiaaDoorW303
import Derived.Deep.RegionHeld3
import Derived.Laws.Concat
namespace Go.Proofs.YtjbbmnmbcdohiaaDoor
open Go.RowKit
set_option linter.unusedSimpArgs false
/-- What a call leaves that draws a text: it is not too long, and only the reader has changed. -/
def StrOk (M K : Nat) (w : World) (g : Nat) (A : Option Addr) (n cap : Nat) (zs : List Int) (p : Nat) (e : Ending) (w' : World) : Prop :=
  ∃ (s : ByteArray) (q : Nat), s.size ≤ M ∧ q ≤ p + K ∧ e = .returned (.string s) ∧ Rd w' g A n cap zs q ∧ w.grownBy w' (some g)
theorem Rd.drew {A : Option Addr} {n cap g : Nat} {zs : List Int} {p : Nat} {w : World} (h : Rd w g A n cap zs p) : Rd w.drew g A n cap zs p := ⟨h.blk, h.len, h.cap, h.cells, h.rng, h.few⟩
theorem only_drew {w : World} {g : Nat} : w.grownBy w.drew (some g) := ⟨rfl, rfl, rfl, Nat.le_refl _, fun _ _ _ => rfl⟩
set_option maxRecDepth 100000 in
set_option maxHeartbeats 16000000 in
theorem mutate_any {A : Option Addr} {n cap g : Nat} {zs : List Int} {p : Nat} (s : ByteArray) (hs : s.size ≤ 10000) {w : World} (h : Rd w g A n cap zs p) (hp : p + 60 < 1000000) :
    Calls Tryd.prog 43 #[.pointer (some ⟨g, 0, none⟩), .string s] w (StrOk 10010 5 w g A n cap zs p) := by
  have hg := h.blk.inside
  have hR := h
  clear h
  have hT := only_refl w g
  go_enter Tryd.func43, Tryd.ntmps43
  go_wp2_with fail
  refine (pick_rel _ hR (by omega)).mono ?_
  clear hR
  rintro e wk ⟨v, ⟨v0, v1, _⟩, rfl, hR, hG⟩
  replace v1 := v1 (by omega)
  replace hT := only_trans (by first | exact hT | exact only_alloc hT _ | exact only_alloc (only_alloc hT _) _) hG; clear hG
  go_wp2_with fail
  refine (pick_rel _ hR (by omega)).mono ?_
  clear hR
  rintro e wk ⟨c, ⟨c0, c1, _⟩, rfl, hR, hG⟩
  replace c1 := c1 (by omega)
  replace hT := only_trans (by first | exact hT | exact only_alloc hT _ | exact only_alloc (only_alloc hT _) _) hG; clear hG
  have hgl := hR.blk.inside
  have HR := shade hR
  have HT := shade hT
  clear hR hT
  rcases (show c = 0 ∨ c = 1 ∨ c = 2 ∨ c = 3 ∨ c = 4 by omega) with rfl | rfl | rfl | rfl | rfl
  · by_cases hvs : v < (s.size : Int)
    · have hw : IntKind.i64.wrap (v + 1) = v + 1 := by rw [IntKind.wrap_i64]; omega
      have v2 : v ≤ (s.size : Int) := by omega
      have v3 : (0 : Int) ≤ v + 1 := by omega
      have v4 : v + 1 ≤ (s.size : Int) := by omega
      obtain ⟨X, hX⟩ : ∃ X, s.extract 0 v.toNat = X := ⟨_, rfl⟩
      obtain ⟨Z, hZ⟩ : ∃ Z, s.extract (v + 1).toNat s.size = Z := ⟨_, rfl⟩
      have lX : X.size ≤ 10000 := by rw [← hX, ByteArray.size_extract]; omega
      have lZ : Z.size ≤ 10000 := by rw [← hZ, ByteArray.size_extract]; omega
      have lXZ : X.size + Z.size ≤ 10000 := by rw [← hX, ← hZ, ByteArray.size_extract, ByteArray.size_extract]; omega
      have a1 := fun (b : UInt8) (W : World) => run_string_add_sum (P := Tryd.prog) W X (⟨#[b]⟩ : ByteArray) (show X.size + 1 ≤ _ by omega)
      have s1 := fun (b : UInt8) => (show (X ++ (⟨#[b]⟩ : ByteArray)).size = X.size + 1 from ByteArray.size_append)
      have a2 := fun (b : UInt8) (W : World) => run_string_add_sum (P := Tryd.prog) W (X ++ (⟨#[b]⟩ : ByteArray)) Z (by rw [s1]; omega)
      have s2 := fun (b : UInt8) => (show ((X ++ (⟨#[b]⟩ : ByteArray)) ++ Z).size = X.size + 1 + Z.size from ByteArray.size_append.trans (by rw [s1]))
      have S2 := shade s2
      have H0 := shade (Rd.drew HR.out)
      clear s1 s2
      go_wp2_with fail
      go_region_held3 (fun _ => True) (exact trivial)
        (first
          | (go_at_call 55; refine (of_rel (fun s => ∃ b : UInt8, s = ⟨#[b]⟩) (H0.out.alloc _) (by omega) _ _ _ (by omega) (by omega) (by omega) (by have := H0.out.blk.inside; omega) (by intro j hj; rw [show (⟨wk.heap.size, j, none⟩ : Addr) = ⟨wk.drew.heap.size, j, none⟩ from rfl, World.cell?_alloc_new]; rcases (show j = 0 ∨ j = 1 ∨ j = 2 ∨ j = 3 ∨ j = 4 ∨ j = 5 ∨ j = 6 by omega) with rfl | rfl | rfl | rfl | rfl | rfl | rfl <;> exact ⟨_, ⟨_, rfl⟩, rfl⟩)).mono ?_; rintro e w4 ⟨x, ⟨b, rfl⟩, rfl, hR, hG⟩; have HR4 := shade hR; have HT4 := shade (only_trans (only_trans HT.out only_drew) (only_trans (only_alloc (only_refl _ _) _) hG)); clear hR hG))
      go_wp2_with fail
      go_ret
      exact ⟨_, _, by rw [S2.out]; omega, by omega, rfl, HR4.out, HT4.out⟩
    · go_wp2_with fail
      go_ret
      exact ⟨_, _, by omega, by omega, rfl, HR.out, HT.out⟩
  · by_cases hvs : v < (s.size : Int)
    · have hw : IntKind.i64.wrap (v + 1) = v + 1 := by rw [IntKind.wrap_i64]; omega
      have v2 : v ≤ (s.size : Int) := by omega
      have v3 : (0 : Int) ≤ v + 1 := by omega
      have v4 : v + 1 ≤ (s.size : Int) := by omega
      obtain ⟨X, hX⟩ : ∃ X, s.extract 0 v.toNat = X := ⟨_, rfl⟩
      obtain ⟨Z, hZ⟩ : ∃ Z, s.extract (v + 1).toNat s.size = Z := ⟨_, rfl⟩
      have lX : X.size ≤ 10000 := by rw [← hX, ByteArray.size_extract]; omega
      have lZ : Z.size ≤ 10000 := by rw [← hZ, ByteArray.size_extract]; omega
      have lXZ : X.size + Z.size ≤ 10000 := by rw [← hX, ← hZ, ByteArray.size_extract, ByteArray.size_extract]; omega
      have a1 := fun (b : UInt8) (W : World) => run_string_add_sum (P := Tryd.prog) W X (⟨#[b]⟩ : ByteArray) (show X.size + 1 ≤ _ by omega)
      have s1 := fun (b : UInt8) => (show (X ++ (⟨#[b]⟩ : ByteArray)).size = X.size + 1 from ByteArray.size_append)
      have a2 := fun (b : UInt8) (W : World) => run_string_add_sum (P := Tryd.prog) W (X ++ (⟨#[b]⟩ : ByteArray)) Z (by rw [s1]; omega)
      have s2 := fun (b : UInt8) => (show ((X ++ (⟨#[b]⟩ : ByteArray)) ++ Z).size = X.size + 1 + Z.size from ByteArray.size_append.trans (by rw [s1]))
      have S2 := shade s2
      have H0 := shade (Rd.drew HR.out)
      clear s1 s2
      go_wp2_with fail
      go_region_held3 (fun _ => True) (exact trivial)
        (first
          | (go_at_call 55; refine (of_rel (fun s => ∃ b : UInt8, s = ⟨#[b]⟩) (H0.out.alloc _) (by omega) _ _ _ (by omega) (by omega) (by omega) (by have := H0.out.blk.inside; omega) (by intro j hj; rw [show (⟨wk.heap.size, j, none⟩ : Addr) = ⟨wk.drew.heap.size, j, none⟩ from rfl, World.cell?_alloc_new]; rcases (show j = 0 ∨ j = 1 ∨ j = 2 ∨ j = 3 ∨ j = 4 ∨ j = 5 ∨ j = 6 by omega) with rfl | rfl | rfl | rfl | rfl | rfl | rfl <;> exact ⟨_, ⟨_, rfl⟩, rfl⟩)).mono ?_; rintro e w4 ⟨x, ⟨b, rfl⟩, rfl, hR, hG⟩; have HR4 := shade hR; have HT4 := shade (only_trans (only_trans HT.out only_drew) (only_trans (only_alloc (only_refl _ _) _) hG)); clear hR hG))
      go_wp2_with fail
      go_ret
      exact ⟨_, _, by rw [S2.out]; omega, by omega, rfl, HR4.out, HT4.out⟩
    · go_wp2_with fail
      go_ret
      exact ⟨_, _, by omega, by omega, rfl, HR.out, HT.out⟩
  · have v2 : v ≤ (s.size : Int) := by omega
    go_wp2_with fail
    go_ret
    exact ⟨_, _, by rw [ByteArray.size_extract]; omega, by omega, rfl, HR.out, HT.out⟩
  · have hR := HR.out
    have hT := HT.out
    go_wp2_with (first
    | (go_at_call 42
       refine (pick_rel _ (by first | exact hR | exact hR.alloc _ | exact (hR.alloc _).alloc _) (by omega)).mono ?_
       clear hR
       rintro e wk ⟨v, ⟨v0, v1, v2⟩, rfl, hR, hG⟩
       replace v1 := v1 (by omega)
       clear v2
       replace hT := only_trans (by first | exact hT | exact only_alloc hT _ | exact only_alloc (only_alloc hT _) _) hG; clear hG)
    | (go_at_call 54
       refine (one_rel (fun x => 0 ≤ x ∧ x < 256) (by first | exact hR | exact hR.alloc _ | exact (hR.alloc _).alloc _) (by omega) _ _ _ (by omega) (by omega) (by omega) (by have := hR.blk.inside; omega) (by intro j hj; rw [World.cell?_alloc_new]; first | (rcases (show j = 0 ∨ j = 1 ∨ j = 2 ∨ j = 3 by omega) with rfl | rfl | rfl | rfl <;> exact ⟨_, by omega, rfl⟩) | (rcases (show j = 0 ∨ j = 1 ∨ j = 2 by omega) with rfl | rfl | rfl <;> exact ⟨_, by omega, rfl⟩))).mono ?_
       clear hR
       rintro e wk ⟨v, ⟨v0, v1⟩, rfl, hR, hG⟩
       replace hT := only_trans (by first | exact hT | exact only_alloc hT _ | exact only_alloc (only_alloc hT _) _) hG; clear hG)
    | (go_at_call 55
       refine (of_rel (fun s => s.size ≤ 3) (by first | exact hR | exact hR.alloc _ | exact (hR.alloc _).alloc _) (by omega) _ _ _ (by omega) (by omega) (by omega) (by have := hR.blk.inside; omega) (by intro j hj; rw [World.cell?_alloc_new]; first | (rcases (show j = 0 ∨ j = 1 ∨ j = 2 ∨ j = 3 ∨ j = 4 ∨ j = 5 ∨ j = 6 by omega) with rfl | rfl | rfl | rfl | rfl | rfl | rfl <;> exact ⟨_, by decide, rfl⟩) | (rcases (show j = 0 ∨ j = 1 ∨ j = 2 ∨ j = 3 ∨ j = 4 by omega) with rfl | rfl | rfl | rfl | rfl <;> exact ⟨_, by decide, rfl⟩) | (rcases (show j = 0 ∨ j = 1 ∨ j = 2 ∨ j = 3 by omega) with rfl | rfl | rfl | rfl <;> exact ⟨_, by decide, rfl⟩))).mono ?_
       clear hR
       rintro e wk ⟨v, v0, rfl, hR, hG⟩
       replace hT := only_trans (by first | exact hT | exact only_alloc hT _ | exact only_alloc (only_alloc hT _) _) hG; clear hG))
    go_ret
    exact ⟨_, _, by rw [ByteArray.size_append]; omega, by omega, rfl, hR, hT⟩
  · go_wp2_with fail
    go_ret
    exact ⟨_, _, by omega, by omega, rfl, HR.out, HT.out⟩
theorem flat_len5 (f : UInt8 → List UInt8) (h : ∀ c, (f c).length ≤ 5) : ∀ l : List UInt8, (l.flatMap f).length ≤ 5 * l.length
  | [] => Nat.zero_le _
  | c :: l => by
    have := flat_len5 f h l
    have := h c
    simp only [List.flatMap_cons, List.length_append, List.length_cons]
    omega
theorem showL_len5 {l : List UInt8} {d a b k : Int} (h : vB l d a b k = true) : (showL l d a b k).length ≤ 18 := by
  rw [showL, if_pos h]
  obtain ⟨d, a, b, k, rfl, rfl, rfl, rfl, hd, ha, hb, hk, hw0, hw1⟩ := VI_nat h
  obtain ⟨n, hn⟩ := Int.eq_ofNat_of_zero_le hw0
  have hl : l.length ≤ 3 := by
    have h1 := op_is (tx l) n (by omega) (by rw [tx_toList]; exact hn)
    have h2 := wT_size n
    rw [← h1, tx_size] at h2
    exact h2
  rw [hn, Int.toNat_natCast, instT, List.length_append]
  have h3 := flat_len5 (partT d a b k) (fun ch => by
    obtain ⟨m, hm, hm1⟩ := partV_nat d a b k ch.toNat hd ha hb hk
    have := nml m hm1
    unfold partT
    rw [hm, Int.toNat_natCast, List.length_cons, List.length_append]
    split
    · simp only [List.length_nil]
      omega
    · simp only [List.length_cons, List.length_nil]
      omega) (namesN n).data.toList
  have h4 := names_len n
  omega
theorem below_of_only {w w' : World} {g : Nat} (h : w.grownBy w' (some g)) (B : Nat) (hB : B ≤ g) (hw : B ≤ w.heap.size) : Below B w w' :=
  ⟨h.os, h.tape, h.output, h.size, fun i hi => h.block i (by omega) (by intro e; injection e; omega)⟩
theorem Rd.onN {w w2 : World} {g : Nat} {A : Option Addr} {n cap : Nat} {zs : List Int} {p : Nat} (h : Rd w g A n cap zs p) (hG : w.grownBy w2 none) : Rd w2 g A n cap zs p := by
  refine ⟨h.blk.grown hG (by intro e; cases e), h.len, h.cap, fun hn => ?_, h.rng, h.few⟩
  obtain ⟨b, off, hA, hbg, hc⟩ := h.cells hn
  exact ⟨b, off, hA, hbg, fun j hj => hG.cell (hc j hj) (by intro e; cases e)⟩
theorem only_more {a b c : World} {g : Nat} (h : a.grownBy b (some g)) (h' : b.grownBy c none) : a.grownBy c (some g) :=
  ⟨h'.os.trans h.os, h'.tape.trans h.tape, h'.output.trans h.output, Nat.le_trans h.size h'.size, fun i hi hne => (h'.block i (Nat.lt_of_lt_of_le hi h.size) (by simp)).trans (h.block i hi hne)⟩
set_option maxHeartbeats 1000000 in
theorem DrawReadInstr_any (A : Option Addr) (n cap : Nat) (zs : List Int) (w : World) (h : Bys w A n cap zs) :
    Calls Tryd.prog 13 #[.slice A n cap] w fun e w' => ∃ l : List UInt8, l.length ≤ 10010 ∧ e = .returned (.string (tx l)) ∧ w.grownBy w' none := by
  have HN := shade (newReader_any A n cap zs w h)
  clear h
  go_enter Tryd.func13, Tryd.ntmps13
  go_wp2_with fail
  refine HN.out.mono ?_
  rintro e w1 ⟨m, rfl, hR, hb⟩
  have HR := shade hR
  have HB := shade hb
  clear hR hb HN
  go_wp2_with fail
  refine (goodInstr_ok 12 (by omega) (by omega) HR.out (by omega)).mono ?_
  rintro e w2 ⟨op, d, a, b, k, q, hq, rfl, hR, hG, hv⟩
  have HT := shade hG
  have HR2 := shade hR
  have HS := shade (fun W => specshow_is op d a b k W hv)
  have hl := showL_len5 hv
  obtain ⟨X, hX⟩ : ∃ X, showL op.toList d a b k = X := ⟨_, rfl⟩
  rw [hX] at HS hl
  clear hR hG HR hv hX
  go_wp2_with fail
  refine (HS.out _).mono ?_
  rintro e w3 ⟨rfl, hg⟩
  have HT3 := shade (only_more HT.out hg)
  have HR3 := shade (HR2.out.onN hg)
  clear hg HT HR2 HS
  go_wp2_with fail
  refine (pick_rel 4 HR3.out (by omega)).mono ?_
  rintro e w4 ⟨y, ⟨y0, y1, _⟩, rfl, hR, hG⟩
  have HT4 := shade (only_trans HT3.out hG)
  have HR4 := shade hR
  clear hR hG HT3 HR3 y1
  by_cases hy : y = 0
  · subst hy
    have hz := tx_size X
    go_wp2_with fail
    refine (mutate_any (tx X) (by omega) HR4.out (by omega)).mono ?_
    rintro e w5 ⟨s, q5, hs, hq5, rfl, hR, hG⟩
    have HG := shade (grown_of_below (HB.out.trans (below_of_only (only_trans HT4.out hG) w.heap.size (Nat.le_refl _) HB.out.size)))
    clear hR hG
    go_wp2_with fail
    go_ret
    exact ⟨s.data.toList, (by show s.size ≤ 10010; exact hs), rfl, HG.out⟩
  · have HG := shade (grown_of_below (HB.out.trans (below_of_only HT4.out w.heap.size (Nat.le_refl _) HB.out.size)))
    go_wp2_with fail
    go_ret
    exact ⟨X, by omega, rfl, HG.out⟩
theorem Bys.alloc {w : World} {A : Option Addr} {n cap : Nat} {zs : List Int} (h : Bys w A n cap zs) (o : Obj) : Bys (w.alloc o) A n cap zs := by
  refine ⟨h.fits, h.big, fun hn => ?_, h.rng⟩
  obtain ⟨b, off, hA, hb, hc⟩ := h.cells hn
  exact ⟨b, off, hA, by simp; omega, fun j hj => (World.cell?_alloc_some w _ o (by rw [hc j hj]; rfl)).trans (hc j hj)⟩
set_option maxHeartbeats 1000000 in
theorem DrawShowInstr_any (A : Option Addr) (n cap : Nat) (zs : List Int) (w : World) (h : Bys (w.alloc (.cells #[.string ⟨#[]⟩, .int .i64 0, .int .i64 0, .int .i64 0, .int .i64 0] 24)) A n cap zs) :
    Calls Tryd.prog 9 #[.slice A n cap] w (DrawOk w) := by
  have HN := shade (newReader_any A n cap zs _ h)
  clear h
  go_enter Tryd.func9, Tryd.ntmps9
  go_wp2_with fail
  refine HN.out.mono ?_
  rintro e w1 ⟨m, rfl, hR, hb1⟩
  rw [World.size_alloc] at hR
  have hZ := (Holds5.fresh w 24 #[.string ⟨#[]⟩, .int .i64 0, .int .i64 0, .int .i64 0, .int .i64 0]).below hb1 (by simp)
  have hlt := hR.blk.inside
  have HB1 := shade (show Below w.heap.size w w1 from ((Below.refl _ _).alloc (Nat.le_refl _) _).trans (hb1.mono (by simp)))
  have HS := shade (someInstr_any hR (by omega))
  clear hb1 hR
  go_wp2_with fail
  refine HS.out.mono ?_
  rintro e w2 ⟨op, d, a, b, k, q, hq, rfl, hR, hG⟩
  have hZ2 := hZ.grown hG (by intro e; injection e with e; simp at e)
  have hB2 : Below w.heap.size w w2 := HB1.out.grown hG HB1.out.size (by intro g hg; injection hg with hg; subst hg; simp)
  have r0 := hZ2.look 0; have r1 := hZ2.look 1; have r2 := hZ2.look 2; have r3 := hZ2.look 3; have r4 := hZ2.look 4
  have f0 := hZ2.free 0; have f1 := hZ2.free 1; have f2 := hZ2.free 2; have f3 := hZ2.free 3; have f4 := hZ2.free 4
  simp at r0 r1 r2 r3 r4
  clear hR hG hZ
  have HB2 := shade hB2
  clear hB2
  go_wp2_with fail
  refine bodyPost_ret (results_cell_row rfl _ _ _ _ _ (0, 0) _ rfl (Holds5.five hZ2 _ _ _ _ _) Tryd.underlying24 rfl (by kernel_rfl)) rfl ?_
  have hB := HB2.out
  exact ⟨op, d, a, b, k, rfl, by go_grown⟩
end Go.Proofs.YtjbbmnmbcdohiaaDoor
