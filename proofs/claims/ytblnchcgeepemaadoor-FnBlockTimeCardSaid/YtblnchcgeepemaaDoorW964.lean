/- WaitsOf, by the program. -/
import Derived.Test.YtblnchcgeepemaaDoorW963
namespace Go.Proofs.YtblnchcgeepemaaDoor
open Go.RowKit
set_option linter.unusedSimpArgs false
set_option maxHeartbeats 1000000 in
theorem IBlockOf_zero (A : Option Addr) (c : Nat) (F : Nat → Ins) (w : World) :
    Calls Tryd.prog 17 #[.slice A 0 c] w (BlkRes 0 F w) := by
  have HV := shade (fun W => IValidBlock_zero A c W)
  have HX := shade (Holds5.fresh w 41 #[.slice none 0 0, .slice none 0 0])
  obtain ⟨i0, hi0, hz0, hz1, hz2⟩ := info_parts info41
  have HI := shade (And.intro hi0 (And.intro hz0 (And.intro hz1 hz2)))
  clear hi0 hz0 hz1 hz2
  go_enter Tryd.func17, Tryd.ntmps17
  go_wp2_with fail
  refine (HV.out _).mono ?_
  rintro e w1 ⟨rfl, hg⟩
  have HX1 := shade (HX.out.grown hg (by intro e; cases e))
  have HG := shade (grown_same (World.grownBy_alloc w _ none) hg)
  have s1 := hg.size
  rw [World.size_alloc] at s1
  clear hg HV HX
  go_wp2_with (first
    | (at_make; refine wpList_make_full _ rfl _ _ 28 rfl w1.heap.size 25 i0 (.slice none 0 0) 1 Tryd.underlying28 HI.out.1 HI.out.2.1 HI.out.2.2.1 .i64 .i64 0 0 0 rfl rfl rfl rfl (by omega) (by unfold maxLen; omega) (Nat.le_refl _) ?_)
    | go_in)
  intro w3 hown3 hgr3
  have s3 := hgr3.size
  have HO3 := shade (World.ownsRow.alloc (World.ownsRow.mono hown3 (show w.heap.size ≤ w1.heap.size by omega)) (.cells #[.slice none 0 0, .slice (some ⟨w1.heap.size, 0, none⟩) 0 0] 41))
  have HX3 := shade ((HX1.out.grown hgr3 (by intro e; cases e)).alloc (.cells #[.slice none 0 0, .slice (some ⟨w1.heap.size, 0, none⟩) 0 0] 41))
  have HB3 := shade (Holds5.fresh w3 41 #[.slice none 0 0, .slice (some ⟨w1.heap.size, 0, none⟩) 0 0])
  have HG3 := shade (grown_same (grown_same HG.out hgr3) (World.grownBy_alloc w3 (.cells #[.slice none 0 0, .slice (some ⟨w1.heap.size, 0, none⟩) 0 0] 41) none))
  clear hown3 hgr3 HX1 HG
  go_wp2_with fail
  obtain ⟨W4, hW4⟩ : ∃ W4, w3.alloc (.cells #[.slice none 0 0, .slice (some ⟨w1.heap.size, 0, none⟩) 0 0] 41) = W4 := ⟨_, rfl⟩
  rw [hW4] at HO3 HX3 HB3 HG3
  simp only [hW4]
  obtain ⟨Bb, hBb⟩ : ∃ Bb, w3.heap.size = Bb := ⟨_, rfl⟩
  obtain ⟨g, hgg⟩ : ∃ g, w1.heap.size = g := ⟨_, rfl⟩
  rw [hgg] at HO3
  rw [hBb, hgg] at HB3
  simp only [hBb, hgg]
  have hlB : w.heap.size < Bb := by omega
  clear hW4 hBb hgg
  refine wp_loop_rounds 1 ?_
  rw [rounds_succ]
  have x0 := HB3.out.look 0; have x1 := HB3.out.look 1
  have z0 := HX3.out.look 0; have z1 := HX3.out.look 1
  have f0 := HX3.out.free 0; have f1 := HX3.out.free 1
  simp at x0 x1 z0 z1
  have hx2 := (HX3.out.put 0 (.slice none 0 0)).put 1 (.slice (some ⟨g, 0, none⟩) 0 0)
  simp at hx2
  have g1 : W4.grownBy ((W4.setCell ⟨w.heap.size, 0, none⟩ (.slice none 0 0)).setCell ⟨w.heap.size, 1, none⟩ (.slice (some ⟨g, 0, none⟩) 0 0)) (some w.heap.size) := grown_same (grown_set w.heap.size 0 (.slice none 0 0)) (grown_set w.heap.size 1 (.slice (some ⟨g, 0, none⟩) 0 0))
  have HG9 := shade (grown_then HG3.out g1 (Nat.le_refl _))
  have HO9 := shade (World.ownsRow.kept HO3.out g1 (.inr (own_not_held HO3.out HX3.out (by decide))))
  have HX9 := shade hx2
  clear hx2 g1
  go_wp2_with fail
  obtain ⟨W2, hW2⟩ : ∃ W2, (W4.setCell ⟨w.heap.size, 0, none⟩ (.slice none 0 0)).setCell ⟨w.heap.size, 1, none⟩ (.slice (some ⟨g, 0, none⟩) 0 0) = W2 := ⟨_, rfl⟩
  rw [hW2] at HG9 HO9 HX9 ⊢
  clear hW2 z0 z1 f0 f1 x0 x1
  have x0 := HX9.out.look 0; have x1 := HX9.out.look 1
  simp at x0 x1
  refine bodyPost_ret (by simp [results, Tryd.results17, go_sem, x0, x1]; try rfl) rfl ?_
  exact ⟨_, _, fun _ => .slice none 0 0, rfl, World.ownsRow_nil _ _ _ _, ⟨⟨(by have h9 := HO9.out; rw [made_nil] at h9; exact h9), fun b hb => (World.ownsRow.lt HO9.out b hb).2⟩, fun j hj => absurd hj (Nat.not_lt_zero j), fun i _ _ hi => absurd hi (Nat.not_lt_zero i)⟩, fun j _ hj => absurd hj (Nat.not_lt_zero j), HG9.out⟩
theorem IBlockOf_any (A : Option Addr) (n c : Nat) (F : Nat → Ins) (w : World) (hw : WT w) (hcap : n ≤ c) (hv : blB n F = true) (h : Code w A n F) :
    Calls Tryd.prog 17 #[.slice A n c] w (BlkRes n F w) := by
  by_cases h0 : n = 0
  · subst h0
    exact IBlockOf_zero A c F w
  · obtain ⟨b, off, rfl, _⟩ := h.resolve_left h0
    exact IBlockOf_yes b off n c F w hw hcap hv h
set_option maxHeartbeats 1000000 in
theorem IWaitsOf_any (A : Option Addr) (n c : Nat) (F : Nat → Ins) (w : World) (hw : WT w) (hn : n ≤ 9223372036854775807) (hcap : n ≤ c) (h : Code w A n F) :
    Calls Tryd.prog 9 #[.slice A n c] w (RwsRes (nB n F) lnW (wtR F) w) := by
  rcases hv : blB n F with _ | _
  · rw [nB_no hv]
    have HB := shade (IBlockOf_no A n c F w hw hv hn h)
    clear h hv
    go_enter Tryd.func9, Tryd.ntmps9
    go_wp2_with fail
    refine HB.out.mono ?_
    rintro e w1 ⟨rfl, hg⟩
    have HG := shade (grown_same hg (World.grownBy_alloc w1 (.cells #[.slice none 0 0, .slice none 0 0] 41) none))
    clear hg
    go_wp2_with fail
    go_ret
    exact RwsRes.nil _ _ _ _ HG.out
  · rw [nB_yes hv]
    have HB := shade (IBlockOf_any A n c F w hw hcap hv h)
    clear h hv
    go_enter Tryd.func9, Tryd.ntmps9
    go_wp2_with fail
    refine HB.out.mono ?_
    rintro e w1 ⟨tv, wv, AS, rfl, ht, hr, -, hg⟩
    obtain ⟨A1, c1, rfl, -⟩ := ownsRow_slice ht
    obtain ⟨A2, c2, rfl, -⟩ := hr.shape
    have HG := shade (grown_same hg (World.grownBy_alloc w1 (.cells #[.slice A1 n c1, .slice A2 n c2] 41) none))
    have HR := shade ((hr.grown (World.grownBy_alloc w1 (.cells #[.slice A1 n c1, .slice A2 n c2] 41) none)).lower (Nat.le_refl _) (World.grownBy_alloc w1 (.cells #[.slice A1 n c1, .slice A2 n c2] 41) none).size)
    clear hg ht hr
    go_wp2_with fail
    go_ret
    exact ⟨_, AS, rfl, HR.out, HG.out⟩
theorem ps_lnW : ∀ K, K ≤ 6 → ps lnW K ≤ 100
  | 0, _ => by show (0:Nat) ≤ 100; omega
  | 1, _ => by decide
  | 2, _ => by decide
  | 3, _ => by decide
  | 4, _ => by decide
  | 5, _ => by decide
  | 6, _ => by decide
  | k + 7, h => by omega
theorem nB_6 (n : Nat) (F : Nat → Ins) : nB n F ≤ 6 := by
  rcases hv : blB n F with _ | _
  · rw [nB_no hv]
    omega
  · rw [nB_yes hv]
    exact blB_6 hv
end Go.Proofs.YtblnchcgeepemaaDoor
