/- The rest of a number, and the state of a machine of four registers and eight cells. The model's ValidMachine: what it answers, for every machine whose numbers can be read. -/
import Derived.Test.YtcfnoihjpiklhaaDoorW34
import Derived.Test.YtcfnoihjpiklhaaDoorW52
namespace Go.Proofs.YtcfnoihjpiklhaaDoor
open Go.RowKit
/-- A state's cells. -/
def stC (at' : Int) (f1 f2 : Nat → Int) : Array Value := #[.int .i64 at', .int .i64 (f1 0), .int .i64 (f1 1), .int .i64 (f1 2), .int .i64 (f1 3), .int .i64 (f2 0), .int .i64 (f2 1), .int .i64 (f2 2), .int .i64 (f2 3), .int .i64 (f2 4), .int .i64 (f2 5), .int .i64 (f2 6), .int .i64 (f2 7)]


theorem tm_bounds (x : Int) : -256 < Int.tmod x 256 ∧ Int.tmod x 256 < 256 ∧ (Int.tmod x 256 + 256) % 256 = x % 256 := by
  have h := Int.mul_tdiv_add_tmod x 256
  by_cases hx : 0 ≤ x
  · have h1 := Int.tmod_nonneg 256 hx
    have h2 := Int.tmod_lt_of_pos x (show (0 : Int) < 256 by omega)
    omega
  · have h1 := Int.tmod_nonneg 256 (show 0 ≤ -x by omega)
    have h2 := Int.tmod_lt_of_pos (-x) (show (0 : Int) < 256 by omega)
    rw [Int.neg_tmod] at h1 h2
    omega
set_option maxHeartbeats 1000000 in
theorem rest_any (x : Int) (w : World) : Calls Tryd.prog 59 #[.int .i64 x] w fun e w' => e = .returned (.int .i64 (x % 256)) ∧ w = w' := by
  obtain ⟨h1, h2, ht⟩ := tm_bounds x
  have HT := shade ht
  clear ht
  generalize hy : Int.tmod x 256 = y at *
  have h3 : 0 ≤ y + 256 := by omega
  go_enter Tryd.func59, Tryd.ntmps59
  go_wp2
  refine bodyPost_ret (results_tmp rfl _ _ _) rfl ⟨?_, rfl⟩
  rw [← HT.out]
  rfl


/-- What stands while a state is made: the machine's box, the result's block, the state's block, the numbers that are read. -/
structure SO (w wr : World) (B : Nat) (at' : Int) (A1 A2 : Option Addr) (c1 c2 : Nat) (f1 f2 h1 h2 : Nat → Int) : Prop where
  box : Holds5 wr B 26 #[.int .i64 at', .slice A1 4 c1, .slice A2 8 c2]
  res : Holds5 wr (B + 1) 60 #[.int .i64 0, .int .i64 0, .int .i64 0, .int .i64 0, .int .i64 0, .int .i64 0, .int .i64 0, .int .i64 0, .int .i64 0, .int .i64 0, .int .i64 0, .int .i64 0, .int .i64 0]
  st : Holds5 wr (B + 2) 60 (stC at' h1 h2)
  n1 : Nums wr A1 4 f1
  n2 : Nums wr A2 8 f2
  low : w.grownBy wr none
  size : w.heap.size ≤ B
theorem Holds5.far {w : World} {g r : Nat} {t : TypeId} {cs : Array Value} (h : Holds5 w g t cs) (hne : g ≠ r) (o : Nat) (u : Value) : Holds5 (w.setCell ⟨r, o, none⟩ u) g t cs := h.other (p := ⟨r, o, none⟩) hne u
theorem Nums.far {w : World} {A : Option Addr} {n r : Nat} {f : Nat → Int} (h : Nums w A n f) (hne : ∀ b off, A = some ⟨b, off, none⟩ → b ≠ r) (o : Nat) (u : Value) : Nums (w.setCell ⟨r, o, none⟩ u) A n f :=
  h.grown (grown_set r o u) (fun b off e h => by
    injection h with h
    exact hne b off e h)
theorem stC_set1 (at' : Int) (h1 h2 : Nat → Int) (k : Nat) (hk : k < 4) (x : Int) : (stC at' h1 h2).setIfInBounds (1 + k) (.int .i64 x) = stC at' (fun j => if j = k then x else h1 j) h2 := by
  match k, hk with
  | 0, _ => rfl
  | 1, _ => rfl
  | 2, _ => rfl
  | 3, _ => rfl
theorem stC_set2 (at' : Int) (h1 h2 : Nat → Int) (k : Nat) (hk : k < 8) (x : Int) : (stC at' h1 h2).setIfInBounds (5 + k) (.int .i64 x) = stC at' h1 (fun j => if j = k then x else h2 j) := by
  match k, hk with
  | 0, _ => rfl
  | 1, _ => rfl
  | 2, _ => rfl
  | 3, _ => rfl
  | 4, _ => rfl
  | 5, _ => rfl
  | 6, _ => rfl
  | 7, _ => rfl
theorem stC_get1 (at' : Int) (h1 h2 : Nat → Int) (k : Nat) (hk : k < 4) : (stC at' h1 h2)[1 + k]? = some (.int .i64 (h1 k)) := by
  match k, hk with
  | 0, _ => rfl
  | 1, _ => rfl
  | 2, _ => rfl
  | 3, _ => rfl
theorem stC_get2 (at' : Int) (h1 h2 : Nat → Int) (k : Nat) (hk : k < 8) : (stC at' h1 h2)[5 + k]? = some (.int .i64 (h2 k)) := by
  match k, hk with
  | 0, _ => rfl
  | 1, _ => rfl
  | 2, _ => rfl
  | 3, _ => rfl
  | 4, _ => rfl
  | 5, _ => rfl
  | 6, _ => rfl
  | 7, _ => rfl
theorem stC_congr (at' : Int) (h1 h2 k1 k2 : Nat → Int) (e1 : ∀ j, j < 4 → h1 j = k1 j) (e2 : ∀ j, j < 8 → h2 j = k2 j) : stC at' h1 h2 = stC at' k1 k2 := by
  unfold stC
  rw [e1 0 (by omega), e1 1 (by omega), e1 2 (by omega), e1 3 (by omega), e2 0 (by omega), e2 1 (by omega), e2 2 (by omega), e2 3 (by omega), e2 4 (by omega), e2 5 (by omega), e2 6 (by omega), e2 7 (by omega)]
/-- The numbers that are read lie below B. -/
def NumsLow (A : Option Addr) (B : Nat) : Prop := ∀ b off, A = some ⟨b, off, none⟩ → b < B
theorem SO.put1 {w wr : World} {B : Nat} {at' : Int} {A1 A2 : Option Addr} {c1 c2 : Nat} {f1 f2 h1 h2 : Nat → Int} (h : SO w wr B at' A1 A2 c1 c2 f1 f2 h1 h2) (l1 : NumsLow A1 B) (l2 : NumsLow A2 B) (k : Nat) (hk : k < 4) (x : Int) :
    SO w (wr.setCell ⟨B + 2, 1 + k, none⟩ (.int .i64 x)) B at' A1 A2 c1 c2 f1 f2 (fun j => if j = k then x else h1 j) h2 := by
  refine ⟨h.box.far (by omega) _ _, h.res.far (by omega) _ _, ?_, h.n1.far (fun b off e => by have := l1 b off e; omega) _ _, h.n2.far (fun b off e => by have := l2 b off e; omega) _ _, grown_put h.low (by have := h.size; omega) _ _, h.size⟩
  have := h.st.put (1 + k) (.int .i64 x)
  rw [stC_set1 at' h1 h2 k hk x] at this
  exact this
theorem SO.put2 {w wr : World} {B : Nat} {at' : Int} {A1 A2 : Option Addr} {c1 c2 : Nat} {f1 f2 h1 h2 : Nat → Int} (h : SO w wr B at' A1 A2 c1 c2 f1 f2 h1 h2) (l1 : NumsLow A1 B) (l2 : NumsLow A2 B) (k : Nat) (hk : k < 8) (x : Int) :
    SO w (wr.setCell ⟨B + 2, 5 + k, none⟩ (.int .i64 x)) B at' A1 A2 c1 c2 f1 f2 h1 (fun j => if j = k then x else h2 j) := by
  refine ⟨h.box.far (by omega) _ _, h.res.far (by omega) _ _, ?_, h.n1.far (fun b off e => by have := l1 b off e; omega) _ _, h.n2.far (fun b off e => by have := l2 b off e; omega) _ _, grown_put h.low (by have := h.size; omega) _ _, h.size⟩
  have := h.st.put (5 + k) (.int .i64 x)
  rw [stC_set2 at' h1 h2 k hk x] at this
  exact this
theorem SO.congr {w wr : World} {B : Nat} {at' : Int} {A1 A2 : Option Addr} {c1 c2 : Nat} {f1 f2 h1 h2 k1 k2 : Nat → Int} (h : SO w wr B at' A1 A2 c1 c2 f1 f2 h1 h2) (e1 : ∀ j, j < 4 → h1 j = k1 j) (e2 : ∀ j, j < 8 → h2 j = k2 j) :
    SO w wr B at' A1 A2 c1 c2 f1 f2 k1 k2 := ⟨h.box, h.res, by rw [← stC_congr at' h1 h2 k1 k2 e1 e2]; exact h.st, h.n1, h.n2, h.low, h.size⟩
set_option maxHeartbeats 4000000 in
theorem stateOf_any (at' : Int) (b1 o1 b2 o2 c1 c2 : Nat) (f1 f2 : Nat → Int) (w : World) (h1 : Nums w (some ⟨b1, o1, none⟩) 4 f1) (h2 : Nums w (some ⟨b2, o2, none⟩) 8 f2) :
    Calls Tryd.prog 48 #[MV at' (some ⟨b1, o1, none⟩) 4 c1 (some ⟨b2, o2, none⟩) 8 c2] w fun e w' => e = .returned (SV at' (fun j => f1 j % 256) (fun j => f2 j % 256)) ∧ w.grownBy w' none := by
  have L1 : NumsLow (some ⟨b1, o1, none⟩) w.heap.size := fun b off e => by
    rcases h1 with h | ⟨b', off', hA, hb, _⟩
    · omega
    · rw [hA] at e
      injection e with e
      injection e with e
      omega
  have L2 : NumsLow (some ⟨b2, o2, none⟩) w.heap.size := fun b off e => by
    rcases h2 with h | ⟨b', off', hA, hb, _⟩
    · omega
    · rw [hA] at e
      injection e with e
      injection e with e
      omega
  obtain ⟨W1, hW1⟩ : ∃ W1 : World, ((w.alloc (.cells #[.int .i64 at', .slice (some ⟨b1, o1, none⟩) 4 c1, .slice (some ⟨b2, o2, none⟩) 8 c2] 26)).alloc (.cells #[.int .i64 0, .int .i64 0, .int .i64 0, .int .i64 0, .int .i64 0, .int .i64 0, .int .i64 0, .int .i64 0, .int .i64 0, .int .i64 0, .int .i64 0, .int .i64 0, .int .i64 0] 60)).alloc (.cells #[.int .i64 at', .int .i64 0, .int .i64 0, .int .i64 0, .int .i64 0, .int .i64 0, .int .i64 0, .int .i64 0, .int .i64 0, .int .i64 0, .int .i64 0, .int .i64 0, .int .i64 0] 60) = W1 := ⟨_, rfl⟩
  have hS1 : SO w W1 w.heap.size at' (some ⟨b1, o1, none⟩) (some ⟨b2, o2, none⟩) c1 c2 f1 f2 (fun _ => 0) (fun _ => 0) := by
    have e1 := (Holds5.fresh w 26 #[.int .i64 at', .slice (some ⟨b1, o1, none⟩) 4 c1, .slice (some ⟨b2, o2, none⟩) 8 c2]).alloc (.cells #[.int .i64 0, .int .i64 0, .int .i64 0, .int .i64 0, .int .i64 0, .int .i64 0, .int .i64 0, .int .i64 0, .int .i64 0, .int .i64 0, .int .i64 0, .int .i64 0, .int .i64 0] 60) |>.alloc (.cells #[.int .i64 at', .int .i64 0, .int .i64 0, .int .i64 0, .int .i64 0, .int .i64 0, .int .i64 0, .int .i64 0, .int .i64 0, .int .i64 0, .int .i64 0, .int .i64 0, .int .i64 0] 60)
    have e2 := (Holds5.fresh (w.alloc (.cells #[.int .i64 at', .slice (some ⟨b1, o1, none⟩) 4 c1, .slice (some ⟨b2, o2, none⟩) 8 c2] 26)) 60 #[.int .i64 0, .int .i64 0, .int .i64 0, .int .i64 0, .int .i64 0, .int .i64 0, .int .i64 0, .int .i64 0, .int .i64 0, .int .i64 0, .int .i64 0, .int .i64 0, .int .i64 0]).alloc (.cells #[.int .i64 at', .int .i64 0, .int .i64 0, .int .i64 0, .int .i64 0, .int .i64 0, .int .i64 0, .int .i64 0, .int .i64 0, .int .i64 0, .int .i64 0, .int .i64 0, .int .i64 0] 60)
    have e3 := Holds5.fresh ((w.alloc (.cells #[.int .i64 at', .slice (some ⟨b1, o1, none⟩) 4 c1, .slice (some ⟨b2, o2, none⟩) 8 c2] 26)).alloc (.cells #[.int .i64 0, .int .i64 0, .int .i64 0, .int .i64 0, .int .i64 0, .int .i64 0, .int .i64 0, .int .i64 0, .int .i64 0, .int .i64 0, .int .i64 0, .int .i64 0, .int .i64 0] 60)) 60 #[.int .i64 at', .int .i64 0, .int .i64 0, .int .i64 0, .int .i64 0, .int .i64 0, .int .i64 0, .int .i64 0, .int .i64 0, .int .i64 0, .int .i64 0, .int .i64 0, .int .i64 0]
    have e4 := grown_same (grown_same (World.grownBy_alloc w (.cells #[.int .i64 at', .slice (some ⟨b1, o1, none⟩) 4 c1, .slice (some ⟨b2, o2, none⟩) 8 c2] 26) none) (World.grownBy_alloc _ (.cells #[.int .i64 0, .int .i64 0, .int .i64 0, .int .i64 0, .int .i64 0, .int .i64 0, .int .i64 0, .int .i64 0, .int .i64 0, .int .i64 0, .int .i64 0, .int .i64 0, .int .i64 0] 60) none)) (World.grownBy_alloc _ (.cells #[.int .i64 at', .int .i64 0, .int .i64 0, .int .i64 0, .int .i64 0, .int .i64 0, .int .i64 0, .int .i64 0, .int .i64 0, .int .i64 0, .int .i64 0, .int .i64 0, .int .i64 0] 60) none)
    have e5 := ((h1.alloc (.cells #[.int .i64 at', .slice (some ⟨b1, o1, none⟩) 4 c1, .slice (some ⟨b2, o2, none⟩) 8 c2] 26)).alloc (.cells #[.int .i64 0, .int .i64 0, .int .i64 0, .int .i64 0, .int .i64 0, .int .i64 0, .int .i64 0, .int .i64 0, .int .i64 0, .int .i64 0, .int .i64 0, .int .i64 0, .int .i64 0] 60)).alloc (.cells #[.int .i64 at', .int .i64 0, .int .i64 0, .int .i64 0, .int .i64 0, .int .i64 0, .int .i64 0, .int .i64 0, .int .i64 0, .int .i64 0, .int .i64 0, .int .i64 0, .int .i64 0] 60)
    have e6 := ((h2.alloc (.cells #[.int .i64 at', .slice (some ⟨b1, o1, none⟩) 4 c1, .slice (some ⟨b2, o2, none⟩) 8 c2] 26)).alloc (.cells #[.int .i64 0, .int .i64 0, .int .i64 0, .int .i64 0, .int .i64 0, .int .i64 0, .int .i64 0, .int .i64 0, .int .i64 0, .int .i64 0, .int .i64 0, .int .i64 0, .int .i64 0] 60)).alloc (.cells #[.int .i64 at', .int .i64 0, .int .i64 0, .int .i64 0, .int .i64 0, .int .i64 0, .int .i64 0, .int .i64 0, .int .i64 0, .int .i64 0, .int .i64 0, .int .i64 0, .int .i64 0] 60)
    rw [World.size_alloc] at e2 e3
    rw [World.size_alloc] at e3
    rw [hW1] at e1 e2 e3 e4 e5 e6
    exact ⟨e1, e2, e3, e5, e6, e4, Nat.le_refl _⟩
  have HW1 := shade hW1
  have HS1 := shade hS1
  have HL1 := shade L1
  have HL2 := shade L2
  have x0 := hS1.box.look 0; have x1 := hS1.box.look 1; have x2 := hS1.box.look 2
  simp at x0 x1 x2
  clear hW1 hS1 L1 L2 h1 h2
  go_enter Tryd.func48, Tryd.ntmps48
  go_wp2_with fail
  rw [HW1.out]
  clear HW1
  go_wp2_with fail
  clear x0 x1 x2
  go_loopw [13] (fun i wr => ∃ k : Nat, k ≤ 4 ∧ i = .int .i64 k ∧ SO w wr w.heap.size at' (some ⟨b1, o1, none⟩) (some ⟨b2, o2, none⟩) c1 c2 f1 f2 (fun j => if j < k then f1 j % 256 else 0) (fun _ => 0)) (fun i _ => 4 - (intOf i).toNat)
  case atStart => exact ⟨0, Nat.zero_le _, rfl, HS1.out.congr (fun j _ => by rw [if_neg (by omega)]) (fun _ _ => rfl)⟩
  case round =>
    obtain ⟨k, hk, rfl, hso⟩ := hrel
    have x1 := hso.box.look 1; have x2 := hso.box.look 2
    simp at x1 x2
    by_cases hkn : k < 4
    · have q1 := hso.n1.cell hkn
      have q2 := hso.st.look (1 + k)
      rw [stC_get1 _ _ _ k hkn] at q2
      have q3 := hso.st.free (1 + k)
      have HO := shade hso
      clear hso
      go_wp2_with (first | (go_at_call 59; refine (rest_any _ _).mono ?_; rintro e w' ⟨rfl, rfl⟩))
      go_roundw
      case rel =>
        have hs := HO.out.put1 HL1.out HL2.out k hkn (f1 k % 256)
        exact ⟨k + 1, by omega, by go_num, hs.congr (fun j _ => by
          show (if j = k then f1 k % 256 else if j < k then f1 j % 256 else 0) = (if j < k + 1 then f1 j % 256 else 0)
          by_cases e : j = k
          · rw [if_pos e, if_pos (by omega), e]
          · rw [if_neg e]
            by_cases h : j < k
            · rw [if_pos h, if_pos (by omega)]
            · rw [if_neg h, if_neg (by omega)]) (fun _ _ => rfl)⟩
      case measure => simp [intOf]; omega
    · have hkn2 : k = 4 := by omega
      subst hkn2
      have HO := shade (hso.congr (k1 := fun j => f1 j % 256) (fun j hj => by rw [if_pos hj]) (fun _ _ => rfl))
      clear hso hk hkn
      go_wp2_with fail
      clear x1 x2
      go_loopw [30] (fun i wr => ∃ k : Nat, k ≤ 8 ∧ i = .int .i64 k ∧ SO w wr w.heap.size at' (some ⟨b1, o1, none⟩) (some ⟨b2, o2, none⟩) c1 c2 f1 f2 (fun j => f1 j % 256) (fun j => if j < k then f2 j % 256 else 0)) (fun i _ => 8 - (intOf i).toNat)
      case atStart => exact ⟨0, Nat.zero_le _, rfl, HO.out.congr (fun _ _ => rfl) (fun j _ => by rw [if_neg (by omega)])⟩
      case round =>
        clear HO
        obtain ⟨k, hk, rfl, hso⟩ := hrel
        have x1 := hso.box.look 1; have x2 := hso.box.look 2
        simp at x1 x2
        by_cases hkn : k < 8
        · have q1 := hso.n2.cell hkn
          have q2 := hso.st.look (5 + k)
          rw [stC_get2 _ _ _ k hkn] at q2
          have q3 := hso.st.free (5 + k)
          have HO := shade hso
          clear hso
          go_wp2_with (first | (go_at_call 59; refine (rest_any _ _).mono ?_; rintro e w' ⟨rfl, rfl⟩))
          go_roundw
          case rel =>
            have hs := HO.out.put2 HL1.out HL2.out k hkn (f2 k % 256)
            refine ⟨_, _, _, _, _, _, _, _, _, _, _, _, _, _, ⟨k + 1, by omega, rfl, ?_⟩, rfl⟩
            exact hs.congr (fun _ _ => rfl) (fun j _ => by
              show (if j = k then f2 k % 256 else if j < k then f2 j % 256 else 0) = (if j < k + 1 then f2 j % 256 else 0)
              by_cases e : j = k
              · rw [if_pos e, if_pos (by omega), e]
              · rw [if_neg e]
                by_cases h : j < k
                · rw [if_pos h, if_pos (by omega)]
                · rw [if_neg h, if_neg (by omega)])
          case measure => simp [intOf]; omega
        · have hkn2 : k = 8 := by omega
          subst hkn2
          have HO := shade (hso.congr (k2 := fun j => f2 j % 256) (fun _ _ => rfl) (fun j hj => by rw [if_pos hj]))
          clear hso hk hkn x1 x2
          have y0 := HO.out.st.look 0; have y1 := HO.out.st.look 1; have y2 := HO.out.st.look 2; have y3 := HO.out.st.look 3; have y4 := HO.out.st.look 4; have y5 := HO.out.st.look 5; have y6 := HO.out.st.look 6; have y7 := HO.out.st.look 7; have y8 := HO.out.st.look 8; have y9 := HO.out.st.look 9; have y10 := HO.out.st.look 10; have y11 := HO.out.st.look 11; have y12 := HO.out.st.look 12
          simp [stC] at y0 y1 y2 y3 y4 y5 y6 y7 y8 y9 y10 y11 y12
          have z0 := HO.out.res.look 0; have t0 := HO.out.res.free 0; have z1 := HO.out.res.look 1; have t1 := HO.out.res.free 1; have z2 := HO.out.res.look 2; have t2 := HO.out.res.free 2; have z3 := HO.out.res.look 3; have t3 := HO.out.res.free 3; have z4 := HO.out.res.look 4; have t4 := HO.out.res.free 4; have z5 := HO.out.res.look 5; have t5 := HO.out.res.free 5; have z6 := HO.out.res.look 6; have t6 := HO.out.res.free 6; have z7 := HO.out.res.look 7; have t7 := HO.out.res.free 7; have z8 := HO.out.res.look 8; have t8 := HO.out.res.free 8; have z9 := HO.out.res.look 9; have t9 := HO.out.res.free 9; have z10 := HO.out.res.look 10; have t10 := HO.out.res.free 10; have z11 := HO.out.res.look 11; have t11 := HO.out.res.free 11; have z12 := HO.out.res.look 12; have t12 := HO.out.res.free 12
          simp at z0 z1 z2 z3 z4 z5 z6 z7 z8 z9 z10 z11 z12
          go_wp2_with fail
          have hP := (((((((((((((HO.out.res.put 0 (.int .i64 at')).put 1 (.int .i64 (f1 0 % 256))).put 2 (.int .i64 (f1 1 % 256))).put 3 (.int .i64 (f1 2 % 256))).put 4 (.int .i64 (f1 3 % 256))).put 5 (.int .i64 (f2 0 % 256))).put 6 (.int .i64 (f2 1 % 256))).put 7 (.int .i64 (f2 2 % 256))).put 8 (.int .i64 (f2 3 % 256))).put 9 (.int .i64 (f2 4 % 256))).put 10 (.int .i64 (f2 5 % 256))).put 11 (.int .i64 (f2 6 % 256))).put 12 (.int .i64 (f2 7 % 256)))
          have hG := (grown_put (r := w.heap.size + 1) (grown_put (r := w.heap.size + 1) (grown_put (r := w.heap.size + 1) (grown_put (r := w.heap.size + 1) (grown_put (r := w.heap.size + 1) (grown_put (r := w.heap.size + 1) (grown_put (r := w.heap.size + 1) (grown_put (r := w.heap.size + 1) (grown_put (r := w.heap.size + 1) (grown_put (r := w.heap.size + 1) (grown_put (r := w.heap.size + 1) (grown_put (r := w.heap.size + 1) (grown_put (r := w.heap.size + 1) HO.out.low (by omega) 0 (.int .i64 at')) (by omega) 1 (.int .i64 (f1 0 % 256))) (by omega) 2 (.int .i64 (f1 1 % 256))) (by omega) 3 (.int .i64 (f1 2 % 256))) (by omega) 4 (.int .i64 (f1 3 % 256))) (by omega) 5 (.int .i64 (f2 0 % 256))) (by omega) 6 (.int .i64 (f2 1 % 256))) (by omega) 7 (.int .i64 (f2 2 % 256))) (by omega) 8 (.int .i64 (f2 3 % 256))) (by omega) 9 (.int .i64 (f2 4 % 256))) (by omega) 10 (.int .i64 (f2 5 % 256))) (by omega) 11 (.int .i64 (f2 6 % 256))) (by omega) 12 (.int .i64 (f2 7 % 256)))
          simp at hP
          refine bodyPost_ret (results_cell_row rfl _ _ _ _ _ (0, 0) _ rfl hP Tryd.underlying60 rfl (by kernel_rfl)) rfl ?_
          exact ⟨rfl, hG⟩

end Go.Proofs.YtcfnoihjpiklhaaDoor
namespace Go.Proofs.YtcfnoihjpiklhaaDoor
open Go.RowKit
/-- Is it in the range? -/
def inRB (n lo hi : Int) : Bool := decide (lo ≤ n) && decide (n ≤ hi)
set_option maxHeartbeats 1000000 in
theorem inRB_any (n lo hi : Int) (w : World) :
    Calls Tryd.prog 51 #[.int .i64 n, .int .i64 lo, .int .i64 hi] w fun e w' => e = .returned (.bool (inRB n lo hi)) ∧ w = w' := by
  go_enter Tryd.func51, Tryd.ntmps51
  go_wp2
  all_goals
    go_ret
    exact ⟨by simp [inRB]; try omega, rfl⟩
/-- Are all of the numbers words? -/
def okL (n : Nat) (f : Nat → Int) : Bool := (List.range n).all fun j => inRB (f j) 0 255
theorem okL_iff {n : Nat} {f : Nat → Int} : okL n f = true ↔ ∀ j, j < n → inRB (f j) 0 255 = true := by
  simp [okL, List.all_eq_true]
theorem okL_false {n k : Nat} {f : Nat → Int} (hk : k < n) (h : inRB (f k) 0 255 = false) : okL n f = false := by
  rw [Bool.eq_false_iff]
  intro h'
  rw [okL_iff.1 h' k hk] at h
  cases h
theorem validNumbers_zero (A : Option Addr) (c m : Nat) (f : Nat → Int) (w : World) :
    Calls Tryd.prog 61 #[.slice A 0 c, .int .i64 m] w fun e w' => e = .returned (.bool (okL 0 f && decide (0 = m))) ∧ w = w' := by
  go_enter Tryd.func61, Tryd.ntmps61
  go_wp2
  refine wp_loop_rounds 1 ?_
  rw [rounds_succ]
  go_wp2
  go_ret
  refine ⟨ret_b ?_, rfl⟩
  rw [Bool.eq_iff_iff]
  simp [okL]
  try omega
set_option maxHeartbeats 2000000 in
theorem validNumbers_at (b off n c m : Nat) (f : Nat → Int) (w : World) (hn : n ≤ 9223372036854775807) (h : Nums w (some ⟨b, off, none⟩) n f) :
    Calls Tryd.prog 61 #[.slice (some ⟨b, off, none⟩) n c, .int .i64 m] w fun e w' => e = .returned (.bool (okL n f && decide (n = m))) ∧ w = w' := by
  have H := shade h
  clear h
  go_enter Tryd.func61, Tryd.ntmps61
  go_wp2
  go_loop [5] (fun i => ∃ k : Nat, k ≤ n ∧ i = .int .i64 k ∧ ∀ j, j < k → inRB (f j) 0 255 = true) (fun i => n - (intOf i).toNat)
  case atStart => exact ⟨0, Nat.zero_le _, rfl, fun j hj => absurd hj (by omega)⟩
  case round =>
    obtain ⟨k, hk, rfl, hall⟩ := hrel
    have HA := shade hall
    clear hall
    by_cases hkn : k < n
    · have q1 := H.out.cell hkn
      rcases hr : inRB (f k) 0 255 with _ | _
      · have HR := shade hr
        clear hr
        go_wp2_with (first | (go_at_call 51; refine (inRB_any _ _ _ _).mono ?_; rw [HR.out]; rintro e w' ⟨rfl, rfl⟩))
        go_ret
        exact ⟨ret_b (by rw [okL_false hkn HR.out]; rfl), rfl⟩
      · have HR := shade hr
        clear hr
        go_wp2_with (first | (go_at_call 51; refine (inRB_any _ _ _ _).mono ?_; rw [HR.out]; rintro e w' ⟨rfl, rfl⟩))
        go_round
        case rel => exact ⟨k + 1, by omega, by go_num, fun j hj => by
          by_cases e : j = k
          · rw [e]; exact HR.out
          · exact HA.out j (by omega)⟩
        case measure => simp [intOf]; omega
    · have hkn2 : k = n := by omega
      subst hkn2
      go_wp2
      go_ret
      refine ⟨ret_b ?_, rfl⟩
      rw [okL_iff.2 HA.out]
      rw [Bool.eq_iff_iff]
      simp
      try omega
theorem validNumbers_any (A : Option Addr) (n c m : Nat) (f : Nat → Int) (w : World) (hn : n ≤ 9223372036854775807) (h : Nums w A n f) :
    Calls Tryd.prog 61 #[.slice A n c, .int .i64 m] w fun e w' => e = .returned (.bool (okL n f && decide (n = m))) ∧ w = w' := by
  by_cases h0 : n = 0
  · subst h0
    exact validNumbers_zero A c m f w
  · obtain ⟨b, off, rfl, _⟩ := h.resolve_left h0
    exact validNumbers_at b off n c m f w hn h
/-- Is the machine valid? -/
def vmB (at' : Int) (n1 n2 : Nat) (f1 f2 : Nat → Int) : Bool := inRB at' 0 40 && (okL n1 f1 && decide (n1 = 4)) && (okL n2 f2 && decide (n2 = 8))


set_option maxHeartbeats 4000000 in
theorem validMachine_any (at' : Int) (A1 A2 : Option Addr) (n1 n2 c1 c2 : Nat) (f1 f2 : Nat → Int) (w : World) (hn1 : n1 ≤ 9223372036854775807) (hn2 : n2 ≤ 9223372036854775807) (h1 : Nums w A1 n1 f1) (h2 : Nums w A2 n2 f2) :
    Calls Tryd.prog 50 #[MV at' A1 n1 c1 A2 n2 c2] w fun e w' => e = .returned (.bool (vmB at' n1 n2 f1 f2)) ∧ w.grownBy w' none := by
  have H1 := shade (fun o => validNumbers_any A1 n1 c1 4 f1 (w.alloc o) hn1 (h1.alloc o))
  have H2 := shade (fun o => validNumbers_any A2 n2 c2 8 f2 (w.alloc o) hn2 (h2.alloc o))
  clear h1 h2
  unfold vmB
  have H0 := shade (fun W => inRB_any at' 0 40 W)
  generalize inRB at' 0 40 = x at *
  generalize (okL n1 f1 && decide (n1 = 4)) = y at *
  generalize (okL n2 f2 && decide (n2 = 8)) = z at *
  rcases x with _ | _
  all_goals rcases y with _ | _
  all_goals rcases z with _ | _
  all_goals
    go_enter Tryd.func50, Tryd.ntmps50
    go_wp2_with (first | (go_at_call 51; refine (H0.out _).mono ?_; rintro e w' ⟨rfl, rfl⟩) | (go_at_call 61; first | (have hq := hdone1; refine (H2.out _).mono ?_; rintro e w' ⟨rfl, rfl⟩) | (refine (H1.out _).mono ?_; rintro e w' ⟨rfl, rfl⟩; have hdone1 := true)))
    go_ret
    exact ⟨rfl, World.grownBy_alloc _ _ _⟩

end Go.Proofs.YtcfnoihjpiklhaaDoor