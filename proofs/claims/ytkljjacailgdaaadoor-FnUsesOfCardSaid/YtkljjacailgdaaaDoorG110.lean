/- Rows of Booleans: read, equal, marked; from the texts on rows of numbers. JumpsOf, over whatever runOf leaves. The model's JumpsOf. Rows of Booleans that a call has made; their marks. JumpsOf and its model answer alike. -/
import Derived.Test.YtkljjacailgdaaaDoorG30
import Derived.Test.YtkljjacailgdaaaDoorG100
import Derived.Deep.QuietTactic
import Derived.BigQuiet
import Derived.Test.YtkljjacailgdaaaDoorG96
namespace Go.Proofs.YtkljjacailgdaaaDoor
open Go.RowKit
/-- A mark. -/
def mk3 (m : Int) (j : Nat) : Bool := (m + (j : Int)) % 3 == 0
/-- n numbers at an address can be read. -/
def Bols (w : World) (A : Option Addr) (n : Nat) (f : Nat → Bool) : Prop :=
  n = 0 ∨ ∃ b off, A = some ⟨b, off, none⟩ ∧ b < w.heap.size ∧ ∀ j, j < n → w.cell? ⟨b, off + j, none⟩ = some (.bool (f j))
/-- The cells of n numbers. -/
def bolL (n : Nat) (f : Nat → Bool) : List Value := (List.range n).map fun j => .bool (f j)
/-- n numbers that the call owns. -/
abbrev OwnB (w : World) (B : Nat) (A : Option Addr) (n cap : Nat) (f : Nat → Bool) : Prop := w.ownsRow B 4 1 (.slice A n cap) n (bolL n f)
theorem bolL_len (n : Nat) (f : Nat → Bool) : (bolL n f).length = n := by simp [bolL]
theorem bolL_get (n : Nat) (f : Nat → Bool) (j : Nat) (h : j < n) : (bolL n f)[j]? = some (.bool (f j)) := by simp [bolL, h]
theorem bolL_congr (n : Nat) (f g : Nat → Bool) (h : ∀ j, j < n → f j = g j) : bolL n f = bolL n g := by
  unfold bolL
  apply List.map_congr_left
  intro j hj
  rw [h j (List.mem_range.1 hj)]
theorem bolL_set (n : Nat) (f g : Nat → Bool) (k : Nat) (x : Bool) (hk : g k = x) (h : ∀ j, j < n → j ≠ k → f j = g j) : (bolL n f).set k (.bool x) = bolL n g := by
  apply List.ext_getElem? 
  intro i
  rw [List.getElem?_set]
  by_cases hi : i < n
  · rw [bolL_get n g i hi]
    by_cases hik : k = i
    · subst hik
      rw [if_pos rfl, bolL_len, if_pos hi, hk]
    · rw [if_neg hik, bolL_get n f i hi, h i hi (fun e => hik e.symm)]
  · have e1 : (bolL n g)[i]? = none := List.getElem?_eq_none (by rw [bolL_len]; omega)
    rw [e1]
    split
    · rename_i h1
      subst h1
      rw [bolL_len, if_neg hi]
    · exact List.getElem?_eq_none (by rw [bolL_len]; omega)
theorem bolL_oneCell (n : Nat) (f : Nat → Bool) : ∀ u ∈ bolL n f, u.oneCell' = true := by
  intro u hu
  simp only [bolL, List.mem_map] at hu
  obtain ⟨j, _, rfl⟩ := hu
  rfl
section
variable {w w' : World} {A : Option Addr} {B n cap : Nat} {f g : Nat → Bool}
theorem Bols.congr (h : Bols w A n f) (hf : ∀ j, j < n → f j = g j) : Bols w A n g := by
  rcases h with h | ⟨b, off, hA, hb, hc⟩
  · exact .inl h
  · exact .inr ⟨b, off, hA, hb, fun j hj => by rw [hc j hj, hf j hj]⟩
theorem Bols.alloc (h : Bols w A n f) (o : Obj) : Bols (w.alloc o) A n f := by
  rcases h with h | ⟨b, off, hA, hb, hc⟩
  · exact .inl h
  · exact .inr ⟨b, off, hA, by simp; omega, fun j hj => (World.cell?_alloc_some w _ o (by rw [hc j hj]; rfl)).trans (hc j hj)⟩
theorem Bols.drewN (h : Bols w A n f) (k : Nat) : Bols (w.drewN k) A n f := h
theorem Bols.below (h : Bols w A n f) (hb : Below w.heap.size w w') : Bols w' A n f := by
  rcases h with h | ⟨b, off, hA, hlt, hc⟩
  · exact .inl h
  · exact .inr ⟨b, off, hA, Nat.lt_of_lt_of_le hlt hb.size, fun j hj => (hb.cell (p := ⟨b, off + j, none⟩) hlt).trans (hc j hj)⟩
theorem Bols.belowAt (h : Bols w A n f) {B : Nat} (hb : Below B w w') (hA : ∀ b off, A = some ⟨b, off, none⟩ → b < B) : Bols w' A n f := by
  rcases h with h | ⟨b, off, hA', hlt, hc⟩
  · exact .inl h
  · exact .inr ⟨b, off, hA', Nat.lt_of_lt_of_le hlt hb.size, fun j hj => (hb.cell (p := ⟨b, off + j, none⟩) (hA b off hA')).trans (hc j hj)⟩
theorem Bols.grown {row : Option Nat} (h : Bols w A n f) (hg : w.grownBy w' row) (hne : ∀ b off, A = some ⟨b, off, none⟩ → some b ≠ row) : Bols w' A n f := by
  rcases h with h | ⟨b, off, hA, hlt, hc⟩
  · exact .inl h
  · exact .inr ⟨b, off, hA, Nat.lt_of_lt_of_le hlt hg.size, fun j hj => hg.cell (hc j hj) (hne b off hA)⟩
theorem Bols.cell (h : Bols w (some ⟨B, cap, none⟩) n f) {j : Nat} (hj : j < n) : w.cell? ⟨B, cap + j, none⟩ = some (.bool (f j)) := by
  rcases h with h | ⟨b, off, hA, hb, hc⟩
  · omega
  · injection hA with hA
    injection hA with h1 h2
    subst h1; subst h2
    exact hc j hj
theorem Bols.cells {b off : Nat} (h : Bols w (some ⟨b, off, none⟩) n f) : ∀ j u, (bolL n f)[j]? = some u → w.cell? ((⟨b, off, none⟩ : Addr).add j) = some u := by
  intro j u hj
  by_cases hjn : j < n
  · rw [bolL_get n f j hjn] at hj
    cases hj
    rw [Addr.add_lit]
    exact h.cell hjn
  · rw [List.getElem?_eq_none (by rw [bolL_len]; omega)] at hj
    cases hj
theorem OwnB.lower {B' : Nat} (h : OwnB w B A n cap f) (hB : B' ≤ B) : OwnB w B' A n cap f := by
  refine ⟨h.1, ?_⟩
  rcases h.2 with h' | ⟨g, cap', cur, h1, h2, h3⟩
  · exact .inl h'
  · exact .inr ⟨g, cap', cur, h1, Nat.le_trans hB h2, h3⟩
theorem OwnB.lt {b : Nat} (h : OwnB w B (some ⟨b, 0, none⟩) n cap f) : B ≤ b ∧ b < w.heap.size := World.ownsRow.lt h b rfl
theorem OwnB.bols {g : Nat} (h : OwnB w B (some ⟨g, 0, none⟩) n cap f) : Bols w (some ⟨g, 0, none⟩) n f := by
  refine .inr ⟨g, 0, rfl, (World.ownsRow.lt h g rfl).2, fun j hj => ?_⟩
  rw [Nat.zero_add, World.ownsRow.cellAt h j (by omega), bolL_get n f j hj]
theorem OwnB.congr (h : OwnB w B A n cap f) (hf : ∀ j, j < n → f j = g j) : OwnB w B A n cap g := by
  unfold OwnB at h ⊢
  rw [← bolL_congr n f g hf]
  exact h
theorem OwnB.caps {g : Nat} (h : OwnB w B (some ⟨g, 0, none⟩) n cap f) : n ≤ cap ∧ cap ≤ maxLen := by
  rcases h.2 with ⟨h', _⟩ | ⟨g', cap', cur, h', _, hg, hnc, hcm, _⟩
  · simp at h'
  · simp only [Value.slice.injEq, Option.some.injEq, Addr.mk.injEq, and_true, true_and] at h'
    obtain ⟨rfl, rfl⟩ := h'
    exact ⟨hnc, hcm⟩
end
theorem eqBoolS_zero (A1 A2 : Option Addr) (c1 c2 : Nat) (w : World) :
    Calls Tryd.prog 46 #[.slice A1 0 c1, .slice A2 0 c2] w fun e w' => e = .returned (.bool true) ∧ ∃ m : Nat, w.drewN m = w' := by
  go_enter Tryd.func46, Tryd.ntmps46
  go_wp2
  refine wp_loop_rounds 1 ?_
  rw [rounds_succ]
  go_wp2
  go_ret
  exact ⟨rfl, 0, rfl⟩
set_option maxHeartbeats 1000000 in
theorem eqBoolS_at (b1 o1 b2 o2 c1 c2 n : Nat) (f g : Nat → Bool) (w : World) (hn : n ≤ 9223372036854775807) (h1 : Bols w (some ⟨b1, o1, none⟩) n f) (h2 : Bols w (some ⟨b2, o2, none⟩) n g) (he : ∀ j, j < n → f j = g j) :
    Calls Tryd.prog 46 #[.slice (some ⟨b1, o1, none⟩) n c1, .slice (some ⟨b2, o2, none⟩) n c2] w fun e w' => e = .returned (.bool true) ∧ ∃ m : Nat, w.drewN m = w' := by
  have H1 := shade h1
  have H2 := shade h2
  have HE := shade he
  clear h1 h2 he
  go_enter Tryd.func46, Tryd.ntmps46
  go_wp2
  go_loopw [5] (fun i wr => ∃ k m : Nat, k ≤ n ∧ i = .int .i64 k ∧ wr = w.drewN m) (fun i _ => n - (intOf i).toNat)
  case atStart => exact ⟨0, 0, Nat.zero_le _, rfl, rfl⟩
  case round =>
    obtain ⟨k, m, hk, rfl, rfl⟩ := hrel
    by_cases hkn : k < n
    · have q1 := H1.out.cell hkn
      have q2 := H2.out.cell hkn
      rw [HE.out k hkn] at q1
      go_wp2
      go_quiet (fail)
      go_wp2
      go_roundw
      case rel => exact ⟨k + 1, _, by omega, by go_num, rfl⟩
      case measure => simp [intOf]; omega
    · have hkn2 : k = n := by omega
      subst hkn2
      go_wp2
      go_ret
      exact ⟨rfl, m, rfl⟩
theorem eqBoolS_any (A1 A2 : Option Addr) (c1 c2 n : Nat) (f g : Nat → Bool) (w : World) (hn : n ≤ 9223372036854775807) (h1 : Bols w A1 n f) (h2 : Bols w A2 n g) (he : ∀ j, j < n → f j = g j) :
    Calls Tryd.prog 46 #[.slice A1 n c1, .slice A2 n c2] w fun e w' => e = .returned (.bool true) ∧ ∃ m : Nat, w.drewN m = w' := by
  by_cases h0 : n = 0
  · subst h0
    exact eqBoolS_zero A1 A2 c1 c2 w
  · obtain ⟨b1, o1, rfl, _⟩ := h1.resolve_left h0
    obtain ⟨b2, o2, rfl, _⟩ := h2.resolve_left h0
    exact eqBoolS_at b1 o1 b2 o2 c1 c2 n f g w hn h1 h2 he


theorem markBoolS_zero (A : Option Addr) (c : Nat) (m : Int) (w : World) :
    Calls Tryd.prog 47 #[.slice A 0 c, .int .i64 m] w fun e w' => e = .returned (.int .i64 m) ∧ w = w' := by
  go_enter Tryd.func47, Tryd.ntmps47
  go_wp2
  refine wp_loop_rounds 1 ?_
  rw [rounds_succ]
  go_wp2
  go_ret
  exact ⟨rfl, rfl⟩
set_option maxHeartbeats 1000000 in
theorem markBoolS_at (B g n cap : Nat) (f : Nat → Bool) (m : Int) (w : World) (hm0 : 0 ≤ m) (hm : m + n ≤ 9223372036854775807) (h : OwnB w B (some ⟨g, 0, none⟩) n cap f) :
    Calls Tryd.prog 47 #[.slice (some ⟨g, 0, none⟩) n cap, .int .i64 m] w fun e w' => e = .returned (.int .i64 (m + n)) ∧ OwnB w' B (some ⟨g, 0, none⟩) n cap (mk3 m) ∧ w.grownBy w' (some g) := by
  have H := shade h
  clear h
  go_enter Tryd.func47, Tryd.ntmps47
  go_wp2
  go_loopw [1, 5] (fun q i wr => ∃ k : Nat, k ≤ n ∧ i = .int .i64 k ∧ q = .int .i64 (m + k) ∧ OwnB wr B (some ⟨g, 0, none⟩) n cap (fun j => if j < k then mk3 m j else f j) ∧ w.grownBy wr (some g)) (fun _ i _ => n - (intOf i).toNat)
  case atStart => exact ⟨0, Nat.zero_le _, rfl, by simp, H.out.congr (fun j _ => by rw [if_neg (by omega)]), grown_refl _ _⟩
  case round =>
    obtain ⟨k, hk, rfl, rfl, hown, hgr⟩ := hrel
    by_cases hkn : k < n
    · have q1 := hown.bols.cell hkn
      have q2 := World.ownsRow.frozenAt hown k
      rw [Nat.zero_add] at q1
      have HO := shade hown
      have HR := shade hgr
      clear hown hgr
      go_wp2
      go_roundw
      case rel =>
        have hs := World.ownsRow.stored HO.out k (.bool (mk3 m k))
        refine ⟨k + 1, by omega, by go_num, by go_num, ?_, grown_same HR.out hs.2⟩
        have h1 := hs.1
        rw [bolL_set n _ (fun j => if j < k + 1 then mk3 m j else f j) k (mk3 m k) (by simp) (fun j _ hne => by
          show (if j < k then _ else _) = (if j < k + 1 then _ else _)
          by_cases h : j < k
          · rw [if_pos h, if_pos (by omega)]
          · rw [if_neg h, if_neg (by omega)])] at h1
        exact h1
      case measure => simp [intOf]; omega
    · have hkn2 : k = n := by omega
      subst hkn2
      have HO := shade hown
      have HR := shade hgr
      clear hown hgr
      go_wp2
      go_ret
      exact ⟨rfl, HO.out.congr (fun j hj => by rw [if_pos hj]), HR.out⟩


theorem heldBoolS_zero (A : Option Addr) (c : Nat) (m : Int) (w : World) :
    Calls Tryd.prog 48 #[.slice A 0 c, .int .i64 m] w fun e w' => e = .returned (.int .i64 m) ∧ w = w' := by
  go_enter Tryd.func48, Tryd.ntmps48
  go_wp2
  refine wp_loop_rounds 1 ?_
  rw [rounds_succ]
  go_wp2
  go_ret
  exact ⟨rfl, rfl⟩
set_option maxHeartbeats 1000000 in
theorem heldBoolS_at (b off n cap : Nat) (m : Int) (w : World) (hm0 : 0 ≤ m) (hm : m + n ≤ 9223372036854775807) (h : Bols w (some ⟨b, off, none⟩) n (mk3 m)) :
    Calls Tryd.prog 48 #[.slice (some ⟨b, off, none⟩) n cap, .int .i64 m] w fun e w' => e = .returned (.int .i64 (m + n)) ∧ w = w' := by
  have H := shade h
  clear h
  go_enter Tryd.func48, Tryd.ntmps48
  go_wp2
  go_loop [1, 5] (fun q i => ∃ k : Nat, k ≤ n ∧ i = .int .i64 k ∧ q = .int .i64 (m + k)) (fun _ i => n - (intOf i).toNat)
  case atStart => exact ⟨0, Nat.zero_le _, rfl, by simp⟩
  case round =>
    obtain ⟨k, hk, rfl, rfl⟩ := hrel
    by_cases hkn : k < n
    · have q1 := H.out.cell hkn
      simp only [mk3] at q1
      go_wp2
      go_round
      case rel => exact ⟨k + 1, by omega, by go_num, by go_num⟩
      case measure => simp [intOf]; omega
    · have hkn2 : k = n := by omega
      subst hkn2
      go_wp2
      go_ret
      exact ⟨rfl, rfl⟩
theorem heldBoolS_any (A : Option Addr) (n cap : Nat) (m : Int) (w : World) (hm0 : 0 ≤ m) (hm : m + n ≤ 9223372036854775807) (h : Bols w A n (mk3 m)) :
    Calls Tryd.prog 48 #[.slice A n cap, .int .i64 m] w fun e w' => e = .returned (.int .i64 (m + n)) ∧ w = w' := by
  by_cases h0 : n = 0
  · subst h0
    exact (heldBoolS_zero A cap m w).mono fun e w' h => ⟨by rw [h.1]; simp, h.2⟩
  · obtain ⟨b, off, rfl, _⟩ := h.resolve_left h0
    exact heldBoolS_at b off n cap m w hm0 hm h


end Go.Proofs.YtkljjacailgdaaaDoor

namespace Go.Proofs.YtkljjacailgdaaaDoor
open Go.RowKit
set_option linter.unusedSimpArgs false
theorem info4 : (Tryd.prog.info? 4).map (fun i => (i.zero, i.size, i.bytes)) = some (some (.bool false), 1, 1) := by kernel_rfl
theorem bool_new (w : World) (t : TypeId) (x : Bool) : ∀ j u, ([.bool x] : List Value)[j]? = some u → (w.alloc (.cells #[.bool x] t)).cell? ((⟨w.heap.size, 0, none⟩ : Addr).add j) = some u := by
  intro j u h
  rw [Addr.add_lit, Nat.zero_add, World.cell?_alloc_new]
  simpa using h
theorem bool_one (x : Bool) : ∀ u ∈ ([.bool x] : List Value), u.oneCell' = true := by
  intro u hu
  simp only [List.mem_cons, List.not_mem_nil, or_false] at hu
  rw [hu]
  rfl
/-- What a call leaves that makes a row of Booleans. -/
def BolRes (k : Nat) (f : Nat → Bool) (w : World) (e : Ending) (w' : World) : Prop :=
  ∃ v, e = .returned v ∧ w'.ownsRow w.heap.size 4 1 v k (bolL k f) ∧ w.grownBy w' none
/-- Whether a step that may jump does. -/
def jmOpt (F : Nat → Ins) (s : Sta) : List Bool :=
  if nOf F s.at' = 7 then [(s.r (raOf F s.at') == 0)] else []
/-- The cells of the first i states, in order. -/
def jmL (F : Nat → Ins) (g : Nat → Sta) : Nat → List Bool
  | 0 => []
  | i + 1 => jmL F g i ++ jmOpt F (g i)
theorem jmOpt_le (F : Nat → Ins) (s : Sta) : (jmOpt F s).length ≤ 1 := by
  unfold jmOpt
  split
  · exact Nat.le_refl _
  · exact Nat.zero_le _
theorem jmL_le (F : Nat → Ins) (g : Nat → Sta) : ∀ i, (jmL F g i).length ≤ i := by
  intro i
  induction i with
  | zero => exact Nat.le_refl _
  | succ i ih =>
    show (jmL F g i ++ jmOpt F (g i)).length ≤ i + 1
    rw [List.length_append]
    have := jmOpt_le F (g i)
    omega
/-- A list of Booleans as cells. -/
def valB (l : List Bool) : List Value := l.map Value.bool
theorem valB_snoc (l : List Bool) (x : Bool) : valB l ++ [.bool x] = valB (l ++ [x]) := by
  unfold valB
  rw [List.map_append]
  rfl
theorem bolL_list (l : List Bool) : bolL l.length (fun j => l.getD j false) = valB l := by
  unfold bolL valB
  apply List.ext_getElem
  · simp
  · intro i h1 h2
    have hi : i < l.length := by simpa using h1
    simp [hi]
/-- What stands while the cells are put together: those of i states so far. -/
structure JmO (w wr : World) (B R : Nat) (A0 : Option Addr) (l0 c0 : Nat) (A3 : Option Addr) (k : Nat) (g : Nat → Sta) (F : Nat → Ins) (i : Nat) (v : Value) : Prop where
  own : wr.ownsRow B 4 1 v (jmL F g i).length (valB (jmL F g i))
  sta : Stas wr A3 k g
  low : w.grownBy wr none
  big : B ≤ wr.heap.size
  code : wr.cell? ⟨R, 0, none⟩ = some (.slice A0 l0 c0)
section
variable {w wr w7 w7' w8 : World} {B R : Nat} {A0 : Option Addr} {l0 c0 : Nat} {A3 : Option Addr} {k : Nat} {g : Nat → Sta} {F : Nat → Ins} {i : Nat} {v v' : Value}
theorem JmO.app (h : JmO w wr B R A0 l0 c0 A3 k g F i v) (hB : w.heap.size ≤ B) (hR : R < B) (hl : ∀ b off, A3 = some ⟨b, off, none⟩ → b < B) (hg : wr.grownBy w7 none) (ho : w8.ownsRow B 4 1 v' (jmL F g (i + 1)).length (valB (jmL F g (i + 1)))) (hgr : w7.grownBy w8 v.ownBlock) : JmO w w8 B R A0 l0 c0 A3 k g F (i + 1) v' := by
  have ho7 := ownsRow_on h.own hg
  refine ⟨ho, (h.sta.on hg).grown hgr (fun b off e e' => ?_), grown_row (grown_same h.low hg) hgr (fun j e => ?_), Nat.le_trans h.big (Nat.le_trans hg.size hgr.size), hgr.cell (hg.cell h.code (by intro e; cases e)) (fun e => ?_)⟩
  · have h1 := hl b off e
    have h2 := (World.ownsRow.lt ho7 b e'.symm).1
    omega
  · have h2 := (World.ownsRow.lt ho7 j e).1
    omega
  · have h2 := (World.ownsRow.lt ho7 R e.symm).1
    omega
theorem JmO.skip (h : JmO w wr B R A0 l0 c0 A3 k g F i v) (hg : wr.grownBy w7 none) (he : jmL F g (i + 1) = jmL F g i) : JmO w w7 B R A0 l0 c0 A3 k g F (i + 1) v :=
  ⟨by rw [he]; exact ownsRow_on h.own hg, h.sta.on hg, grown_same h.low hg, Nat.le_trans h.big hg.size, hg.cell h.code (by intro e; cases e)⟩
end
set_option maxRecDepth 100000 in
set_option maxHeartbeats 16000000 in
theorem JumpsOf_res (A : Option Addr) (len cap : Nat) (at' : Int) (A1 : Option Addr) (n1 c1 : Nat) (A2 : Option Addr) (n2 c2 : Nat) (fuel : Int) (F : Nat → Ins) (k : Nat) (g : Nat → Sta) (w : World) (hg : WT w) (hC : Code w A len F) (hk : k ≤ 300) (hst : ∀ i, i < k → vcB len F = true ∧ OkS (g i) ∧ sHalt len F (g i) = false) (hR : ∀ W, w.grownBy W none → Calls Tryd.prog 66 #[.slice A len cap, MV at' A1 n1 c1 A2 n2 c2, .int .i64 fuel] W (RunRes A len k g W)) :
    Calls Tryd.prog 25 #[.slice A len cap, MV at' A1 n1 c1 A2 n2 c2, .int .i64 fuel] w (BolRes (jmL F g k).length (fun j => (jmL F g k).getD j false) w) := by
  have HR := shade hR
  have HGW := shade hg
  have HCW := shade hC
  have HST := shade hst
  have HG0 := shade (World.grownBy_alloc w (.cells #[.int .i64 at', .slice A1 n1 c1, .slice A2 n2 c2] 31) none)
  have x0 : (w.alloc (.cells #[.int .i64 at', .slice A1 n1 c1, .slice A2 n2 c2] 31)).cell? ⟨w.heap.size, 0, none⟩ = some (.int .i64 at') := (Holds5.fresh w 31 _).look 0
  have x1 : (w.alloc (.cells #[.int .i64 at', .slice A1 n1 c1, .slice A2 n2 c2] 31)).cell? ⟨w.heap.size, 1, none⟩ = some (.slice A1 n1 c1) := (Holds5.fresh w 31 _).look 1
  have x2 : (w.alloc (.cells #[.int .i64 at', .slice A1 n1 c1, .slice A2 n2 c2] 31)).cell? ⟨w.heap.size, 2, none⟩ = some (.slice A2 n2 c2) := (Holds5.fresh w 31 _).look 2
  clear hR hg hC hst
  go_enter Tryd.func25, Tryd.ntmps25
  go_wp2_with fail
  refine (HR.out _ HG0.out).mono ?_
  rintro e w1 ⟨A0, l0, c0, A3, c3, t, d, b, rfl, hcd, hst, hsep, hgr⟩
  have hg1 := grown_same HG0.out hgr
  have h0 := HG0.out.size
  rw [World.size_alloc] at h0 hsep
  have HCD := shade hcd
  clear HR HG0 x0 x1 x2 hgr hcd
  go_upto_region 2 with (fail)
  have HE := shade (show Holds5 (w1.alloc (.cells #[.slice A0 l0 c0, .slice A3 k c3, .int .i64 t.at', .int .i64 (t.r 0), .int .i64 (t.r 1), .int .i64 (t.r 2), .int .i64 (t.r 3), .int .i64 (t.m 0), .int .i64 (t.m 1), .int .i64 (t.m 2), .int .i64 (t.m 3), .int .i64 (t.m 4), .int .i64 (t.m 5), .int .i64 (t.m 6), .int .i64 (t.m 7), .bool d] 84)) w1.heap.size 84 #[.slice A0 l0 c0, .slice A3 k c3, .int .i64 t.at', .int .i64 (t.r 0), .int .i64 (t.r 1), .int .i64 (t.r 2), .int .i64 (t.r 3), .int .i64 (t.m 0), .int .i64 (t.m 1), .int .i64 (t.m 2), .int .i64 (t.m 3), .int .i64 (t.m 4), .int .i64 (t.m 5), .int .i64 (t.m 6), .int .i64 (t.m 7), .bool d] from Holds5.fresh w1 84 #[.slice A0 l0 c0, .slice A3 k c3, .int .i64 t.at', .int .i64 (t.r 0), .int .i64 (t.r 1), .int .i64 (t.r 2), .int .i64 (t.r 3), .int .i64 (t.m 0), .int .i64 (t.m 1), .int .i64 (t.m 2), .int .i64 (t.m 3), .int .i64 (t.m 4), .int .i64 (t.m 5), .int .i64 (t.m 6), .int .i64 (t.m 7), .bool d])
  have hga := World.grownBy_alloc w1 (.cells #[.slice A0 l0 c0, .slice A3 k c3, .int .i64 t.at', .int .i64 (t.r 0), .int .i64 (t.r 1), .int .i64 (t.r 2), .int .i64 (t.r 3), .int .i64 (t.m 0), .int .i64 (t.m 1), .int .i64 (t.m 2), .int .i64 (t.m 3), .int .i64 (t.m 4), .int .i64 (t.m 5), .int .i64 (t.m 6), .int .i64 (t.m 7), .bool d] 84) none
  have HS := shade (hst.on hga)
  have HG := shade (grown_same hg1 hga)
  have HZ := shade (show (w1.alloc (.cells #[.slice A0 l0 c0, .slice A3 k c3, .int .i64 t.at', .int .i64 (t.r 0), .int .i64 (t.r 1), .int .i64 (t.r 2), .int .i64 (t.r 3), .int .i64 (t.m 0), .int .i64 (t.m 1), .int .i64 (t.m 2), .int .i64 (t.m 3), .int .i64 (t.m 4), .int .i64 (t.m 5), .int .i64 (t.m 6), .int .i64 (t.m 7), .bool d] 84)).heap.size = w1.heap.size + 1 from World.size_alloc _ _)
  have HSP := shade hsep
  obtain ⟨W2, hW⟩ : ∃ W2, w1.alloc (.cells #[.slice A0 l0 c0, .slice A3 k c3, .int .i64 t.at', .int .i64 (t.r 0), .int .i64 (t.r 1), .int .i64 (t.r 2), .int .i64 (t.r 3), .int .i64 (t.m 0), .int .i64 (t.m 1), .int .i64 (t.m 2), .int .i64 (t.m 3), .int .i64 (t.m 4), .int .i64 (t.m 5), .int .i64 (t.m 6), .int .i64 (t.m 7), .bool d] 84) = W2 := ⟨_, rfl⟩
  rw [hW] at HE HS HG HZ ⊢
  have y1 := HE.out.look 1
  simp at y1
  clear hW hst hsep hga hg1
  have hM : JmO w W2 W2.heap.size w1.heap.size A0 l0 c0 A3 k g F 0 (.slice none 0 0) := ⟨World.ownsRow_nil _ _ _ _, HS.out, HG.out, Nat.le_refl _, HE.out.look 0⟩
  have hlow : ∀ b off, A3 = some ⟨b, off, none⟩ → b < W2.heap.size := fun b off e => by
    have := HSP.out b off e
    have := HZ.out
    omega
  have HM := shade hM
  have HLW := shade hlow
  have hwb : w.heap.size ≤ W2.heap.size := HG.out.size
  have HWB := shade hwb
  clear hM hlow hwb HS HG HSP
  go_wp2_with fail
  go_loopw [9, 23] (fun v q wr => ∃ i : Nat, i ≤ k ∧ q = .int .i64 i ∧ JmO w wr W2.heap.size w1.heap.size A0 l0 c0 A3 k g F i v) (fun _ q _ => k - (intOf q).toNat)
  case atStart => exact ⟨0, Nat.zero_le _, rfl, HM.out⟩
  case round =>
    clear HM
    obtain ⟨i, hi, rfl, hs⟩ := hrel
    obtain ⟨A4, c4, rfl, -⟩ := ownsRow_slice hs.own
    have HS := shade hs
    clear hs
    by_cases hik : i < k
    · obtain ⟨b3, o3, rfl, -⟩ := HS.out.sta.resolve_left (by omega)
      have hrow := HS.out.sta.row hik
      obtain ⟨hv, hok, hh⟩ := HST.out i hik
      obtain ⟨rfl, rfl⟩ := HCD.out.resolve_left (by omega)
      obtain ⟨tt, ht⟩ : ∃ tt, g i = tt := ⟨_, rfl⟩
      rw [ht] at hrow hok hh
      have HT := shade ht
      obtain ⟨hlt, _⟩ := halt_parts hh
      obtain ⟨h40, ⟨rr1, rr2, rr3⟩, ⟨kk0, kk1⟩, hw, h9, hF⟩ := ins_parts hv hlt
      obtain ⟨ra0, ra1⟩ := hok.r _ rr2
      have hn7 : nOf F tt.at' = 7 ↔ wordN (F tt.at'.toNat).op.toList = 7 := by omega
      have hopt : jmOpt F tt = if wordN (F tt.at'.toNat).op.toList = 7 then [(tt.r (raOf F tt.at') == 0)] else [] := by
        unfold jmOpt
        simp only [hn7]
      obtain ⟨m, hm⟩ := Int.eq_ofNat_of_zero_le hok.lo
      rw [hm] at hlt hF hopt rr2 ra0 ra1 kk0 kk1 hrow
      rw [Int.toNat_natCast] at hlt hF hopt
      generalize raOf F (m : Int) = ra at *
      generalize rbOf F (m : Int) = rb at *
      generalize rdOf F (m : Int) = rd at *
      generalize kOf F (m : Int) = k5 at *
      obtain ⟨op, hop⟩ : ∃ op, (F m).op = op := ⟨_, rfl⟩
      rw [hop] at hF hopt
      obtain ⟨r0, r1, r2, r3, r4, r5, r6, r7, r8, r9, r10, r11, r12⟩ := hrow
      have y0 := HS.out.code
      have HOPT := shade hopt
      have HOKR := shade (⟨rr2, ra0, ra1, kk0, kk1⟩ : ra < 4 ∧ 0 ≤ tt.r ra ∧ tt.r ra ≤ 255 ∧ 0 ≤ k5 ∧ k5 ≤ 255)
      have HF := shade hF
      have hm40 : m < 40 := by omega
      clear hv hok hh hw h9 hF hn7 hm hop hopt rr1 rr2 rr3 ra0 ra1 kk0 kk1 ht h40
      go_upto_region 6 with (fail)
      obtain ⟨W5, hW5⟩ : ∃ W5, wr.alloc (.cells #[.int .i64 (m : Int), .int .i64 (tt.r 0), .int .i64 (tt.r 1), .int .i64 (tt.r 2), .int .i64 (tt.r 3), .int .i64 (tt.m 0), .int .i64 (tt.m 1), .int .i64 (tt.m 2), .int .i64 (tt.m 3), .int .i64 (tt.m 4), .int .i64 (tt.m 5), .int .i64 (tt.m 6), .int .i64 (tt.m 7)] 73) = W5 := ⟨_, rfl⟩
      have hX : Holds5 (wr.alloc (.cells #[.int .i64 (m : Int), .int .i64 (tt.r 0), .int .i64 (tt.r 1), .int .i64 (tt.r 2), .int .i64 (tt.r 3), .int .i64 (tt.m 0), .int .i64 (tt.m 1), .int .i64 (tt.m 2), .int .i64 (tt.m 3), .int .i64 (tt.m 4), .int .i64 (tt.m 5), .int .i64 (tt.m 6), .int .i64 (tt.m 7)] 73)) wr.heap.size 73 #[.int .i64 (m : Int), .int .i64 (tt.r 0), .int .i64 (tt.r 1), .int .i64 (tt.r 2), .int .i64 (tt.r 3), .int .i64 (tt.m 0), .int .i64 (tt.m 1), .int .i64 (tt.m 2), .int .i64 (tt.m 3), .int .i64 (tt.m 4), .int .i64 (tt.m 5), .int .i64 (tt.m 6), .int .i64 (tt.m 7)] := Holds5.fresh wr 73 #[.int .i64 (m : Int), .int .i64 (tt.r 0), .int .i64 (tt.r 1), .int .i64 (tt.r 2), .int .i64 (tt.r 3), .int .i64 (tt.m 0), .int .i64 (tt.m 1), .int .i64 (tt.m 2), .int .i64 (tt.m 3), .int .i64 (tt.m 4), .int .i64 (tt.m 5), .int .i64 (tt.m 6), .int .i64 (tt.m 7)]
      have hga := World.grownBy_alloc wr (.cells #[.int .i64 (m : Int), .int .i64 (tt.r 0), .int .i64 (tt.r 1), .int .i64 (tt.r 2), .int .i64 (tt.r 3), .int .i64 (tt.m 0), .int .i64 (tt.m 1), .int .i64 (tt.m 2), .int .i64 (tt.m 3), .int .i64 (tt.m 4), .int .i64 (tt.m 5), .int .i64 (tt.m 6), .int .i64 (tt.m 7)] 73) none
      rw [hW5] at hX hga ⊢
      have hx0 := hX.look 0
      simp at hx0
      have hy0 := hga.cell y0 (by intro e; cases e)
      have hlow5 := grown_same HS.out.low hga
      obtain ⟨bc, oc, rfl, -⟩ := (HCW.out.on hlow5).resolve_left (by omega)
      have q5 := (HCW.out.on hlow5).five hlt
      rw [HF.out] at q5
      simp only [] at q5
      obtain ⟨q0, q1, q2, q3, q4⟩ := q5
      have HX5 := shade hX
      have HA5 := shade hga
      clear hW5 hX hga hlow5 y0 r0 r1 r2 r3 r4 r5 r6 r7 r8 r9 r10 r11 r12
      go_upto_region 7 with (fail)
      have hga2 := World.grownBy_alloc W5 (.cells #[.string op, .int .i64 rd, .int .i64 ra, .int .i64 rb, .int .i64 k5] 24) none
      have hC5 : Holds5 (W5.alloc (.cells #[.string op, .int .i64 rd, .int .i64 ra, .int .i64 rb, .int .i64 k5] 24)) W5.heap.size 24 #[.string op, .int .i64 rd, .int .i64 ra, .int .i64 rb, .int .i64 k5] := Holds5.fresh W5 24 #[.string op, .int .i64 rd, .int .i64 ra, .int .i64 rb, .int .i64 k5]
      have hX6 := HX5.out.grown hga2 (by intro e; cases e)
      have hA6 := grown_same HA5.out hga2
      obtain ⟨W6, hW6⟩ : ∃ W6, W5.alloc (.cells #[.string op, .int .i64 rd, .int .i64 ra, .int .i64 rb, .int .i64 k5] 24) = W6 := ⟨_, rfl⟩
      rw [hW6] at hga2 hC5 hX6 hA6 ⊢
      have r0 := hX6.look 0; have r1 := hX6.look 1; have r2 := hX6.look 2; have r3 := hX6.look 3; have r4 := hX6.look 4; have r5 := hX6.look 5; have r6 := hX6.look 6; have r7 := hX6.look 7; have r8 := hX6.look 8; have r9 := hX6.look 9; have r10 := hX6.look 10; have r11 := hX6.look 11; have r12 := hX6.look 12
      simp at r0 r1 r2 r3 r4 r5 r6 r7 r8 r9 r10 r11 r12
      have s0 := hC5.look 0; have s1 := hC5.look 1; have s2 := hC5.look 2; have s3 := hC5.look 3; have s4 := hC5.look 4
      simp at s0 s1 s2 s3 s4
      have hg6 : WT W6 := HGW.out.below (below_of_grown (grown_same HS.out.low hA6)) (wt_lt HGW.out)
      have HWO := shade (wordOf_any op W6 hg6)
      have HA6 := shade hA6
      have xr := hX6.look (1 + ra)
      rw [show (#[.int .i64 (m : Int), .int .i64 (tt.r 0), .int .i64 (tt.r 1), .int .i64 (tt.r 2), .int .i64 (tt.r 3), .int .i64 (tt.m 0), .int .i64 (tt.m 1), .int .i64 (tt.m 2), .int .i64 (tt.m 3), .int .i64 (tt.m 4), .int .i64 (tt.m 5), .int .i64 (tt.m 6), .int .i64 (tt.m 7)] : Array Value) = stC (m : Int) tt.r tt.m from rfl, stC_get1 _ _ _ _ HOKR.out.1] at xr
      have iA : (ra : Int) < 4 := by have := HOKR.out.1; omega
      have iA0 : (0 : Int) ≤ (ra : Int) := by omega
      clear hga2 hC5 hX6 hA6 hg6 hW6 HX5 HA5 q0 q1 q2 q3 q4 hx0 hy0
      generalize wordN op.toList = x at *
      obtain ⟨i0, hi0, hz0, hz1, hz2⟩ := info_parts info4
      have hl3 := jmL_le F g i
      by_cases h7 : x = 7
      · subst h7
        have hpl : jmL F g (i + 1) = jmL F g i ++ [(tt.r ra == 0)] := by
          show jmL F g i ++ jmOpt F (g i) = _
          rw [HT.out, HOPT.out]
          simp
        have HPL := shade hpl
        have HO7 := shade (ownsRow_on HS.out.own HA6.out)
        have HB7 := shade (Nat.le_trans HS.out.big HA6.out.size)
        clear hpl HOPT
        go_wp2_with (first
            | (go_at_call 51; refine HWO.out.mono ?_; rintro e w' ⟨rfl, rfl⟩)
            | (at_builtin; refine wpList_append_own _ rfl _ _ 44 rfl W2.heap.size 4 i0 (.bool false) 1 1 Tryd.underlying44 hi0 hz0 hz1 hz2 rfl (by decide) _ _ _ rfl (World.ownsRow.alloc HO7.out _) ⟨W6.heap.size, 0, none⟩ 1 1 [.bool (tt.r ra == 0)] rfl rfl (bool_new _ _ _) (bool_one _) (by unfold maxLen; omega) (by omega) (by have := HB7.out; simp; omega) ?_)
            | go_in)
        intro v' w8 hown8 hgr8 hnil8
        rw [valB_snoc, ← HPL.out] at hown8
        have hlen8 : (jmL F g i).length + 1 = (jmL F g (i + 1)).length := by rw [HPL.out, List.length_append]; rfl
        rw [hlen8] at hown8
        have H8 := shade (HS.out.app HWB.out (by have := HZ.out; omega) HLW.out (grown_same HA6.out (World.grownBy_alloc W6 (.cells #[.bool (tt.r ra == 0)] 4) none)) hown8 hgr8)
        clear hown8 hgr8 hnil8 hi0 hz0 hz1 hz2 HS HO7 HA6 hlen8 HWO
        go_wp2
        go_roundw
        case rel => exact ⟨i + 1, by omega, by go_num, H8.out⟩
        case measure => simp [intOf]; omega
      · have hpl : jmL F g (i + 1) = jmL F g i := by
          show jmL F g i ++ jmOpt F (g i) = _
          rw [HT.out, HOPT.out, if_neg h7, List.append_nil]
        have H8 := shade (HS.out.skip HA6.out hpl)
        clear HA6 HOPT HS hpl hi0 hz0 hz1 hz2
        go_wp2_with (first | (go_at_call 51; refine HWO.out.mono ?_; rintro e w' ⟨rfl, rfl⟩) | go_in)
        go_roundw
        case rel => exact ⟨i + 1, by omega, by go_num, H8.out⟩
        case measure => simp [intOf]; omega
    · have hik2 : i = k := by omega
      subst hik2
      go_wp2
      go_ret
      refine ⟨_, rfl, ?_, HS.out.low⟩
      rw [bolL_list]
      exact World.ownsRow.mono HS.out.own HWB.out

end Go.Proofs.YtkljjacailgdaaaDoor

namespace Go.Proofs.YtkljjacailgdaaaDoor
open Go.RowKit
set_option linter.unusedSimpArgs false
theorem bz_word (l : List UInt8) : (l == [98, 122]) = true ↔ wordN l = 7 := by
  refine word_iff l 7 _ (by omega) wordN_at7 (fun h => ?_)
  rcases word_is l 7 (by omega) h with h | h | h | h | h | h | h | h | h | h
  all_goals first
    | exact absurd h.1 (by omega)
    | exact h.2
set_option maxRecDepth 100000 in
set_option maxHeartbeats 8000000 in
theorem SpecJumpsOf_no (A : Option Addr) (len cap : Nat) (F : Nat → Ins) (at' : Int) (A1 : Option Addr) (n1 c1 : Nat) (A2 : Option Addr) (n2 c2 : Nat) (f1 f2 : Nat → Int) (fuel : Int) (w : World) (hl : len ≤ 9223372036854775807) (hC : Code w A len F) (h1 : Nums w A1 n1 f1) (h2 : Nums w A2 n2 f2) (hn1 : n1 ≤ 9223372036854775807) (hn2 : n2 ≤ 9223372036854775807) (hr : runB len F at' n1 n2 f1 f2 fuel = false) (f : Nat → Bool) :
    Calls Tryd.prog 27 #[.slice A len cap, MV at' A1 n1 c1 A2 n2 c2, .int .i64 fuel] w (BolRes 0 f w) := by
  have hga := World.grownBy_alloc w (.cells #[.int .i64 at', .slice A1 n1 c1, .slice A2 n2 c2] 31) none
  have HVR := shade (validRun_any A len cap F at' A1 n1 c1 A2 n2 c2 f1 f2 fuel (w.alloc (.cells #[.int .i64 at', .slice A1 n1 c1, .slice A2 n2 c2] 31)) hl (hC.on hga) (h1.on hga) (h2.on hga) hn1 hn2)
  rw [hr] at HVR
  have E1 := shade (show Holds5 (w.alloc (.cells #[.int .i64 at', .slice A1 n1 c1, .slice A2 n2 c2] 31)) w.heap.size 31 #[.int .i64 at', .slice A1 n1 c1, .slice A2 n2 c2] from Holds5.fresh w 31 #[.int .i64 at', .slice A1 n1 c1, .slice A2 n2 c2])
  have E3 := shade hga
  clear hga hC h1 h2 hr
  go_enter Tryd.func27, Tryd.ntmps27
  go_wp2_with fail
  refine HVR.out.mono ?_
  rintro e w1 ⟨rfl, hgr⟩
  have HG := shade (grown_same E3.out hgr)
  clear hgr
  go_wp2_with fail
  go_ret
  exact ⟨_, rfl, World.ownsRow_nil _ _ _ _, HG.out⟩
set_option maxRecDepth 100000 in
set_option maxHeartbeats 16000000 in
theorem SpecJumpsOf_yes (A : Option Addr) (len cap : Nat) (F : Nat → Ins) (s : Sta) (b1 o1 c1 b2 o2 c2 : Nat) (fuel : Nat) (w : World) (hl : len ≤ 9223372036854775807) (hC : Code w A len F) (h1 : Nums w (some ⟨b1, o1, none⟩) 4 s.r) (h2 : Nums w (some ⟨b2, o2, none⟩) 8 s.m) (hv : vcB len F = true) (hm : vmB s.at' 4 8 s.r s.m = true) (hf : fuel ≤ 300) :
    Calls Tryd.prog 27 #[.slice A len cap, MV s.at' (some ⟨b1, o1, none⟩) 4 c1 (some ⟨b2, o2, none⟩) 8 c2, .int .i64 fuel] w (fun e w' => ∃ k, RunEnd len F s fuel k ∧ BolRes (jmL F (sN F s) k).length (fun j => (jmL F (sN F s) k).getD j false) w e w') := by
  have hga := World.grownBy_alloc w (.cells #[.int .i64 s.at', .slice (some ⟨b1, o1, none⟩) 4 c1, .slice (some ⟨b2, o2, none⟩) 8 c2] 31) none
  have HVR := shade (validRun_any A len cap F s.at' (some ⟨b1, o1, none⟩) 4 c1 (some ⟨b2, o2, none⟩) 8 c2 s.r s.m fuel (w.alloc (.cells #[.int .i64 s.at', .slice (some ⟨b1, o1, none⟩) 4 c1, .slice (some ⟨b2, o2, none⟩) 8 c2] 31)) hl (hC.on hga) (h1.on hga) (h2.on hga) (by omega) (by omega))
  rw [show runB len F s.at' 4 8 s.r s.m fuel = true by simp [runB, hv, hm, inRB]; omega] at HVR
  have hl1 : b1 < w.heap.size := by
    rcases h1 with e1 | ⟨_, _, e1, l1, _⟩
    · omega
    · injection e1 with e1; injection e1 with e1
      subst e1
      exact l1
  have hl2 : b2 < w.heap.size := by
    rcases h2 with e1 | ⟨_, _, e1, l1, _⟩
    · omega
    · injection e1 with e1; injection e1 with e1
      subst e1
      exact l1
  have E1 := shade (show Holds5 (w.alloc (.cells #[.int .i64 s.at', .slice (some ⟨b1, o1, none⟩) 4 c1, .slice (some ⟨b2, o2, none⟩) 8 c2] 31)) w.heap.size 31 #[.int .i64 s.at', .slice (some ⟨b1, o1, none⟩) 4 c1, .slice (some ⟨b2, o2, none⟩) 8 c2] from Holds5.fresh w 31 #[.int .i64 s.at', .slice (some ⟨b1, o1, none⟩) 4 c1, .slice (some ⟨b2, o2, none⟩) 8 c2])
  have E3 := shade hga
  have N1 := shade (h1.on hga)
  have N2 := shade (h2.on hga)
  have HC0 := shade hC
  have HV := shade hv
  have h40 : len ≤ 40 := by
    have hv2 := hv
    simp only [vcB, Bool.and_eq_true, decide_eq_true_eq] at hv2
    exact hv2.2
  have HOK := shade (okS_of hm)
  clear hga hC h1 h2 hv hm
  go_enter Tryd.func27, Tryd.ntmps27
  go_wp2_with fail
  refine HVR.out.mono ?_
  rintro e w1 ⟨rfl, hgr⟩
  have hga := World.grownBy_alloc w1 (.cells #[] 4) none
  have hlow := grown_same (grown_same E3.out hgr) hga
  have HM := shade (show MoO w (w1.alloc (.cells #[] 4)) (w.heap.size + 1) F s 0 (.slice (some ⟨w1.heap.size, 0, none⟩) 0 0) (valB (jmL F (sN F s) 0)) 4 1 (jmL F (sN F s) 0).length b1 o1 c1 b2 o2 c2 from
    ⟨World.ownsRow_lit w1 #[] 0 (by have := (grown_same E3.out hgr).size; have := (E1.out.grown hgr (by intro e; cases e)).inside; omega) (by decide) rfl, (E1.out.grown hgr (by intro e; cases e)).alloc _, (N1.out.on hgr).on hga, (N2.out.on hgr).on hga, ⟨by omega, by omega⟩, (by
      intro j e
      obtain rfl : w1.heap.size = j := by injection e
      have := (E1.out.grown hgr (by intro e; cases e)).inside
      omega), hlow, (by have := (E1.out.grown hgr (by intro e; cases e)).inside; simp; omega), Nat.lt_succ_self _⟩)
  clear hgr hga hlow E1 E3 N1 N2 HVR hl1 hl2
  go_wp2_with fail
  go_loopw [7, 8] (fun v q wr => ∃ (i b1 o1 c1 b2 o2 c2 : Nat), i ≤ fuel ∧ q = .int .i64 i ∧ (∀ j, j < i → sHalt len F (sN F s j) = false) ∧ MoO w wr (w.heap.size + 1) F s i v (valB (jmL F (sN F s) i)) 4 1 (jmL F (sN F s) i).length b1 o1 c1 b2 o2 c2) (fun _ q _ => fuel - (intOf q).toNat)
  case atStart => exact ⟨0, b1, o1, c1, b2, o2, c2, Nat.zero_le _, rfl, fun j hj => absurd hj (Nat.not_lt_zero j), HM.out⟩
  case round =>
    clear HM
    obtain ⟨i, m1, l1, k1, m2, l2, k2, hi, rfl, hgo, hs⟩ := hrel
    obtain ⟨A4, c4, rfl, -⟩ := ownsRow_slice hs.own
    have hok := HOK.out.run HV.out i hgo
    have he : (((sN F s i).at'.toNat : Nat) : Int) = (sN F s i).at' := Int.toNat_of_nonneg hok.lo
    have hc2 : Code wr A len F := HC0.out.on hs.low
    have HHA := shade (halted_any A len cap (sN F s i).at'.toNat F wr hc2 h40)
    rw [he] at HHA
    have x0 := hs.box.look 0; have x1 := hs.box.look 1; have x2 := hs.box.look 2
    simp at x0 x1 x2
    have HGO := shade hgo
    have H5 := shade hs
    have HK := shade hok
    clear hs hgo hc2 he
    by_cases hif : i < fuel
    · rcases hh : haltB len F (sN F s i).at'.toNat with _ | _
      · have hh2 : sHalt len F (sN F s i) = false := hh
        have HH := shade hh2
        rw [hh] at HHA
        clear hh
        obtain ⟨tt, ht⟩ : ∃ tt, sN F s i = tt := ⟨_, rfl⟩
        have n1 := H5.out.n1
        rw [ht] at hok hh2 x0 HHA n1
        have HT := shade ht
        obtain ⟨hlt, _⟩ := halt_parts hh2
        obtain ⟨h40', ⟨rr1, rr2, rr3⟩, ⟨kk0, kk1⟩, hw, h9, hF⟩ := ins_parts HV.out hlt
        obtain ⟨ra0, ra1⟩ := hok.r _ rr2
        have hn7 : nOf F tt.at' = 7 ↔ ((F tt.at'.toNat).op.toList == [98, 122]) = true := by rw [bz_word]; omega
        have hopt : jmOpt F tt = if ((F tt.at'.toNat).op.toList == [98, 122]) = true then [(tt.r (raOf F tt.at') == 0)] else [] := by
          unfold jmOpt
          simp only [hn7]
        obtain ⟨m, hm⟩ := Int.eq_ofNat_of_zero_le hok.lo
        rw [hm] at hlt hF hopt rr2 ra0 ra1 kk0 kk1 x0 HHA
        rw [Int.toNat_natCast] at hlt hF hopt
        generalize raOf F (m : Int) = ra at *
        generalize rbOf F (m : Int) = rb at *
        generalize rdOf F (m : Int) = rd at *
        generalize kOf F (m : Int) = k5 at *
        obtain ⟨op, hop⟩ : ∃ op, (F m).op = op := ⟨_, rfl⟩
        rw [hop] at hF hopt
        obtain ⟨bc, oc, rfl, -⟩ := (HC0.out.on H5.out.low).resolve_left (by omega)
        have q5 := (HC0.out.on H5.out.low).five hlt
        rw [hF] at q5
        simp only [] at q5
        obtain ⟨q0, q1, q2, q3, q4⟩ := q5
        have xa := n1.cell rr2
        have HOPT := shade hopt
        have hm40 : m < 40 := by omega
        have iA : (ra : Int) < 4 := by omega
        have iA0 : (0 : Int) ≤ (ra : Int) := by omega
        clear hok hh2 hw h9 hF hn7 hm hop hopt rr1 rr3 h40' ht n1
        go_wp2_with fail
        refine HHA.out.mono ?_
        rintro e w' ⟨rfl, rfl⟩
        clear HHA
        go_upto_region 8 with (fail)
        have hga := World.grownBy_alloc wr (.cells #[.string op, .int .i64 rd, .int .i64 ra, .int .i64 rb, .int .i64 k5] 24) none
        have hE5 : Holds5 (wr.alloc (.cells #[.string op, .int .i64 rd, .int .i64 ra, .int .i64 rb, .int .i64 k5] 24)) wr.heap.size 24 #[.string op, .int .i64 rd, .int .i64 ra, .int .i64 rb, .int .i64 k5] := Holds5.fresh wr 24 #[.string op, .int .i64 rd, .int .i64 ra, .int .i64 rb, .int .i64 k5]
        have xa5 := hga.cell xa (by intro e; cases e)
        have x05 := hga.cell x0 (by intro e; cases e)
        have x15 := hga.cell x1 (by intro e; cases e)
        have x25 := hga.cell x2 (by intro e; cases e)
        obtain ⟨W5, hW5⟩ : ∃ W5, wr.alloc (.cells #[.string op, .int .i64 rd, .int .i64 ra, .int .i64 rb, .int .i64 k5] 24) = W5 := ⟨_, rfl⟩
        rw [hW5] at hga hE5 xa5 x05 x15 x25 ⊢
        have HA5 := shade hga
        have HE5 := shade hE5
        have y0 := hE5.look 0; have y1 := hE5.look 1; have y2 := hE5.look 2; have y3 := hE5.look 3; have y4 := hE5.look 4
        simp at y0 y1 y2 y3 y4
        clear hga hE5 x0 x1 x2 xa q0 q1 q2 q3 q4 hW5
        have H6 := shade (H5.out.on HA5.out)
        obtain ⟨i0, hi0, hz0, hz1, hz2⟩ := info_parts info4
        have hl3 := jmL_le F (sN F s) i
        have hsz6 : wr.heap.size ≤ W5.heap.size := HA5.out.size
        have hsz5 := HE5.out.inside
        have hE6 := HE5.out
        obtain ⟨x0, x1, x2, xa⟩ := And.intro x05 (And.intro x15 (And.intro x25 xa5))
        clear x05 x15 x25 xa5
        rcases e1 : (op.toList == [98, 122]) with _ | _
        · have hpl2 : jmL F (sN F s) (i + 1) = (jmL F (sN F s) i) := by
            show (jmL F (sN F s) i) ++ jmOpt F (sN F s i) = _
            rw [HT.out, HOPT.out, e1]
            simp
          have H8 := shade (show MoO w W5 (w.heap.size + 1) F s i (.slice A4 (jmL F (sN F s) i).length c4) (valB (jmL F (sN F s) (i + 1))) 4 1 (jmL F (sN F s) (i + 1)).length m1 l1 k1 m2 l2 k2 from by rw [hpl2]; exact H6.out)
          clear H6 H5 HA5 HE5 hi0 hz0 hz1 hz2 hE6 HOPT xa
          clear x0 x1 x2
          have x0 := H8.out.box.look 0; have x1 := H8.out.box.look 1; have x2 := H8.out.box.look 2
          simp at x0 x1 x2
          go_wp2_with fail
          refine (specStep_yes _ len cap F (sN F s i) m1 l1 k1 m2 l2 k2 _ (HC0.out.on H8.out.low) HV.out HK.out HH.out H8.out.n1 H8.out.n2).mono ?_
          rintro e w9 ⟨g1, d1, g2, d2, rfl, hne, ho1, ho2, hgr⟩
          clear y0 y1 y2 y3 y4
          have H9 := shade (MoO.step H8.out hgr ho1 ho2)
          have hb9 := H8.out.box.grown hgr (by intro e; cases e)
          have y0 := hb9.look 0; have y1 := hb9.look 1; have y2 := hb9.look 2; have t0 := hb9.free 0; have t1 := hb9.free 1; have t2 := hb9.free 2
          simp at y0 y1 y2
          have hgx : ∀ j, j < i + 1 → sHalt len F (sN F s j) = false := by
            intro j hj
            by_cases e : j = i
            · rw [e]
              exact HH.out
            · exact HGO.out j (by omega)
          have HGX := shade hgx
          clear hgr ho1 ho2 hb9 x0 x1 x2 H8 hgx HK HH HGO
          go_wp2
          go_roundw
          case rel => exact ⟨i + 1, g1, 0, d1, g2, 0, d2, by omega, by go_num, HGX.out, H9.out⟩
          case measure => simp [intOf]; omega

        · rw [e1] at HOPT
          have hpl : jmL F (sN F s) (i + 1) = (jmL F (sN F s) i) ++ [(tt.r ra == 0)] := by
            show (jmL F (sN F s) i) ++ jmOpt F (sN F s i) = _
            rw [HT.out, HOPT.out]
            simp
          have HPL := shade hpl
          clear hpl HOPT
          go_wp2_with (first
                | (at_builtin; refine wpList_append_own_at _ rfl _ _ 44 rfl (w.heap.size + 1) 4 i0 (.bool false) 1 1 Tryd.underlying44 hi0 hz0 hz1 hz2 rfl (by decide) _ _ _ rfl (World.ownsRow.alloc H6.out.own _) ⟨W5.heap.size, 0, none⟩ 1 1 [.bool (tt.r ra == 0)] rfl rfl (bool_new _ _ _) (bool_one _) (by unfold maxLen; omega) (by omega) (by have := H6.out.big; simp; omega) ?_)
                | go_in)
          intro v' w8 hown8 hgr8 hnil8 hat8
          rw [valB_snoc, ← HPL.out] at hown8
          have hlen8 : (jmL F (sN F s) i).length + 1 = (jmL F (sN F s) (i + 1)).length := by rw [HPL.out, List.length_append]; rfl
          rw [hlen8] at hown8
          have hga := World.grownBy_alloc W5 (.cells #[.bool (tt.r ra == 0)] 4) none
          have H8 := shade ((H6.out.on hga).app hown8 hgr8 (fun j hj => by
            simp only [World.size_alloc] at hat8 ⊢
            rcases hat8 with e | e
            · rw [hj] at e
              exact .inl e.symm
            · rw [hj] at e
              injection e with e
              omega))
          have hE8 := hE6.grown hga (by intro e; cases e)
          have hE9 := hE8.grown hgr8 (fun e => by
            have h3 := (World.ownsRow.lt H5.out.own _ e.symm).2
            omega)
          clear xa HE5 hown8 hgr8 hnil8 hat8 hga hi0 hz0 hz1 hz2 H6 H5 hlen8 hE8 hE6 y0 y1 y2 y3 y4
          have y0 := hE9.look 0; have y1 := hE9.look 1; have y2 := hE9.look 2; have y3 := hE9.look 3; have y4 := hE9.look 4
          simp at y0 y1 y2 y3 y4
          clear hE9
          clear x0 x1 x2
          have x0 := H8.out.box.look 0; have x1 := H8.out.box.look 1; have x2 := H8.out.box.look 2
          simp at x0 x1 x2
          go_wp2_with fail
          refine (specStep_yes _ len cap F (sN F s i) m1 l1 k1 m2 l2 k2 _ (HC0.out.on H8.out.low) HV.out HK.out HH.out H8.out.n1 H8.out.n2).mono ?_
          rintro e w9 ⟨g1, d1, g2, d2, rfl, hne, ho1, ho2, hgr⟩
          clear y0 y1 y2 y3 y4
          have H9 := shade (MoO.step H8.out hgr ho1 ho2)
          have hb9 := H8.out.box.grown hgr (by intro e; cases e)
          have y0 := hb9.look 0; have y1 := hb9.look 1; have y2 := hb9.look 2; have t0 := hb9.free 0; have t1 := hb9.free 1; have t2 := hb9.free 2
          simp at y0 y1 y2
          have hgx : ∀ j, j < i + 1 → sHalt len F (sN F s j) = false := by
            intro j hj
            by_cases e : j = i
            · rw [e]
              exact HH.out
            · exact HGO.out j (by omega)
          have HGX := shade hgx
          clear hgr ho1 ho2 hb9 x0 x1 x2 H8 hgx HK HH HGO
          go_wp2
          go_roundw
          case rel => exact ⟨i + 1, g1, 0, d1, g2, 0, d2, by omega, by go_num, HGX.out, H9.out⟩
          case measure => simp [intOf]; omega

      · rw [hh] at HHA
        go_wp2_with fail
        refine HHA.out.mono ?_
        rintro e w' ⟨rfl, rfl⟩
        clear HHA
        go_wp2_with fail
        go_ret
        refine ⟨i, ⟨by omega, HGO.out, .inr hh⟩, _, rfl, ?_, H5.out.low⟩
        rw [bolL_list]
        exact World.ownsRow.mono H5.out.own (by omega)
    · go_wp2_with fail
      go_ret
      refine ⟨i, ⟨by omega, HGO.out, .inl (by omega)⟩, _, rfl, ?_, H5.out.low⟩
      rw [bolL_list]
      exact World.ownsRow.mono H5.out.own (by omega)

end Go.Proofs.YtkljjacailgdaaaDoor

namespace Go.Proofs.YtkljjacailgdaaaDoor
open Go.RowKit
theorem RowO.bols {wr : World} {lo hi : Nat} {v : Value} {K : Nat} {f : Nat → Bool} (h : RowO wr lo hi 4 v K (bolL K f)) : ∃ A c, v = .slice A K c ∧ Bols wr A K f := by
  rcases h.own.2 with ⟨e', h0⟩ | ⟨g', cap', cur, e', _⟩
  · exact ⟨none, 0, by rw [e', h0], .inl h0⟩
  · have ho := h.own
    rw [e'] at ho
    exact ⟨some ⟨g', 0, none⟩, cap', e', OwnB.bols ho⟩
theorem BolRes.row {k : Nat} {f : Nat → Bool} {w w' : World} {e : Ending} (h : BolRes k f w e w') : ∃ v, e = .returned v ∧ RowO w' w.heap.size w'.heap.size 4 v k (bolL k f) ∧ w.grownBy w' none := by
  obtain ⟨v, he, ho, hg⟩ := h
  exact ⟨v, he, ⟨ho, fun i hi => (World.ownsRow.lt ho i hi).2⟩, hg⟩
theorem markBoolS_row (lo hi K : Nat) (v : Value) (f : Nat → Bool) (m : Int) (w : World) (hm0 : 0 ≤ m) (hm : m + K ≤ 9223372036854775807) (h : RowO w lo hi 4 v K (bolL K f)) :
    Calls Tryd.prog 47 #[v, .int .i64 m] w fun e w' => e = .returned (.int .i64 (m + K)) ∧ RowO w' lo hi 4 v K (bolL K (mk3 m)) ∧ w.grownBy w' v.ownBlock := by
  rcases h.own.2 with ⟨e', h0⟩ | ⟨g', cap', cur, e', _⟩
  · subst e'
    subst h0
    refine (markBoolS_zero none 0 m w).mono ?_
    rintro e w' ⟨rfl, rfl⟩
    exact ⟨by simp, ⟨h.own, h.hib⟩, grown_refl _ _⟩
  · have ho := h.own
    have hb := h.hib
    subst e'
    refine (markBoolS_at lo g' K cap' f m w hm0 hm ho).mono ?_
    rintro e w' ⟨rfl, h1, h2⟩
    exact ⟨rfl, ⟨h1, hb⟩, h2⟩
theorem heldBoolS_row (lo hi K : Nat) (v : Value) (m : Int) (w : World) (hm0 : 0 ≤ m) (hm : m + K ≤ 9223372036854775807) (h : RowO w lo hi 4 v K (bolL K (mk3 m))) :
    Calls Tryd.prog 48 #[v, .int .i64 m] w fun e w' => e = .returned (.int .i64 (m + K)) ∧ w = w' := by
  obtain ⟨A, c, rfl, hn⟩ := h.bols
  exact heldBoolS_any A K c m w hm0 hm hn
theorem eqBoolS_row (lo1 hi1 lo2 hi2 K : Nat) (v1 v2 : Value) (f : Nat → Bool) (w : World) (hK : K ≤ 300) (h1 : RowO w lo1 hi1 4 v1 K (bolL K f)) (h2 : RowO w lo2 hi2 4 v2 K (bolL K f)) :
    Calls Tryd.prog 46 #[v1, v2] w fun e w' => e = .returned (.bool true) ∧ w.grownBy w' none := by
  obtain ⟨A1, c1, rfl, hn1⟩ := h1.bols
  obtain ⟨A2, c2, rfl, hn2⟩ := h2.bols
  refine (eqBoolS_any A1 A2 c1 c2 K f f w (by omega) hn1 hn2 (fun _ _ => rfl)).mono ?_
  rintro e w' ⟨rfl, m, rfl⟩
  exact ⟨rfl, grown_drewN (grown_refl _ _) _⟩

end Go.Proofs.YtkljjacailgdaaaDoor

namespace Go.Proofs.YtkljjacailgdaaaDoor
open Go.RowKit
theorem jumps_both (n : Nat) (F : Nat → Ins) (at' : Int) (n1 n2 : Nat) (f1 f2 : Nat → Int) (fuel : Int) (hn : n ≤ 9223372036854775807) (hn1 : n1 ≤ 9223372036854775807) (hn2 : n2 ≤ 9223372036854775807) :
    ∃ (K : Nat) (f : Nat → Bool), K ≤ 300 ∧ (∀ (A : Option Addr) (cap : Nat) (A1 : Option Addr) (c1 : Nat) (A2 : Option Addr) (c2 : Nat) (W : World), Code W A n F → Nums W A1 n1 f1 → Nums W A2 n2 f2 → Calls Tryd.prog 27 #[.slice A n cap, MV at' A1 n1 c1 A2 n2 c2, .int .i64 fuel] W (BolRes K f W)) ∧
      (∀ (A : Option Addr) (cap : Nat) (A1 : Option Addr) (c1 : Nat) (A2 : Option Addr) (c2 : Nat) (W : World), WT W → Code W A n F → Nums W A1 n1 f1 → Nums W A2 n2 f2 → Calls Tryd.prog 25 #[.slice A n cap, MV at' A1 n1 c1 A2 n2 c2, .int .i64 fuel] W (BolRes K f W)) := by
  obtain ⟨K, g, hK, hRun, hcase⟩ := run_told n F at' n1 n2 f1 f2 fuel hn
  refine ⟨(jmL F g K).length, fun j => (jmL F g K).getD j false, Nat.le_trans (jmL_le F g K) hK, fun A cap A1 c1 A2 c2 W hC h1 h2 => ?_, fun A cap A1 c1 A2 c2 W hg hC h1 h2 => ?_⟩
  · rcases hcase with ⟨hr, rfl⟩ | ⟨hr, rfl, rfl, rfl, hre⟩
    · exact SpecJumpsOf_no A n cap F at' A1 n1 c1 A2 n2 c2 f1 f2 fuel W hn hC h1 h2 hn1 hn2 hr _
    · obtain ⟨hv, hm, hf0, hf1⟩ := runB_parts hr
      obtain ⟨fu, rfl⟩ := Int.eq_ofNat_of_zero_le hf0
      rw [Int.toNat_natCast] at hre
      obtain ⟨b1, o1, rfl, _⟩ := h1.resolve_left (by omega)
      obtain ⟨b2, o2, rfl, _⟩ := h2.resolve_left (by omega)
      refine (SpecJumpsOf_yes A n cap F ⟨at', f1, f2⟩ b1 o1 c1 b2 o2 c2 fu W hn hC h1 h2 hv hm (by omega)).mono ?_
      rintro e w' ⟨k, hk, h⟩
      obtain rfl := hk.uniq hre
      exact h
  · refine JumpsOf_res A n cap at' A1 n1 c1 A2 n2 c2 fuel F K g W hg hC hK (fun i hi => ?_) fun W' hW => hRun A cap A1 c1 A2 c2 W' (hg.below (below_of_grown hW) (wt_lt hg)) (hC.on hW) (h1.on hW) (h2.on hW)
    rcases hcase with ⟨hr, rfl⟩ | ⟨hr, rfl, rfl, rfl, hre⟩
    · omega
    · obtain ⟨hv, hm, hf0, hf1⟩ := runB_parts hr
      exact ⟨hv, (okS_of hm).run hv i (fun j hj => hre.go j (by omega)), hre.go i hi⟩

end Go.Proofs.YtkljjacailgdaaaDoor
