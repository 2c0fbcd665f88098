/- Rows that a call has made: what changes them, what does not; their marks. What may come next behind an instruction, by the program and by its model. NextOf and its model answer alike. -/
import Derived.Test.YtbdlbooooiinkaaDoorG94
import Derived.Test.YtbdlbooooiinkaaDoorG77
import Derived.Deep.QuietTactic
import Derived.BigQuiet
namespace Go.Proofs.YtbdlbooooiinkaaDoor
open Go.RowKit
/-- A row that a call has made, in a stretch of memory. -/
structure RowO (wr : World) (lo hi : Nat) (e : TypeId) (v : Value) (K : Nat) (xs : List Value) : Prop where
  own : wr.ownsRow lo e 1 v K xs
  hib : ∀ i, v.ownBlock = some i → i < hi
section
variable {w w' wr w2 : World} {lo hi : Nat} {e : TypeId} {v : Value} {K : Nat} {xs : List Value} {Q1 Q2 : Option Addr}
theorem RowO.rng (h : RowO wr lo hi e v K xs) {i : Nat} (hi' : v.ownBlock = some i) : lo ≤ i ∧ i < hi := ⟨(World.ownsRow.lt h.own i hi').1, h.hib i hi'⟩
theorem RowO.grown (h : RowO wr lo hi e v K xs) (hg : wr.grownBy w2 none) : RowO w2 lo hi e v K xs := ⟨ownsRow_on h.own hg, h.hib⟩
theorem RowO.row {row : Option Nat} (h : RowO wr lo hi e v K xs) (hg : wr.grownBy w2 row) (hb : ∀ b, row = some b → b < lo ∨ hi ≤ b) : RowO w2 lo hi e v K xs := by
  refine ⟨?_, h.hib⟩
  rcases hv : v.ownBlock with _ | i
  · exact World.ownsRow.kept h.own hg (.inl hv)
  · refine World.ownsRow.kept h.own hg (.inr fun e' => ?_)
    rw [hv] at e'
    have h1 := h.rng hv
    have h2 := hb i e'.symm
    omega
theorem RowO.butO {lo' hi' : Nat} (h : RowO wr lo hi e v K xs) (hg : ButO wr w2 Q1 Q2) (hq : Within lo' hi' Q1 Q2) (hl : hi ≤ lo' ∨ hi' ≤ lo) : RowO w2 lo hi e v K xs := by
  refine ⟨⟨h.own.1, ?_⟩, h.hib⟩
  rcases h.own.2 with h' | ⟨g', cap', cur, e', hB, hg', rest⟩
  · exact .inl h'
  · have hr := h.rng (i := g') (by rw [e']; rfl)
    have hlt := (World.ownsRow.lt h.own g' (by rw [e']; rfl)).2
    refine .inr ⟨g', cap', cur, e', hB, ?_, rest⟩
    rw [hg.block g' hlt (hq.ne (by omega)).1 (hq.ne (by omega)).2]
    exact hg'
theorem RowO.nums {f : Nat → Int} (h : RowO wr lo hi 3 v K (numL K f)) : ∃ A c, v = .slice A K c ∧ Nums wr A K f := by
  rcases h.own.2 with ⟨e', h0⟩ | ⟨g', cap', cur, e', _⟩
  · exact ⟨none, 0, by rw [e', h0], .inl h0⟩
  · have ho := h.own
    rw [e'] at ho
    exact ⟨some ⟨g', 0, none⟩, cap', e', Own.nums ho⟩
/-- Where the row lies, a block may be changed: what lies elsewhere stays. -/
theorem RowO.other (h : RowO wr lo hi e v K xs) {b : Nat} (hb : b < lo ∨ hi ≤ b) : v.ownBlock ≠ some b := fun e' => by
  have := h.rng e'
  omega
end
theorem NumRes.row {k : Nat} {f : Nat → Int} {w w' : World} {e : Ending} (h : NumRes k f w e w') : ∃ v, e = .returned v ∧ RowO w' w.heap.size w'.heap.size 3 v k (numL k f) ∧ w.grownBy w' none := by
  obtain ⟨v, he, ho, hg⟩ := h
  exact ⟨v, he, ⟨ho, fun i hi => (World.ownsRow.lt ho i hi).2⟩, hg⟩
theorem markIntS_row (lo hi K : Nat) (v : Value) (f : Nat → Int) (m : Int) (w : World) (hm0 : 0 ≤ m) (hm : m + K ≤ 9223372036854775807) (h : RowO w lo hi 3 v K (numL K f)) :
    Calls Tryd.prog 32 #[v, .int .i64 m] w fun e w' => e = .returned (.int .i64 (m + K)) ∧ RowO w' lo hi 3 v K (numL K (fun j => m + (j : Int))) ∧ w.grownBy w' v.ownBlock := by
  rcases h.own.2 with ⟨e', h0⟩ | ⟨g', cap', cur, e', _⟩
  · subst e'
    subst h0
    refine (markIntS_zero none 0 m w).mono ?_
    rintro e w' ⟨rfl, rfl⟩
    exact ⟨by simp, ⟨h.own, h.hib⟩, grown_refl _ _⟩
  · have ho := h.own
    have hb := h.hib
    subst e'
    refine (markIntS_at lo g' K cap' f m w hm0 hm ho).mono ?_
    rintro e w' ⟨rfl, h1, h2⟩
    exact ⟨rfl, ⟨h1, hb⟩, h2⟩
theorem heldIntS_row (lo hi K : Nat) (v : Value) (m : Int) (w : World) (hm0 : 0 ≤ m) (hm : m + K ≤ 9223372036854775807) (h : RowO w lo hi 3 v K (numL K (fun j => m + (j : Int)))) :
    Calls Tryd.prog 33 #[v, .int .i64 m] w fun e w' => e = .returned (.int .i64 (m + K)) ∧ w = w' := by
  obtain ⟨A, c, rfl, hn⟩ := h.nums
  exact heldIntS_any A K c m w hm0 hm hn
theorem eqIntS_row (lo1 hi1 lo2 hi2 K : Nat) (v1 v2 : Value) (f : Nat → Int) (w : World) (hK : K ≤ 300) (h1 : RowO w lo1 hi1 3 v1 K (numL K f)) (h2 : RowO w lo2 hi2 3 v2 K (numL K f)) :
    Calls Tryd.prog 29 #[v1, v2] w fun e w' => e = .returned (.bool true) ∧ w.grownBy w' none := by
  obtain ⟨A1, c1, rfl, hn1⟩ := h1.nums
  obtain ⟨A2, c2, rfl, hn2⟩ := h2.nums
  refine (eqIntS_any A1 A2 c1 c2 K f f w (by omega) hn1 hn2 (fun _ _ => rfl)).mono ?_
  rintro e w' ⟨rfl, m, rfl⟩
  exact ⟨rfl, grown_drewN (grown_refl _ _) _⟩

end Go.Proofs.YtbdlbooooiinkaaDoor

namespace Go.Proofs.YtbdlbooooiinkaaDoor
open Go.RowKit
set_option linter.unusedSimpArgs false
theorem word9 (l : List UInt8) : (wordN l == 9) = (l == [104, 108, 116]) := by
  rw [Bool.eq_iff_iff, beq_iff_eq, beq_iff_eq]
  constructor
  · intro h
    rcases word_is l 9 (by omega) h with h | h | h | h | h | h | h | h | h | h
    all_goals first
      | exact absurd h.1 (by omega)
      | exact (beq_iff_eq.1 h.2).symm
  · intro h
    rw [h]
    exact wordN_at9
/-- Numbers as cells. -/
def valI (l : List Int) : List Value := l.map (Value.int .i64)
theorem numL_valI (l : List Int) : numL l.length (fun j => l.getD j 0) = valI l := by
  unfold numL valI
  apply List.ext_getElem
  · simp
  · intro i h1 h2
    have hi : i < l.length := by simpa using h1
    simp [hi]
theorem valI_snoc (l : List Int) (x : Int) : valI l ++ [.int .i64 x] = valI (l ++ [x]) := by
  unfold valI
  rw [List.map_append]
  rfl
/-- What a call leaves that makes these numbers. -/
def IntRes (l : List Int) (w : World) (e : Ending) (w' : World) : Prop :=
  ∃ v, e = .returned v ∧ w'.ownsRow w.heap.size 3 1 v l.length (valI l) ∧ w.grownBy w' none
theorem IntRes.num {l : List Int} {w w' : World} {e : Ending} (h : IntRes l w e w') : NumRes l.length (fun j => l.getD j 0) w e w' := by
  obtain ⟨v, he, ho, hg⟩ := h
  exact ⟨v, he, by rw [numL_valI]; exact ho, hg⟩
theorem IntRes.nil (w w' : World) (hg : w.grownBy w' none) : IntRes [] w (.returned (.slice none 0 0)) w' := ⟨_, rfl, World.ownsRow_nil _ _ _ _, hg⟩
theorem IntRes.after {l : List Int} {w w1 w2 : World} {e : Ending} (hg : w.grownBy w1 none) (h : IntRes l w1 e w2) : IntRes l w e w2 := by
  obtain ⟨v, he, ho, h2⟩ := h
  exact ⟨v, he, World.ownsRow.mono ho hg.size, grown_same hg h2⟩
/-- What may come next behind the instruction i. -/
def nxI (c : Ins) (i : Nat) : List Int :=
  if (c.op.toList == [104, 108, 116]) = true then []
  else if (c.op.toList == [106, 109, 112]) = true then [c.k]
  else if (c.op.toList == [98, 122]) = true then (if (c.k == (i : Int) + 1) = true then [(i : Int) + 1] else [(i : Int) + 1, c.k])
  else [(i : Int) + 1]
theorem nxI_le (c : Ins) (i : Nat) : (nxI c i).length ≤ 2 := by
  unfold nxI
  repeat' split
  all_goals simp
set_option maxHeartbeats 4000000 in
theorem nextOf_any (b off n c i : Nat) (F : Nat → Ins) (w : World) (hn : n ≤ 40) (hi : i < n) (h : Code w (some ⟨b, off, none⟩) n F) :
    Calls Tryd.prog 52 #[.slice (some ⟨b, off, none⟩) n c, .int .i64 i] w (IntRes (nxI (F i) i) w) := by
  obtain ⟨q0, q1, q2, q3, q4⟩ := h.five hi
  clear h
  generalize F i = cc at *
  obtain ⟨op, d, a, b', kk⟩ := cc
  simp only [] at q0 q1 q2 q3 q4
  unfold nxI
  simp only []
  have g1 := World.grownBy_alloc w (.cells #[] 3) none
  rcases e9 : (op.toList == [104, 108, 116]) with _ | _
  · rcases e8 : (op.toList == [106, 109, 112]) with _ | _
    · rcases e7 : (op.toList == [98, 122]) with _ | _
      · go_enter Tryd.func52, Tryd.ntmps52
        go_wp2
        go_ret
        exact ⟨_, rfl, World.ownsRow_lit (base := w.heap.size) (e := 3) (size := 1) w #[.int .i64 ((i : Int) + 1)] 1 (by omega) (by decide) rfl, World.grownBy_alloc _ _ _⟩
      · rcases ek : (kk == (i : Int) + 1) with _ | _
        · go_enter Tryd.func52, Tryd.ntmps52
          go_wp2
          go_ret
          exact ⟨_, rfl, World.ownsRow_lit (base := w.heap.size) (e := 3) (size := 1) w #[.int .i64 ((i : Int) + 1), .int .i64 kk] 2 (by omega) (by decide) rfl, World.grownBy_alloc _ _ _⟩
        · go_enter Tryd.func52, Tryd.ntmps52
          go_wp2
          go_ret
          exact ⟨_, rfl, World.ownsRow_lit (base := w.heap.size) (e := 3) (size := 1) w #[.int .i64 ((i : Int) + 1)] 1 (by omega) (by decide) rfl, World.grownBy_alloc _ _ _⟩
    · go_enter Tryd.func52, Tryd.ntmps52
      go_wp2
      go_ret
      exact ⟨_, rfl, World.ownsRow_lit (base := w.heap.size) (e := 3) (size := 1) w #[.int .i64 kk] 1 (by omega) (by decide) rfl, World.grownBy_alloc _ _ _⟩
  · go_enter Tryd.func52, Tryd.ntmps52
    go_wp2
    go_ret
    exact ⟨_, rfl, World.ownsRow_lit (base := w.heap.size) (e := 3) (size := 1) w #[] 0 (by omega) (by decide) rfl, g1⟩
end Go.Proofs.YtbdlbooooiinkaaDoor

namespace Go.Proofs.YtbdlbooooiinkaaDoor
open Go.RowKit
set_option linter.unusedSimpArgs false
set_option maxHeartbeats 4000000 in
theorem pNextOf_at (b off n c i : Nat) (F : Nat → Ins) (w : World) (hg : WT w) (hn : n ≤ 40) (hi : i < n) (h : Code w (some ⟨b, off, none⟩) n F) :
    Calls Tryd.prog 46 #[.slice (some ⟨b, off, none⟩) n c, .int .i64 i] w (IntRes (nxI (F i) i) w) := by
  obtain ⟨q0, q1, q2, q3, q4⟩ := h.five hi
  have HG := shade hg
  have hne : (i == n) = false := by simp; omega
  have hni : ((i : Int) == (n : Int)) = false := by simp; omega
  clear h hg
  generalize F i = cc at *
  obtain ⟨op, d, a, b', kk⟩ := cc
  simp only [] at q0 q1 q2 q3 q4
  have HW := shade (fun W (hW : WT W) => wordOf_any op W hW)
  unfold nxI
  simp only []
  have h9 := word9 op.toList
  have h8 := word8 op.toList
  have h7 := word7 op.toList
  rcases e9 : (op.toList == [104, 108, 116]) with _ | _
  · rw [e9] at h9
    rcases e8 : (op.toList == [106, 109, 112]) with _ | _
    · rw [e8] at h8
      rcases e7 : (op.toList == [98, 122]) with _ | _
      · rw [e7] at h7
        clear e9 e8 e7
        generalize wordN op.toList = x at *
        go_enter Tryd.func46, Tryd.ntmps46
        go_wp2_with (first | (go_at_call 63; refine (HW.out _ (HG.out.alloc _)).mono ?_; rintro e w' ⟨rfl, rfl⟩))
        go_ret
        exact ⟨.slice (some ⟨w.heap.size + 1, 0, none⟩) 1 1, rfl, by have h := World.ownsRow_lit (base := w.heap.size) (e := 3) (size := 1) (w.alloc (.cells #[.string op, .int .i64 d, .int .i64 a, .int .i64 b', .int .i64 kk] 86)) #[.int .i64 ((i : Int) + 1)] 1 (by simp) (by decide) rfl; rw [World.size_alloc] at h; exact h, grown_same (World.grownBy_alloc _ _ _) (World.grownBy_alloc _ _ _)⟩
      · rw [e7] at h7
        clear e9 e8 e7
        rcases ek : (kk == (i : Int) + 1) with _ | _
        · have ek2 : (kk != (i : Int) + 1) = true := by rw [bne, ek]; rfl
          generalize wordN op.toList = x at *
          go_enter Tryd.func46, Tryd.ntmps46
          go_wp2_with (first | (go_at_call 63; refine (HW.out _ (HG.out.alloc _)).mono ?_; rintro e w' ⟨rfl, rfl⟩))
          go_ret
          exact ⟨.slice (some ⟨w.heap.size + 1, 0, none⟩) 2 2, rfl, by have h := World.ownsRow_lit (base := w.heap.size) (e := 3) (size := 1) (w.alloc (.cells #[.string op, .int .i64 d, .int .i64 a, .int .i64 b', .int .i64 kk] 86)) #[.int .i64 ((i : Int) + 1), .int .i64 kk] 2 (by simp) (by decide) rfl; rw [World.size_alloc] at h; exact h, grown_same (World.grownBy_alloc _ _ _) (World.grownBy_alloc _ _ _)⟩
        · have ek2 : (kk != (i : Int) + 1) = false := by rw [bne, ek]; rfl
          generalize wordN op.toList = x at *
          go_enter Tryd.func46, Tryd.ntmps46
          go_wp2_with (first | (go_at_call 63; refine (HW.out _ (HG.out.alloc _)).mono ?_; rintro e w' ⟨rfl, rfl⟩))
          go_ret
          exact ⟨.slice (some ⟨w.heap.size + 1, 0, none⟩) 1 1, rfl, by have h := World.ownsRow_lit (base := w.heap.size) (e := 3) (size := 1) (w.alloc (.cells #[.string op, .int .i64 d, .int .i64 a, .int .i64 b', .int .i64 kk] 86)) #[.int .i64 ((i : Int) + 1)] 1 (by simp) (by decide) rfl; rw [World.size_alloc] at h; exact h, grown_same (World.grownBy_alloc _ _ _) (World.grownBy_alloc _ _ _)⟩
    · rw [e8] at h8
      clear e9 e8
      generalize wordN op.toList = x at *
      go_enter Tryd.func46, Tryd.ntmps46
      go_wp2_with (first | (go_at_call 63; refine (HW.out _ (HG.out.alloc _)).mono ?_; rintro e w' ⟨rfl, rfl⟩))
      go_ret
      exact ⟨.slice (some ⟨w.heap.size + 1, 0, none⟩) 1 1, rfl, by have h := World.ownsRow_lit (base := w.heap.size) (e := 3) (size := 1) (w.alloc (.cells #[.string op, .int .i64 d, .int .i64 a, .int .i64 b', .int .i64 kk] 86)) #[.int .i64 kk] 1 (by simp) (by decide) rfl; rw [World.size_alloc] at h; exact h, grown_same (World.grownBy_alloc _ _ _) (World.grownBy_alloc _ _ _)⟩
  · rw [e9] at h9
    clear e9
    generalize wordN op.toList = x at *
    go_enter Tryd.func46, Tryd.ntmps46
    go_wp2_with (first | (go_at_call 63; refine (HW.out _ (HG.out.alloc _)).mono ?_; rintro e w' ⟨rfl, rfl⟩))
    go_ret
    exact IntRes.nil _ _ (World.grownBy_alloc _ _ _)
theorem pNextOf_end (A : Option Addr) (n c : Nat) (w : World) :
    Calls Tryd.prog 46 #[.slice A n c, .int .i64 n] w (IntRes [] w) := by
  have hne : (n == n) = true := by simp
  go_enter Tryd.func46, Tryd.ntmps46
  go_wp2
  go_ret
  exact IntRes.nil _ _ (grown_refl _ _)
/-- What NextOf gives. -/
def nxA (n : Nat) (F : Nat → Ins) (i : Int) : List Int :=
  if vcB n F = true ∧ 0 ≤ i ∧ i < n then nxI (F i.toNat) i.toNat else []
theorem vcB_40 {n : Nat} {F : Nat → Ins} (h : vcB n F = true) : n ≤ 40 := by
  simp only [vcB, Bool.and_eq_true, decide_eq_true_eq] at h
  exact h.2
theorem nxA_le (n : Nat) (F : Nat → Ins) (i : Int) : (nxA n F i).length ≤ 2 := by
  unfold nxA
  split
  · exact nxI_le _ _
  · simp
set_option maxHeartbeats 4000000 in
theorem INextOf_any (A : Option Addr) (n c : Nat) (F : Nat → Ins) (i : Int) (w : World) (hg : WT w) (hn : n ≤ 9223372036854775807) (h : Code w A n F) :
    Calls Tryd.prog 15 #[.slice A n c, .int .i64 i] w (IntRes (nxA n F i) w) := by
  have HV := shade (ValidCode_any A n c F w hg hn h)
  have HG := shade hg
  have HC := shade h
  clear hg h
  unfold nxA
  rcases hv : vcB n F with _ | _
  · rw [hv] at HV
    rw [if_neg (by simp)]
    go_enter Tryd.func15, Tryd.ntmps15
    go_wp2_with fail
    refine HV.out.mono ?_
    rintro e w1 ⟨rfl, hgr⟩
    have HR := shade hgr
    clear hgr HV
    go_wp2_with fail
    go_ret
    exact IntRes.nil _ _ HR.out
  · have hn40 := vcB_40 hv
    rw [hv] at HV
    by_cases h0 : 0 ≤ i
    · by_cases h1 : i < n
      · rw [if_pos ⟨rfl, h0, h1⟩]
        obtain ⟨j, rfl⟩ := Int.eq_ofNat_of_zero_le h0
        rw [Int.toNat_natCast]
        obtain ⟨b, off, rfl, _⟩ := HC.out.resolve_left (by omega)
        go_enter Tryd.func15, Tryd.ntmps15
        go_wp2_with fail
        refine HV.out.mono ?_
        rintro e w1 ⟨rfl, hgr⟩
        have HR := shade hgr
        clear hgr HV
        go_wp2_with fail
        refine (pNextOf_at b off n c j F w1 (HG.out.below (below_of_grown HR.out) (wt_lt HG.out)) hn40 (by omega) (HC.out.on HR.out)).mono ?_
        rintro e w2 ⟨v, rfl, ho, hg2⟩
        have HO := shade (IntRes.after HR.out ⟨v, rfl, ho, hg2⟩)
        clear ho hg2
        go_wp2_with fail
        go_ret
        exact HO.out
      · rw [if_neg (by simp; omega)]
        go_enter Tryd.func15, Tryd.ntmps15
        go_wp2_with fail
        refine HV.out.mono ?_
        rintro e w1 ⟨rfl, hgr⟩
        have HR := shade hgr
        clear hgr HV
        go_wp2_with fail
        go_ret
        exact IntRes.nil _ _ HR.out
    · rw [if_neg (by simp; omega)]
      go_enter Tryd.func15, Tryd.ntmps15
      go_wp2_with fail
      refine HV.out.mono ?_
      rintro e w1 ⟨rfl, hgr⟩
      have HR := shade hgr
      clear hgr HV
      go_wp2_with fail
      go_ret
      exact IntRes.nil _ _ HR.out
set_option maxHeartbeats 4000000 in
theorem SNextOf_any (A : Option Addr) (n c : Nat) (F : Nat → Ins) (i : Int) (w : World) (hn : n ≤ 9223372036854775807) (h : Code w A n F) :
    Calls Tryd.prog 22 #[.slice A n c, .int .i64 i] w (IntRes (nxA n F i) w) := by
  have HV := shade (validCode_any A n c F w hn h)
  have HC := shade h
  clear h
  unfold nxA
  rcases hv : vcB n F with _ | _
  · rw [hv] at HV
    rw [if_neg (by simp)]
    go_enter Tryd.func22, Tryd.ntmps22
    go_wp2_with fail
    refine HV.out.mono ?_
    rintro e w1 ⟨rfl, hgr⟩
    have HR := shade hgr
    clear hgr HV
    go_wp2_with fail
    go_ret
    exact IntRes.nil _ _ HR.out
  · have hn40 := vcB_40 hv
    rw [hv] at HV
    have hin : ∀ W : World, Calls Tryd.prog 51 #[.int .i64 i, .int .i64 0, .int .i64 ((n : Int) - 1)] W fun e w' => e = .returned (.bool (inRB i 0 ((n : Int) - 1))) ∧ W = w' := fun W => inRB_any _ _ _ W
    have HI := shade hin
    clear hin
    by_cases h0 : 0 ≤ i ∧ i < n
    · rw [if_pos ⟨rfl, h0.1, h0.2⟩]
      rw [show inRB i 0 ((n : Int) - 1) = true by simp [inRB]; omega] at HI
      obtain ⟨j, rfl⟩ := Int.eq_ofNat_of_zero_le h0.1
      rw [Int.toNat_natCast]
      obtain ⟨b, off, rfl, _⟩ := HC.out.resolve_left (by omega)
      have hj : j < n := by omega
      clear h0
      go_enter Tryd.func22, Tryd.ntmps22
      go_wp2_with fail
      refine HV.out.mono ?_
      rintro e w1 ⟨rfl, hgr⟩
      have HR := shade hgr
      clear hgr HV
      go_wp2_with fail
      refine (HI.out _).mono ?_
      rintro e w2 ⟨rfl, rfl⟩
      go_wp2_with fail
      refine (nextOf_any b off n c j F w1 hn40 hj (HC.out.on HR.out)).mono ?_
      rintro e w2 ⟨v, rfl, ho, hg2⟩
      have HO := shade (IntRes.after HR.out ⟨v, rfl, ho, hg2⟩)
      clear ho hg2
      go_wp2_with fail
      go_ret
      exact HO.out
    · rw [if_neg (by simp; omega)]
      rw [show inRB i 0 ((n : Int) - 1) = false by simp [inRB]; omega] at HI
      clear h0
      go_enter Tryd.func22, Tryd.ntmps22
      go_wp2_with fail
      refine HV.out.mono ?_
      rintro e w1 ⟨rfl, hgr⟩
      have HR := shade hgr
      clear hgr HV
      go_wp2_with fail
      refine (HI.out _).mono ?_
      rintro e w2 ⟨rfl, rfl⟩
      go_wp2_with fail
      go_ret
      exact IntRes.nil _ _ HR.out
/-- NextOf and its model give the same numbers. -/
theorem next_both (n : Nat) (F : Nat → Ins) (i : Int) (hn : n ≤ 9223372036854775807) :
    ∃ (K : Nat) (f : Nat → Int), K ≤ 300 ∧ (∀ (A : Option Addr) (c : Nat) (W : World), Code W A n F → Calls Tryd.prog 22 #[.slice A n c, .int .i64 i] W (NumRes K f W)) ∧
      (∀ (A : Option Addr) (c : Nat) (W : World), WT W → Code W A n F → Calls Tryd.prog 15 #[.slice A n c, .int .i64 i] W (NumRes K f W)) :=
  ⟨(nxA n F i).length, fun j => (nxA n F i).getD j 0, by have := nxA_le n F i; omega, fun A c W hC => (SNextOf_any A n c F i W hn hC).mono fun _ _ h => h.num, fun A c W hg hC => (INextOf_any A n c F i W hg hn hC).mono fun _ _ h => h.num⟩
end Go.Proofs.YtbdlbooooiinkaaDoor
