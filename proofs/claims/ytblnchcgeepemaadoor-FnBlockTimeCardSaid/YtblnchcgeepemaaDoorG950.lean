/- What an instruction of a block takes, and how long one waits for another; plain facts. The small words of blocks: ticks, and what is a block. -/
import Derived.Test.YtblnchcgeepemaaDoorW52
import Derived.Test.YtblnchcgeepemaaDoorW17
namespace Go.Proofs.YtblnchcgeepemaaDoor
open Go.RowKit
theorem word3 (l : List UInt8) : (wordN l == 3) = (l == [109, 117, 108]) := by
  rw [Bool.eq_iff_iff, beq_iff_eq, beq_iff_eq]
  constructor
  · intro h
    rcases word_is l 3 (by omega) h with h | h | h | h | h | h | h | h | h | h
    all_goals first
      | exact absurd h.1 (by omega)
      | exact (beq_iff_eq.1 h.2).symm
  · intro h
    rw [h]
    exact wordN_at3
theorem word5 (l : List UInt8) : (wordN l == 5) = (l == [108, 100]) := by
  rw [Bool.eq_iff_iff, beq_iff_eq, beq_iff_eq]
  constructor
  · intro h
    rcases word_is l 5 (by omega) h with h | h | h | h | h | h | h | h | h | h
    all_goals first
      | exact absurd h.1 (by omega)
      | exact (beq_iff_eq.1 h.2).symm
  · intro h
    rw [h]
    exact wordN_at5
theorem word6 (l : List UInt8) : (wordN l == 6) = (l == [115, 116]) := by
  rw [Bool.eq_iff_iff, beq_iff_eq, beq_iff_eq]
  constructor
  · intro h
    rcases word_is l 6 (by omega) h with h | h | h | h | h | h | h | h | h | h
    all_goals first
      | exact absurd h.1 (by omega)
      | exact (beq_iff_eq.1 h.2).symm
  · intro h
    rw [h]
    exact wordN_at6
theorem word9' (l : List UInt8) : (wordN l == 9) = (l == [104, 108, 116]) := by
  rw [Bool.eq_iff_iff, beq_iff_eq, beq_iff_eq]
  constructor
  · intro h
    rcases word_is l 9 (by omega) h with h | h | h | h | h | h | h | h | h | h
    all_goals first
      | exact absurd h.1 (by omega)
      | exact (beq_iff_eq.1 h.2).symm
  · intro h
    rw [h]
    exact wordN_at9
/-- How many ticks. -/
def lat (l : List UInt8) : Int := if (l == [108, 100]) = true then 3 else if (l == [109, 117, 108]) = true then 2 else 1
theorem lat_rng (l : List UInt8) : 1 ≤ lat l ∧ lat l ≤ 3 := by
  unfold lat
  repeat' split
  all_goals omega
theorem lat_is (l : List UInt8) : lat l = 1 ∨ lat l = 2 ∨ lat l = 3 := by
  have := lat_rng l
  omega
/-- Is it valid? -/
def vI (c : Ins) : Bool := vB c.op.toList c.d c.a c.b c.k
def tkI (c : Ins) : Int := if vI c = true then lat c.op.toList else -1
/-- What is read and what is written. -/
def rdI (c : Ins) : Int := usesR (wordN c.op.toList).toNat c.d c.a c.b
def wrI (c : Ins) : Int := usesW (wordN c.op.toList).toNat c.d
/-- Two that may meet in memory. -/
def memB (x y : List UInt8) : Bool := ((x == [115, 116]) && ((y == [115, 116]) || (y == [108, 100]))) || ((x == [108, 100]) && (y == [115, 116]))
theorem memB_comm (x y : List UInt8) : memB x y = memB y x := by
  unfold memB
  cases x == [115, 116] <;> cases y == [115, 116] <;> cases x == [108, 100] <;> cases y == [108, 100] <;> rfl
/-- How long b waits for a, which is ahead of it. -/
def wtI (a b : Ins) : Int :=
  if (bits .and .i64 (wrI a) (rdI b) != 0) = true then lat a.op.toList
  else if (bits .and .i64 (wrI a) (wrI b) != 0) = true then max 1 (lat a.op.toList - lat b.op.toList + 1)
  else if ((bits .and .i64 (rdI a) (wrI b) != 0) || memB a.op.toList b.op.toList) = true then 1 else 0
theorem wtI_rng (a b : Ins) : 0 ≤ wtI a b ∧ wtI a b ≤ 3 := by
  have h1 := lat_rng a.op.toList
  have h2 := lat_rng b.op.toList
  unfold wtI
  repeat' split
  all_goals omega
theorem and_comm_i (x y : Int) : bits .and .i64 x y = bits .and .i64 y x := by
  show IntKind.i64.wrap ((BitVec.ofInt 64 x &&& BitVec.ofInt 64 y).toNat : Int) = IntKind.i64.wrap ((BitVec.ofInt 64 y &&& BitVec.ofInt 64 x).toNat : Int)
  rw [BitVec.and_comm]
theorem wtI_zero {a b : Ins} : wtI a b = 0 ↔ ((bits .and .i64 (wrI a) (rdI b) != 0) = false ∧ (bits .and .i64 (wrI a) (wrI b) != 0) = false ∧ (bits .and .i64 (rdI a) (wrI b) != 0) = false ∧ memB a.op.toList b.op.toList = false) := by
  have h1 := lat_rng a.op.toList
  have h2 := lat_rng b.op.toList
  unfold wtI
  rcases e1 : (bits .and .i64 (wrI a) (rdI b) != 0) with _ | _
  · rcases e2 : (bits .and .i64 (wrI a) (wrI b) != 0) with _ | _
    · rcases e3 : (bits .and .i64 (rdI a) (wrI b) != 0) with _ | _
      · rcases e4 : memB a.op.toList b.op.toList with _ | _ <;> simp
      · simp
    · simp
      omega
  · simp
    omega
theorem wtI_comm {a b : Ins} : wtI a b = 0 ↔ wtI b a = 0 := by
  rw [wtI_zero, wtI_zero, memB_comm a.op.toList b.op.toList, and_comm_i (wrI a) (rdI b), and_comm_i (wrI a) (wrI b), and_comm_i (rdI a) (wrI b)]
  constructor
  · rintro ⟨h1, h2, h3, h4⟩
    exact ⟨h3, h2, h1, h4⟩
  · rintro ⟨h1, h2, h3, h4⟩
    exact ⟨h3, h2, h1, h4⟩
/-- Is it one of a block? -/
def blI (c : Ins) : Bool := vI c && (!jmpB c.op.toList && !(c.op.toList == [104, 108, 116]))
/-- Is it a block? -/
def blB (n : Nat) (F : Nat → Ins) : Bool := ((List.range n).all fun j => blI (F j)) && decide (n ≤ 6)
theorem allB_iff {n : Nat} {F : Nat → Ins} : ((List.range n).all fun j => blI (F j)) = true ↔ ∀ j, j < n → blI (F j) = true := by
  simp [List.all_eq_true]
theorem blB_no {n k : Nat} {F : Nat → Ins} (hk : k < n) (h : blI (F k) = false) : blB n F = false := by
  rw [Bool.eq_false_iff]
  intro hv
  simp only [blB, Bool.and_eq_true] at hv
  rw [allB_iff.1 hv.1 k hk] at h
  cases h
theorem blB_all {n : Nat} {F : Nat → Ins} (h : ∀ j, j < n → blI (F j) = true) : blB n F = decide (n ≤ 6) := by
  unfold blB
  rw [allB_iff.2 h]
  rfl
theorem blB_big {n : Nat} {F : Nat → Ins} (h : 6 < n) : blB n F = false := by
  unfold blB
  rw [show decide (n ≤ 6) = false from decide_eq_false (by omega), Bool.and_false]
theorem blB_6 {n : Nat} {F : Nat → Ins} (h : blB n F = true) : n ≤ 6 := by
  simp only [blB, Bool.and_eq_true, decide_eq_true_eq] at h
  exact h.2
theorem blB_at {n : Nat} {F : Nat → Ins} (h : blB n F = true) {j : Nat} (hj : j < n) : blI (F j) = true := by
  simp only [blB, Bool.and_eq_true] at h
  exact allB_iff.1 h.1 j hj
theorem blI_v {c : Ins} (h : blI c = true) : vI c = true := by
  unfold blI at h
  simp only [Bool.and_eq_true] at h
  exact h.1
/-- A valid one has a word. -/
theorem vI_word {c : Ins} (h : vI c = true) : 0 ≤ wordN c.op.toList ∧ wordN c.op.toList < 10 := by
  have h2 := vB_true.1 h
  unfold VI at h2
  omega
end Go.Proofs.YtblnchcgeepemaaDoor

namespace Go.Proofs.YtblnchcgeepemaaDoor
open Go.RowKit
set_option linter.unusedSimpArgs false
set_option maxHeartbeats 1000000 in
theorem latency_any (op : ByteArray) (w : World) :
    Calls Tryd.prog 39 #[.string op] w fun e w' => e = .returned (.int .i64 (lat op.toList)) ∧ w = w' := by
  unfold lat
  rcases e1 : (op.toList == [108, 100]) with _ | _
  · rcases e2 : (op.toList == [109, 117, 108]) with _ | _
    all_goals
      go_enter Tryd.func39, Tryd.ntmps39
      go_wp2
      go_ret
      exact ⟨rfl, rfl⟩
  · go_enter Tryd.func39, Tryd.ntmps39
    go_wp2
    go_ret
    exact ⟨rfl, rfl⟩
set_option maxHeartbeats 1000000 in
theorem ITicksOf_any (op : ByteArray) (d a b k : Int) (w : World) (hg : WT w) :
    Calls Tryd.prog 10 #[IV op d a b k] w fun e w' => e = .returned (.int .i64 (tkI ⟨op, d, a, b, k⟩)) ∧ w.grownBy w' none := by
  have HG := shade hg
  clear hg
  unfold tkI vI
  have HVI := shade (fun W (hW : WT W) => ValidInstr_any op d a b k W hW)
  rcases hv : vB op.toList d a b k with _ | _
  · rw [hv] at HVI
    go_enter Tryd.func10, Tryd.ntmps10
    go_wp2_with fail
    refine (HVI.out _ (HG.out.alloc _)).mono ?_
    rintro e w1 ⟨rfl, hb⟩
    have HR := shade (grown_same (World.grownBy_alloc w _ none) (grown_of_below hb))
    clear hb
    go_wp2_with fail
    go_ret
    exact ⟨rfl, HR.out⟩
  · rw [hv] at HVI
    have h3 := word3 op.toList
    have h5 := word5 op.toList
    have HWO := shade (fun W (hW : WT W) => wordOf_any op W hW)
    unfold lat
    generalize (op.toList == [108, 100]) = x at *
    generalize (op.toList == [109, 117, 108]) = y at *
    generalize wordN op.toList = n at *
    clear hv
    go_enter Tryd.func10, Tryd.ntmps10
    go_wp2_with fail
    refine (HVI.out _ (HG.out.alloc _)).mono ?_
    rintro e w1 ⟨rfl, hb⟩
    have hP := (Holds5.fresh w 32 #[.string op, .int .i64 d, .int .i64 a, .int .i64 b, .int .i64 k]).below hb (by simp)
    have HR := shade (grown_same (World.grownBy_alloc w (.cells #[.string op, .int .i64 d, .int .i64 a, .int .i64 b, .int .i64 k] 32) none) (grown_of_below hb))
    have p0 := hP.look 0
    simp at p0
    clear hb hP
    go_wp2_with fail
    refine (HWO.out _ (HG.out.below (below_of_grown HR.out) (wt_lt HG.out))).mono ?_
    rintro e w2 ⟨rfl, rfl⟩
    rcases x with _ | _
    · rcases y with _ | _
      all_goals
        go_wp2_with fail
        go_ret
        exact ⟨rfl, HR.out⟩
    · go_wp2_with fail
      go_ret
      exact ⟨rfl, HR.out⟩
theorem validBlock_zero (A : Option Addr) (c : Nat) (F : Nat → Ins) (w : World) :
    Calls Tryd.prog 20 #[.slice A 0 c] w fun e w' => e = .returned (.bool (blB 0 F)) ∧ w.grownBy w' none := by
  go_enter Tryd.func20, Tryd.ntmps20
  go_wp2
  refine wp_loop_rounds 1 ?_
  rw [rounds_succ]
  go_wp2
  go_ret
  exact ⟨rfl, World.grownBy.refl _ _⟩
set_option maxHeartbeats 8000000 in
theorem validBlock_at (b off n c : Nat) (F : Nat → Ins) (w : World) (hn : n ≤ 9223372036854775807) (h : Code w (some ⟨b, off, none⟩) n F) :
    Calls Tryd.prog 20 #[.slice (some ⟨b, off, none⟩) n c] w fun e w' => e = .returned (.bool (blB n F)) ∧ w.grownBy w' none := by
  have H := shade h
  clear h
  go_enter Tryd.func20, Tryd.ntmps20
  go_wp2
  go_loopw [3] (fun i wr => ∃ k : Nat, k ≤ n ∧ i = .int .i64 k ∧ (∀ j, j < k → blI (F j) = true) ∧ w.grownBy wr none) (fun i _ => n - (intOf i).toNat)
  case atStart => exact ⟨0, Nat.zero_le _, rfl, fun j hj => absurd hj (by omega), World.grownBy.refl _ _⟩
  case round =>
    obtain ⟨k, hk, rfl, hall, hg⟩ := hrel
    have HA := shade hall
    clear hall
    by_cases hkn : k < n
    · obtain ⟨q0, q1, q2, q3, q4⟩ := (H.out.on hg).five hkn
      have HG := shade hg
      clear hg
      generalize hc : F k = cc at *
      obtain ⟨op, d, a, b', kk⟩ := cc
      simp only [] at q0 q1 q2 q3 q4
      have HC := shade hc
      clear hc
      have HO := shade (fun x (h : blI ⟨op, d, a, b', kk⟩ = x) => show blI (F k) = x by rw [HC.out]; exact h)
      have HN := shade (fun (h : blI (F k) = true) j (hj : j < k + 1) => show blI (F j) = true by
        by_cases e : j = k
        · rw [e]; exact h
        · exact HA.out j (by omega))
      have HVI := shade (fun W => validInstr_any op d a b' kk W)
      rcases hv : vB op.toList d a b' kk with _ | _
      · rw [hv] at HVI
        have HK := shade (HO.out false (by simp [blI, vI, hv]))
        clear hv
        go_wp2_with fail
        refine (HVI.out _).mono ?_
        rintro e w2 ⟨rfl, o2, rfl⟩
        go_wp2_with fail
        go_ret
        exact ⟨ret_b (blB_no hkn HK.out).symm, grown_alloc HG.out _⟩
      · rw [hv] at HVI
        have HV := shade hv
        clear hv
        rcases e1 : (op.toList == [98, 122]) with _ | _
        · rcases e2 : (op.toList == [106, 109, 112]) with _ | _
          · rcases e3 : (op.toList == [104, 108, 116]) with _ | _
            · have HK := shade (HO.out true (by simp [blI, vI, HV.out, jmpB, e1, e2, e3]))
              go_wp2_with fail
              refine (HVI.out _).mono ?_
              rintro e w2 ⟨rfl, o2, rfl⟩
              have z := World.block_lt_of_cell? _ _ q0; replace q0 := (World.cell?_alloc_some wr _ o2 (by rw [q0]; rfl)).trans q0
              go_wp2_with fail
              go_roundw
              case rel => exact ⟨k + 1, by omega, by go_num, HN.out HK.out, grown_alloc HG.out _⟩
              case measure => simp [intOf]; omega
            · have HK := shade (HO.out false (by simp [blI, vI, HV.out, jmpB, e1, e2, e3]))
              go_wp2_with fail
              refine (HVI.out _).mono ?_
              rintro e w2 ⟨rfl, o2, rfl⟩
              have z := World.block_lt_of_cell? _ _ q0; replace q0 := (World.cell?_alloc_some wr _ o2 (by rw [q0]; rfl)).trans q0
              go_wp2_with fail
              go_ret
              exact ⟨ret_b (blB_no hkn HK.out).symm, grown_alloc HG.out _⟩
          · have HK := shade (HO.out false (by simp [blI, vI, HV.out, jmpB, e1, e2]))
            go_wp2_with fail
            refine (HVI.out _).mono ?_
            rintro e w2 ⟨rfl, o2, rfl⟩
            have z := World.block_lt_of_cell? _ _ q0; replace q0 := (World.cell?_alloc_some wr _ o2 (by rw [q0]; rfl)).trans q0
            go_wp2_with fail
            go_ret
            exact ⟨ret_b (blB_no hkn HK.out).symm, grown_alloc HG.out _⟩
        · have HK := shade (HO.out false (by simp [blI, vI, HV.out, jmpB, e1]))
          go_wp2_with fail
          refine (HVI.out _).mono ?_
          rintro e w2 ⟨rfl, o2, rfl⟩
          have z := World.block_lt_of_cell? _ _ q0; replace q0 := (World.cell?_alloc_some wr _ o2 (by rw [q0]; rfl)).trans q0
          go_wp2_with fail
          go_ret
          exact ⟨ret_b (blB_no hkn HK.out).symm, grown_alloc HG.out _⟩
    · have hkn2 : k = n := by omega
      subst hkn2
      have HG := shade hg
      clear hg
      go_wp2
      go_ret
      exact ⟨ret_b (by rw [blB_all HA.out, Bool.eq_iff_iff]; simp; try omega), HG.out⟩
theorem validBlock_any (A : Option Addr) (n c : Nat) (F : Nat → Ins) (w : World) (hn : n ≤ 9223372036854775807) (h : Code w A n F) :
    Calls Tryd.prog 20 #[.slice A n c] w fun e w' => e = .returned (.bool (blB n F)) ∧ w.grownBy w' none := by
  by_cases h0 : n = 0
  · subst h0
    exact validBlock_zero A c F w
  · obtain ⟨b, off, rfl, _⟩ := h.resolve_left h0
    exact validBlock_at b off n c F w hn h
theorem IValidBlock_big (A : Option Addr) (n c : Nat) (w : World) (h : 6 < n) (hn : n ≤ 9223372036854775807) :
    Calls Tryd.prog 35 #[.slice A n c] w fun e w' => e = .returned (.bool false) ∧ w.grownBy w' none := by
  go_enter Tryd.func35, Tryd.ntmps35
  go_wp2
  go_ret
  exact ⟨rfl, World.grownBy.refl _ _⟩
theorem IValidBlock_zero (A : Option Addr) (c : Nat) (w : World) :
    Calls Tryd.prog 35 #[.slice A 0 c] w fun e w' => e = .returned (.bool true) ∧ w.grownBy w' none := by
  go_enter Tryd.func35, Tryd.ntmps35
  go_wp2
  refine wp_loop_rounds 1 ?_
  rw [rounds_succ]
  go_wp2
  go_ret
  exact ⟨rfl, World.grownBy.refl _ _⟩
set_option maxHeartbeats 8000000 in
theorem IValidBlock_at (b off n c : Nat) (F : Nat → Ins) (w : World) (hg : WT w) (hn : n ≤ 6) (h : Code w (some ⟨b, off, none⟩) n F) :
    Calls Tryd.prog 35 #[.slice (some ⟨b, off, none⟩) n c] w fun e w' => e = .returned (.bool (blB n F)) ∧ w.grownBy w' none := by
  have H := shade h
  have HG := shade hg
  clear h hg
  go_enter Tryd.func35, Tryd.ntmps35
  go_wp2
  go_loopw [10] (fun i wr => ∃ k : Nat, k ≤ n ∧ i = .int .i64 k ∧ (∀ j, j < k → blI (F j) = true) ∧ w.grownBy wr none) (fun i _ => n - (intOf i).toNat)
  case atStart => exact ⟨0, Nat.zero_le _, rfl, fun j hj => absurd hj (by omega), World.grownBy.refl _ _⟩
  case round =>
    obtain ⟨k, hk, rfl, hall, hgr⟩ := hrel
    have HA := shade hall
    clear hall
    by_cases hkn : k < n
    · obtain ⟨q0, q1, q2, q3, q4⟩ := (H.out.on hgr).five hkn
      have HR := shade hgr
      clear hgr
      generalize hc : F k = cc at *
      obtain ⟨op, d, a, b', kk⟩ := cc
      simp only [] at q0 q1 q2 q3 q4
      have HC := shade hc
      clear hc
      have HO := shade (fun x (h : blI ⟨op, d, a, b', kk⟩ = x) => show blI (F k) = x by rw [HC.out]; exact h)
      have HN := shade (fun (h : blI (F k) = true) j (hj : j < k + 1) => show blI (F j) = true by
        by_cases e : j = k
        · rw [e]; exact h
        · exact HA.out j (by omega))
      have HVI := shade (fun W (hW : WT W) => ValidInstr_any op d a b' kk W hW)
      rcases hv : vB op.toList d a b' kk with _ | _
      · rw [hv] at HVI
        have HK := shade (HO.out false (by simp [blI, vI, hv]))
        clear hv
        go_wp2_with fail
        refine (HVI.out _ ((HG.out.below (below_of_grown HR.out) (wt_lt HG.out)).alloc _)).mono ?_
        rintro e w2 ⟨rfl, hb⟩
        have HR2 := shade (grown_same HR.out (grown_same (World.grownBy_alloc wr _ none) (grown_of_below hb)))
        clear hb
        go_wp2_with fail
        go_ret
        exact ⟨ret_b (blB_no hkn HK.out).symm, HR2.out⟩
      · rw [hv] at HVI
        have HV := shade hv
        clear hv
        have HJM := shade (fun W (hW : WT W) => isJump_any op d a b' kk W hW)
        rcases hj : jmpB op.toList with _ | _
        · rw [hj] at HJM
          have h9 := word9' op.toList
          have HWO := shade (fun W (hW : WT W) => wordOf_any op W hW)
          have HO2 := shade (fun (x : Bool) (hx : (op.toList == [104, 108, 116]) = x) => HO.out (!x) (by simp [blI, vI, HV.out, hj, hx]))
          generalize (op.toList == [104, 108, 116]) = x at *
          generalize wordN op.toList = m at *
          clear hj
          have HK := shade (HO2.out x rfl)
          clear HO2
          rcases x with _ | _
          all_goals
            go_wp2_with fail
            refine (HVI.out _ ((HG.out.below (below_of_grown HR.out) (wt_lt HG.out)).alloc _)).mono ?_
            rintro e w2 ⟨rfl, hb⟩
            have hP := (Holds5.fresh wr 32 #[.string op, .int .i64 d, .int .i64 a, .int .i64 b', .int .i64 kk]).below hb (by simp)
            have HR2 := shade (grown_same HR.out (grown_same (World.grownBy_alloc wr (.cells #[.string op, .int .i64 d, .int .i64 a, .int .i64 b', .int .i64 kk] 32) none) (grown_of_below hb)))
            have HP := shade hP
            clear hb
            have p0 := hP.look 0; have p1 := hP.look 1; have p2 := hP.look 2; have p3 := hP.look 3; have p4 := hP.look 4
            simp at p0 p1 p2 p3 p4
            clear hP
            go_wp2_with fail
            refine (HJM.out _ (HG.out.below (below_of_grown HR2.out) (wt_lt HG.out))).mono ?_
            rintro e w3 ⟨rfl, hgr⟩
            have HR3 := shade (grown_same HR2.out hgr)
            have hP := HP.out.grown hgr (by intro e; cases e)
            clear hgr p0 p1 p2 p3 p4
            have p0 := hP.look 0
            simp at p0
            clear hP
            go_wp2_with fail
            refine (HWO.out _ (HG.out.below (below_of_grown HR3.out) (wt_lt HG.out))).mono ?_
            rintro e w4 ⟨rfl, rfl⟩
            go_wp2_with fail
          · go_roundw
            case rel => exact ⟨k + 1, by omega, by go_num, HN.out HK.out, HR3.out⟩
            case measure => simp [intOf]; omega
          · go_ret
            exact ⟨ret_b (blB_no hkn HK.out).symm, HR3.out⟩
        · rw [hj] at HJM
          have HK := shade (HO.out false (by simp [blI, vI, HV.out, hj]))
          clear hj
          go_wp2_with fail
          refine (HVI.out _ ((HG.out.below (below_of_grown HR.out) (wt_lt HG.out)).alloc _)).mono ?_
          rintro e w2 ⟨rfl, hb⟩
          have hP := (Holds5.fresh wr 32 #[.string op, .int .i64 d, .int .i64 a, .int .i64 b', .int .i64 kk]).below hb (by simp)
          have HR2 := shade (grown_same HR.out (grown_same (World.grownBy_alloc wr (.cells #[.string op, .int .i64 d, .int .i64 a, .int .i64 b', .int .i64 kk] 32) none) (grown_of_below hb)))
          clear hb
          have p0 := hP.look 0; have p1 := hP.look 1; have p2 := hP.look 2; have p3 := hP.look 3; have p4 := hP.look 4
          simp at p0 p1 p2 p3 p4
          clear hP
          go_wp2_with fail
          refine (HJM.out _ (HG.out.below (below_of_grown HR2.out) (wt_lt HG.out))).mono ?_
          rintro e w3 ⟨rfl, hgr⟩
          have HR3 := shade (grown_same HR2.out hgr)
          clear hgr
          go_wp2_with fail
          go_ret
          exact ⟨ret_b (blB_no hkn HK.out).symm, HR3.out⟩
    · have hkn2 : k = n := by omega
      subst hkn2
      have HR := shade hgr
      clear hgr
      go_wp2
      go_ret
      exact ⟨ret_b (by rw [blB_all HA.out]; simp [hn]), HR.out⟩
theorem IValidBlock_any (A : Option Addr) (n c : Nat) (F : Nat → Ins) (w : World) (hg : WT w) (hn : n ≤ 9223372036854775807) (h : Code w A n F) :
    Calls Tryd.prog 35 #[.slice A n c] w fun e w' => e = .returned (.bool (blB n F)) ∧ w.grownBy w' none := by
  by_cases hb : 6 < n
  · rw [blB_big hb]
    exact IValidBlock_big A n c w hb hn
  by_cases h0 : n = 0
  · subst h0
    exact IValidBlock_zero A c w
  · obtain ⟨b, off, rfl, _⟩ := h.resolve_left h0
    exact IValidBlock_at b off n c F w hg (by omega) h
end Go.Proofs.YtblnchcgeepemaaDoor
