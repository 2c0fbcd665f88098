/- ShowCode and its model write the same text. -/
import Derived.Test.YtjbbmnmbcdohiaaDoorW303
import Derived.Test.YtjbbmnmbcdohiaaDoorW52
import Derived.Deep.DeepCutAuto
namespace Go.Proofs.YtjbbmnmbcdohiaaDoor
open Go.RowKit
set_option linter.unusedSimpArgs false
/-- The line of an instruction. -/
def lineT (c : Ins) : List UInt8 := showL c.op.toList c.d c.a c.b c.k ++ [10]
/-- The lines of the first instructions. -/
def codeT (n : Nat) (F : Nat → Ins) : List UInt8 := (List.range n).flatMap fun j => lineT (F j)
theorem codeT_succ (n : Nat) (F : Nat → Ins) : codeT (n + 1) F = codeT n F ++ lineT (F n) := by
  unfold codeT
  rw [List.range_succ, List.flatMap_append]
  simp
/-- The text of a program, none if it is none. -/
def showC (n : Nat) (F : Nat → Ins) : List UInt8 := if vcB n F = true then codeT n F else []
theorem partT_len (d a b k : Nat) (ch : UInt8) (hd : d < 4) (ha : a < 4) (hb : b < 4) (hk : k < 256) : (partT d a b k ch).length ≤ 5 := by
  obtain ⟨m, hm, hm1⟩ := partV_nat d a b k ch.toNat hd ha hb hk
  have := nml m hm1
  unfold partT
  rw [hm, Int.toNat_natCast]
  split
  · simp only [List.length_cons, List.length_append, List.length_nil]; omega
  · simp only [List.length_cons, List.length_append, List.length_nil]; omega
theorem flat_len (f : UInt8 → List UInt8) (m : Nat) (h : ∀ c, (f c).length ≤ m) : ∀ N : List UInt8, (N.flatMap f).length ≤ m * N.length
  | [] => by simp
  | c :: N => by
    have h1 := flat_len f m h N
    have h2 := h c
    rw [List.flatMap_cons, List.length_append, List.length_cons, Nat.mul_succ]
    omega
theorem showL_len (op : ByteArray) (d a b k : Int) (hv : vB op.toList d a b k = true) : (showL op.toList d a b k).length ≤ 18 := by
  obtain ⟨d, a, b, k, rfl, rfl, rfl, rfl, hd, ha, hb, hk, hw0, hw1⟩ := VI_nat hv
  obtain ⟨n, hn⟩ := Int.eq_ofNat_of_zero_le hw0
  have hn10 : n < 10 := by omega
  rw [showL, if_pos hv, hn, Int.toNat_natCast, instT, List.length_append]
  have h1 : op.toList.length ≤ 3 := by
    rw [ByteArray.toList_eq]
    show op.size ≤ 3
    rw [op_is op n hn10 hn]
    exact wT_size n
  have h2 := flat_len (partT d a b k) 5 (fun c => partT_len d a b k c hd ha hb hk) (namesN n).data.toList
  have h3 := names_len n
  omega
theorem vc_all {n : Nat} {F : Nat → Ins} (h : vcB n F = true) : n ≤ 40 ∧ ∀ j, j < n → vB (F j).op.toList (F j).d (F j).a (F j).b (F j).k = true := by
  simp only [vcB, Bool.and_eq_true, decide_eq_true_eq] at h
  refine ⟨h.2, fun j hj => ?_⟩
  have := allI_iff.1 h.1 j hj
  simp only [okI, Bool.and_eq_true] at this
  exact this.1
theorem lineT_len {n : Nat} {F : Nat → Ins} (h : vcB n F = true) (j : Nat) (hj : j < n) : (lineT (F j)).length ≤ 19 := by
  have := showL_len _ _ _ _ _ ((vc_all h).2 j hj)
  unfold lineT
  rw [List.length_append]
  simp only [List.length_cons, List.length_nil]
  omega
theorem codeT_len {n : Nat} {F : Nat → Ins} (h : vcB n F = true) : ∀ m, m ≤ n → (codeT m F).length ≤ 19 * m
  | 0, _ => by simp [codeT]
  | m + 1, hm => by
    rw [codeT_succ, List.length_append]
    have := codeT_len h m (by omega)
    have := lineT_len h m (by omega)
    omega
set_option maxRecDepth 100000 in
set_option maxHeartbeats 4000000 in
theorem SpecShowCode_any (A : Option Addr) (n c : Nat) (F : Nat → Ins) (w : World) (hn : n ≤ 9223372036854775807) (h : Code w A n F) :
    Calls Tryd.prog 24 #[.slice A n c] w fun e w' => e = .returned (.string (tx (showC n F))) ∧ w.grownBy w' none := by
  have HV := shade (validCode_any A n c F w hn h)
  have H := shade h
  clear h
  rcases hv : vcB n F with _ | _
  · rw [hv] at HV
    rw [showC, if_neg (by rw [hv]; simp)]
    clear hv
    go_enter Tryd.func24, Tryd.ntmps24
    go_wp2_with fail
    refine HV.out.mono ?_
    rintro e w1 ⟨rfl, hgr⟩
    have HG := shade hgr
    clear hgr
    go_wp2_with fail
    go_ret
    exact ⟨rfl, HG.out⟩
  · rw [hv] at HV
    rw [showC, if_pos hv]
    have hn40 := (vc_all hv).1
    have HVC := shade hv
    clear hv
    go_enter Tryd.func24, Tryd.ntmps24
    go_wp2_with fail
    refine HV.out.mono ?_
    rintro e w1 ⟨rfl, hgr⟩
    have HG := shade hgr
    clear hgr
    go_wp2_with fail
    go_loopw [3, 4] (fun t i wr => ∃ k : Nat, k ≤ n ∧ i = .int .i64 k ∧ t = .string (tx (codeT k F)) ∧ w.grownBy wr none) (fun _ i _ => n - (intOf i).toNat)
    case atStart => exact ⟨0, Nat.zero_le _, rfl, rfl, HG.out⟩
    case round =>
      clear HG
      obtain ⟨k, hk, rfl, rfl, hgr⟩ := hrel
      by_cases hkn : k < n
      · have hbig : n ≠ 0 := by omega
        obtain ⟨b, off, rfl, _⟩ := H.out.resolve_left hbig
        have hcl := codeT_len HVC.out k hk
        have hll := lineT_len HVC.out k hkn
        have HSH := shade (fun W => specshow_is _ _ _ _ _ W ((vc_all HVC.out).2 k hkn))
        obtain ⟨q0, q1, q2, q3, q4⟩ := (H.out.on hgr).five hkn
        have HR := shade hgr
        obtain ⟨Y, hY⟩ : ∃ Y, showL (F k).op.toList (F k).d (F k).a (F k).b (F k).k = Y := ⟨_, rfl⟩
        have hs1 := codeT_succ k F
        unfold lineT at hs1 hll
        rw [hY] at HSH hs1 hll
        rw [List.length_append] at hll
        obtain ⟨A0, hA0⟩ : ∃ A0, A0 = codeT k F ++ Y := ⟨_, rfl⟩
        have l0 : A0.length = (codeT k F).length + Y.length := by rw [hA0]; simp
        have t0 := fun W => (show (Op.stringOp .add (tx (codeT k F)) (tx Y)).run Tryd.prog W = .ok (.string (tx A0)) W from by rw [hA0]; exact cat_run (codeT k F) Y (by omega) W)
        have t1 := fun W => (show (Op.stringOp .add (tx A0) (⟨#[10]⟩ : ByteArray)).run Tryd.prog W = .ok (.string (tx (codeT (k + 1) F))) W from by rw [hs1, ← List.append_assoc, ← hA0]; exact cat_run A0 [10] (by simp; omega) W)
        generalize hc : F k = cc at *
        obtain ⟨op, d, a, b', kk⟩ := cc
        simp only [] at q0 q1 q2 q3 q4
        clear hc hs1 hA0 hY l0 hcl hll hgr
        have i0 : (0 : Int) ≤ (k : Int) := by omega
        have i1 : (k : Int) < (n : Int) := by omega
        go_wp2_with fail
        refine (HSH.out _).mono ?_
        rintro e w2 ⟨rfl, hgr⟩
        have HR2 := shade (grown_same HR.out hgr)
        clear hgr q0 q1 q2 q3 q4
        go_wp2_with fail
        go_roundw
        case rel => exact ⟨k + 1, by omega, by go_num, rfl, HR2.out⟩
        case measure => simp [intOf]; omega
      · obtain rfl : k = n := by omega
        have HR := shade hgr
        clear hgr
        go_wp2_with fail
        go_ret
        exact ⟨rfl, HR.out⟩
set_option maxRecDepth 100000 in
set_option maxHeartbeats 4000000 in
theorem ShowCode_any (A : Option Addr) (n c : Nat) (F : Nat → Ins) (w : World) (hg : WT w) (hp : Pow w) (hn : n ≤ 9223372036854775807) (h : Code w A n F) :
    Calls Tryd.prog 20 #[.slice A n c] w fun e w' => e = .returned (.string (tx (showC n F))) ∧ w.grownBy w' none := by
  have HV := shade (ValidCode_any A n c F w hg hn h)
  have H := shade h
  have HW := shade hg
  have HP := shade hp
  clear h hg hp
  rcases hv : vcB n F with _ | _
  · rw [hv] at HV
    rw [showC, if_neg (by rw [hv]; simp)]
    clear hv
    go_enter Tryd.func20, Tryd.ntmps20
    go_wp2_with fail
    refine HV.out.mono ?_
    rintro e w1 ⟨rfl, hgr⟩
    have HG := shade hgr
    clear hgr
    go_wp2_with fail
    go_ret
    exact ⟨rfl, HG.out⟩
  · rw [hv] at HV
    rw [showC, if_pos hv]
    have hn40 := (vc_all hv).1
    have HVC := shade hv
    clear hv
    go_enter Tryd.func20, Tryd.ntmps20
    go_wp2_with fail
    refine HV.out.mono ?_
    rintro e w1 ⟨rfl, hgr⟩
    have HG := shade hgr
    clear hgr
    go_wp2_with fail
    go_loopw [3, 11] (fun t i wr => ∃ k : Nat, k ≤ n ∧ i = .int .i64 k ∧ t = .string (tx (codeT k F)) ∧ w.grownBy wr none) (fun _ i _ => n - (intOf i).toNat)
    case atStart => exact ⟨0, Nat.zero_le _, rfl, rfl, HG.out⟩
    case round =>
      clear HG
      obtain ⟨k, hk, rfl, rfl, hgr⟩ := hrel
      by_cases hkn : k < n
      · have hbig : n ≠ 0 := by omega
        obtain ⟨b, off, rfl, _⟩ := H.out.resolve_left hbig
        have hcl := codeT_len HVC.out k hk
        have hll := lineT_len HVC.out k hkn
        obtain ⟨q0, q1, q2, q3, q4⟩ := (H.out.on hgr).five hkn
        have HR := shade hgr
        have HSH := shade (fun W (hW : w.grownBy W none) => ShowInstr_any (F k).op (F k).d (F k).a (F k).b (F k).k W (HW.out.grown hW (by simp)) (pow_below HP.out (below_of_grown hW)))
        obtain ⟨Y, hY⟩ : ∃ Y, showL (F k).op.toList (F k).d (F k).a (F k).b (F k).k = Y := ⟨_, rfl⟩
        have hs1 := codeT_succ k F
        unfold lineT at hs1 hll
        rw [hY] at HSH hs1 hll
        rw [List.length_append] at hll
        have t0 := fun W => (show (Op.stringOp .add (tx Y) (⟨#[10]⟩ : ByteArray)).run Tryd.prog W = .ok (.string (tx (Y ++ [10]))) W from cat_run Y [10] (by simp; omega) W)
        obtain ⟨A0, hA0⟩ : ∃ A0, A0 = Y ++ [10] := ⟨_, rfl⟩
        rw [← hA0] at t0 hs1
        have l0 : A0.length = Y.length + 1 := by rw [hA0]; simp
        have t1 := fun W => (show (Op.stringOp .add (tx (codeT k F)) (tx A0)).run Tryd.prog W = .ok (.string (tx (codeT (k + 1) F))) W from by rw [hs1]; exact cat_run (codeT k F) A0 (by omega) W)
        generalize hc : F k = cc at *
        obtain ⟨op, d, a, b', kk⟩ := cc
        simp only [] at q0 q1 q2 q3 q4
        clear hc hs1 hA0 hY l0 hcl hll hgr
        have i0 : (0 : Int) ≤ (k : Int) := by omega
        have i1 : (k : Int) < (n : Int) := by omega
        go_wp2_with fail
        have hgb := grown_same HR.out (World.grownBy_alloc wr (.cells #[.string op, .int .i64 d, .int .i64 a, .int .i64 b', .int .i64 kk] 24) none)
        refine (HSH.out _ hgb).mono ?_
        rintro e w2 ⟨rfl, hgr⟩
        have HR2 := shade (grown_same hgb hgr)
        clear hgr hgb q0 q1 q2 q3 q4
        go_wp2_with fail
        go_roundw
        case rel => exact ⟨k + 1, by omega, by go_num, rfl, HR2.out⟩
        case measure => simp [intOf]; omega
      · obtain rfl : k = n := by omega
        have HR := shade hgr
        clear hgr
        go_wp2_with fail
        go_ret
        exact ⟨rfl, HR.out⟩

end Go.Proofs.YtjbbmnmbcdohiaaDoor
