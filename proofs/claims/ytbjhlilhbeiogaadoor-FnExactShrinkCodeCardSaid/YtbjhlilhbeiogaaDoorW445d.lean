/- What is reached, by the model. -/
import Derived.Test.YtbjhlilhbeiogaaDoorG443
namespace Go.Proofs.YtbjhlilhbeiogaaDoor
open Go.RowKit Go.Shelf
set_option linter.unusedSimpArgs false
/-- Nothing is cut. -/
def noCut (_ : Nat) : Bool := false
/-- The marks within a pass: what is marked is on a way; there are no more unmarked than at its begin, and fewer if it is told so; else the first i lead to marked ones alone. -/
structure Pas (F : Nat → Ins) (n : Nat) (f0 : Nat → Bool) (w wr : World) (i : Nat) (b : Bool) (f : Nat → Bool) : Prop where
  ldr : Ldr w wr n f
  beg : f 0 = true
  way : ∀ y, y ≤ n → f y = true → Way F n noCut 0 y
  low : unm f (n + 1) ≤ unm f0 (n + 1)
  dec : b = true → unm f (n + 1) < unm f0 (n + 1)
  clo : b = false → ∀ x, x < i → f x = true → ∀ y : Nat, (y : Int) ∈ nxI (F x) x → f y = true
section
variable {F : Nat → Ins} {n : Nat} {f0 f : Nat → Bool} {w wr wr' : World} {i : Nat} {b : Bool}
theorem Pas.on (h : Pas F n f0 w wr i b f) (hg : wr.grownBy wr' none) : Pas F n f0 w wr' i b f := ⟨h.ldr.on hg, h.beg, h.way, h.low, h.dec, h.clo⟩
theorem Pas.start (h : Pas F n f0 w wr i b f) : Pas F n f w wr 0 false f := ⟨h.ldr, h.beg, h.way, Nat.le_refl _, (fun e => by cases e), fun _ x hx => absurd hx (Nat.not_lt_zero x)⟩
theorem Pas.mark (h : Pas F n f0 w wr i b f) (y : Nat) (hy : f y = false) (hn : y ≤ n) (hw : Way F n noCut 0 y) : Pas F n f0 w (wr.setCell ⟨w.heap.size, y, none⟩ (.bool true)) i true (fun x => if x = y then true else f x) := by
  have h1 := unm_set f y hy (n + 1) (by omega)
  have h2 := h.low
  refine ⟨h.ldr.mark y, ?_, fun z hz hf => ?_, by omega, fun _ => by omega, (fun e => by cases e)⟩
  · show (if 0 = y then true else f 0) = true
    rw [h.beg]
    simp
  · by_cases e : z = y
    · rw [e]
      exact hw
    · have hf' : (if z = y then true else f z) = true := hf
      rw [if_neg e] at hf'
      exact h.way z hz hf'
theorem Pas.next (h : Pas F n f0 w wr i b f) (hi : f i = true → ∀ y : Nat, (y : Int) ∈ nxI (F i) i → f y = true) : Pas F n f0 w wr (i + 1) b f := by
  refine ⟨h.ldr, h.beg, h.way, h.low, h.dec, fun hb x hx hf y hy => ?_⟩
  by_cases e : x = i
  · subst e
    exact hi hf y hy
  · exact h.clo hb x (by omega) hf y hy
theorem Pas.done (h : Pas F n f0 w wr n false f) (y : Nat) (hy : y ≤ n) : f y = true ↔ Way F n noCut 0 y :=
  ⟨h.way y hy, fun hw => hw (fun z => f z = true) h.beg (fun x z hx hxn _ hz => h.clo rfl x hxn hx z hz)⟩
theorem Pas.left (h : Pas F n f0 w wr i b f) : unm (metOf wr w.heap.size) (n + 1) = unm f (n + 1) := unm_congr _ _ _ (fun x hx => by
  unfold metOf
  rw [h.ldr.cell x (by omega)])
end
/-- 1 for true. -/
def flagV : Value → Nat
  | .bool true => 1
  | _ => 0
set_option maxRecDepth 100000 in
set_option maxHeartbeats 16000000 in
theorem specReached_any (A : Option Addr) (n c : Nat) (F : Nat → Ins) (w : World) (hv : vcB n F = true) (h : Code w A n F) :
    Calls Tryd.prog 52 #[.slice A n c] w fun e w' => ∃ r : Nat → Bool, (∀ y, y ≤ n → (r y = true ↔ Way F n noCut 0 y)) ∧ MarkRes (n + 1) r w e w' := by
  have hn := vcB_40 hv
  have HV := shade hv
  have H := shade h
  clear h hv
  obtain ⟨i0, hi, hz0, hz1, hz2⟩ := info_parts info4b
  go_enter Tryd.func52, Tryd.ntmps52
  go_wp2_with (first
    | (at_make; refine wpList_make_full _ rfl _ _ 54 rfl w.heap.size 4 i0 (.bool false) 1 Tryd.underlying54 hi hz0 hz1 .i64 .i64 (n + 1) (n + 1) (n + 1) rfl rfl rfl rfl (by rw [hz2]; omega) (by unfold maxLen; omega) (Nat.le_refl _) ?_)
    | go_in)
  intro w1 hown1 hgr1
  simp only [made_bools] at hown1
  have L0 := shade (show Ldr w w1 n (fun _ => false) from ⟨hown1, hgr1⟩)
  clear hown1 hgr1 hi hz0 hz1 hz2
  have s0 := L0.out.cell 0 (by omega)
  have s1 := L0.out.free 0
  go_upto_region 3 with (fail)
  have P1 := shade (show Pas F n (fun _ => false) w (w1.setCell ⟨w.heap.size, 0, none⟩ (.bool true)) n true (fun x => if x = 0 then true else (fun _ => false) x) from by
    have h1 : unm (fun x => if x = 0 then true else (fun _ => false) x) (n + 1) + 1 = unm (fun _ => false) (n + 1) := unm_set (fun _ => false) 0 rfl (n + 1) (by omega)
    refine ⟨L0.out.mark 0, rfl, fun y _ hy => ?_, by omega, fun _ => by omega, (fun e => by cases e)⟩
    obtain rfl : y = 0 := by
      by_cases e : y = 0
      · exact e
      · have hy' : (if y = 0 then true else false) = true := hy
        rw [if_neg e] at hy'
        cases hy'
    exact Way.start _ _ _ _)
  obtain ⟨f1, hf1⟩ : ∃ f1 : Nat → Bool, (fun x => if x = 0 then true else (fun _ => false) x) = f1 := ⟨_, rfl⟩
  obtain ⟨W1, hW1⟩ : ∃ W1, w1.setCell ⟨w.heap.size, 0, none⟩ (.bool true) = W1 := ⟨_, rfl⟩
  rw [hf1, hW1] at P1
  rw [hW1]
  clear hW1 hf1 s0 s1 L0
  go_wp2_with fail
  go_loopw [4] (fun ag wr => ∃ (b : Bool) (f f0 : Nat → Bool), ag = .bool b ∧ Pas F n f0 w wr n b f) (fun ag wr => 2 * unm (metOf wr w.heap.size) (n + 1) + flagV ag)
  case atStart => exact ⟨true, _, _, rfl, P1.out⟩
  case round =>
    clear P1
    obtain ⟨b, f, f0, rfl, hp⟩ := hrel
    have HP := shade hp
    clear hp
    rcases b with _ | _
    · go_wp2_with fail
      go_ret
      exact ⟨f, HP.out.done, _, rfl, HP.out.ldr.own, HP.out.ldr.low⟩
    · have HQ := shade HP.out.start
      have HLE := shade HP.out.left
      obtain ⟨wo, rfl⟩ : ∃ wo : World, wo = wr := ⟨_, rfl⟩
      clear HP
      go_wp2_with fail
      go_loopw [4, 5] (fun ag q w2 => ∃ (b : Bool) (f2 : Nat → Bool) (i : Nat), i ≤ n ∧ q = .int .i64 (i : Int) ∧ ag = .bool b ∧ Pas F n f w w2 i b f2) (fun _ q _ => n - (intOf q).toNat)
      case atStart => exact ⟨false, f, 0, Nat.zero_le _, rfl, rfl, HQ.out⟩
      case round =>
        clear HQ
        obtain ⟨b, f2, i, hi, rfl, rfl, hp⟩ := hrel
        have HP := shade hp
        clear hp
        by_cases hin : i < n
        · have s0 := HP.out.ldr.cell i (by omega)
          rcases hfi : f2 i with _ | _
          · have HN := shade (HP.out.next (fun h => by rw [hfi] at h; cases h))
            rw [hfi] at s0
            clear hfi HP
            go_wp2_with fail
            go_roundw
            case rel => exact ⟨b, f2, i + 1, by omega, by go_num, rfl, HN.out⟩
            case measure => simp [intOf]; omega
          · have HFI := shade hfi
            rw [hfi] at s0
            clear hfi
            obtain ⟨cb, co, rfl, _⟩ := H.out.resolve_left (by omega)
            have HNX := shade (nextOf_any cb co n c i F wr hn hin (H.out.on HP.out.ldr.low))
            have HL3 := shade (show ∀ z, z ∈ nxI (F i) i → ∃ y : Nat, z = y ∧ y ≤ n ∧ Way F n noCut 0 y from fun z hz => by
              obtain ⟨y, rfl, hy⟩ := nx_in HV.out hin hz
              exact ⟨y, rfl, hy, (HP.out.way i (by omega) HFI.out).step hin rfl hz⟩)
            have hl2 := nxI_le (F i) i
            obtain ⟨l0, hl0⟩ : ∃ l0, nxI (F i) i = l0 := ⟨_, rfl⟩
            rw [hl0] at HNX HL3 hl2
            have HL0 := shade hl0
            clear hl0
            go_wp2_with fail
            refine HNX.out.mono ?_
            rintro e w5 ⟨v0, rfl, ho, hg5⟩
            obtain ⟨A0, c0, rfl, -⟩ := ownsRow_slice ho
            have HO := shade (World.ownsRow.mono ho (show w.heap.size + 1 ≤ wr.heap.size from HP.out.ldr.lt))
            have HP5 := shade (HP.out.on hg5)
            clear ho hg5 HNX HP s0
            go_wp2_with fail
            go_loopw [4, 7] (fun ag q w2 => ∃ (b : Bool) (f3 : Nat → Bool) (k : Nat), k ≤ l0.length ∧ q = .int .i64 (k : Int) ∧ ag = .bool b ∧ Pas F n f w w2 i b f3 ∧ w2.ownsRow (w.heap.size + 1) 3 1 (.slice A0 l0.length c0) l0.length (valI l0) ∧ (∀ j, j < k → ∀ y : Nat, l0.getD j 0 = (y : Int) → f3 y = true)) (fun _ q _ => l0.length - (intOf q).toNat)
            case atStart => exact ⟨b, f2, 0, Nat.zero_le _, rfl, rfl, HP5.out, HO.out, fun j hj => absurd hj (Nat.not_lt_zero j)⟩
            case round =>
              clear HP5 HO
              obtain ⟨b, f3, k, hk, rfl, rfl, hp, hown, hmet⟩ := hrel
              have HP := shade hp
              have HO := shade hown
              have HME := shade hmet
              clear hp hown hmet
              by_cases hkl : k < l0.length
              · obtain ⟨bl, e0, hgb, qc⟩ := Rest.first HO.out (Nat.lt_succ_self _) k (Nat.zero_le _) hkl
                subst e0
                obtain ⟨y, hy, hyn, hyw⟩ := HL3.out (l0.getD k 0) (by rw [List.getD_eq_getElem?_getD, List.getElem?_eq_getElem hkl]; exact List.getElem_mem _)
                rw [hy] at qc
                have HY2 := shade hy
                have HYW := shade hyw
                clear hy hyw
                have s0 := HP.out.ldr.cell y hyn
                rcases hmy : f3 y with _ | _
                · have HMY := shade hmy
                  rw [hmy] at s0
                  clear hmy
                  have s1 := HP.out.ldr.free y
                  have HPM := shade (HP.out.mark y HMY.out hyn HYW.out)
                  have HOM := shade (World.ownsRow.kept HO.out (grown_set (w := wr) w.heap.size y (.bool true)) (.inr (fun e => by
                    have := (World.ownsRow.lt HO.out _ e).1
                    omega)))
                  go_wp2_with fail
                  try (go_quiet (fail); go_wp2_with fail)
                  go_roundw
                  case rel => exact ⟨true, _, k + 1, by omega, by go_num, rfl, HPM.out, HOM.out, fun j hj z hz => by
                    by_cases e : j = k
                    · subst e
                      rw [HY2.out] at hz
                      obtain rfl : y = z := by omega
                      exact if_pos rfl
                    · have h1 := HME.out j (by omega) z hz
                      show (if z = y then true else f3 z) = true
                      rw [h1]
                      simp⟩
                  case measure => simp [intOf]; omega
                · have HMY := shade hmy
                  rw [hmy] at s0
                  clear hmy
                  go_wp2_with fail
                  try (go_quiet (fail); go_wp2_with fail)
                  go_roundw
                  case rel => exact ⟨b, f3, k + 1, by omega, by go_num, rfl, HP.out, HO.out, fun j hj z hz => by
                    by_cases e : j = k
                    · subst e
                      rw [HY2.out] at hz
                      obtain rfl : y = z := by omega
                      exact HMY.out
                    · exact HME.out j (by omega) z hz⟩
                  case measure => simp [intOf]; omega
              · have hkl2 : k = l0.length := by omega
                subst hkl2
                have HN := shade (HP.out.next (fun _ y hy => by
                  rw [HL0.out] at hy
                  obtain ⟨j, hj, e⟩ := List.getElem_of_mem hy
                  exact HME.out j hj y (by rw [List.getD_eq_getElem?_getD, List.getElem?_eq_getElem hj, e]; rfl)))
                clear HP HO HME
                go_wp2_with fail
                go_roundw
                case rel => exact ⟨b, f3, i + 1, by omega, by go_num, rfl, HN.out⟩
                case measure => simp [intOf]; omega
        · have hin2 : i = n := by omega
          subst hin2
          go_wp2_with fail
          go_roundw
          case rel => exact ⟨b, f2, f, rfl, HP.out⟩
          case measure =>
            have e1 := HP.out.left
            have e2 := HLE.out
            have e3 := HP.out.low
            have e4 := HP.out.dec
            rw [e1, e2]
            rcases b with _ | _
            · simp [flagV]
              omega
            · have := e4 rfl
              simp [flagV]
              omega
end Go.Proofs.YtbjhlilhbeiogaaDoor
