/- What is needed, by the model: plain facts. What is needed, by the model, walked. LiveOf and its model answer alike. -/
import Derived.Test.YtbjhlilhbeiogaaDoorW463d
import Derived.Test.YtbjhlilhbeiogaaDoorW445d
import Derived.Test.YtbjhlilhbeiogaaDoorW17
namespace Go.Proofs.YtbjhlilhbeiogaaDoor
open Go.RowKit
set_option linter.unusedSimpArgs false
/-- What is needed at x, by what is needed behind it. -/
def Up (F : Nat → Ins) (n : Nat) (f : Nat → Int) (x r : Nat) : Prop := bt (urO F n x) r = true ∨ (bt (uwO F n x) r = false ∧ ∃ y : Nat, (y : Int) ∈ nxI (F x) x ∧ bt (f y) r = true)
/-- How much may still be laid. -/
def lft (f : Nat → Int) : Nat → Nat
  | 0 => 0
  | k + 1 => lft f k + (16 - f k).toNat
theorem lft_congr (f g : Nat → Int) : ∀ k, (∀ x, x < k → f x = g x) → lft f k = lft g k
  | 0, _ => rfl
  | k + 1, h => by
    show lft f k + _ = lft g k + _
    rw [lft_congr f g k (fun x hx => h x (by omega)), h k (Nat.lt_succ_self k)]
theorem lft_set (f : Nat → Int) (y : Nat) (v : Int) (hv : f y < v) (h0 : v < 16) : ∀ k, y < k → lft (fun x => if x = y then v else f x) k < lft f k
  | 0, h => absurd h (Nat.not_lt_zero y)
  | k + 1, h => by
    show lft _ k + (16 - (if k = y then v else f k)).toNat < lft f k + (16 - f k).toNat
    by_cases e : y = k
    · subst e
      rw [lft_congr (fun x => if x = y then v else f x) f y (fun x hx => if_neg (by omega)), if_pos rfl]
      omega
    · have := lft_set f y v hv h0 k (by omega)
      rw [if_neg (fun h => e h.symm)]
      omega
/-- The numbers that lie in a block. -/
def outOf (w : World) (g x : Nat) : Int := match w.cell? ⟨g, x, none⟩ with
  | some (.int _ v) => v
  | _ => 0
/-- The sets within a pass, of which those from index i on are done. -/
structure Psl (F : Nat → Ins) (n : Nat) (f0 : Nat → Int) (w wr : World) (i : Nat) (b : Bool) (f : Nat → Int) : Prop where
  sts : Sts w wr n f
  four : ∀ x, S4 (f x)
  sub : ∀ x r, x ≤ n → r < 4 → bt (f x) r = true → Need F n r x
  inc : ∀ x r, x < n → r < 4 → bt (f x) r = true → Up F n f x r
  low : lft f n ≤ lft f0 n
  dec : b = true → lft f n < lft f0 n
  clo : b = false → ∀ x, i ≤ x → x < n → ∀ r, r < 4 → Up F n f x r → bt (f x) r = true
section
variable {F : Nat → Ins} {n i : Nat} {f0 f : Nat → Int} {w wr wr' : World} {b : Bool}
theorem Psl.on (h : Psl F n f0 w wr i b f) (hg : wr.grownBy wr' none) : Psl F n f0 w wr' i b f := ⟨h.sts.on hg, h.four, h.sub, h.inc, h.low, h.dec, h.clo⟩
theorem Psl.start (h : Psl F n f0 w wr i b f) : Psl F n f w wr n false f := ⟨h.sts, h.four, h.sub, h.inc, Nat.le_refl _, (fun e => by cases e), fun _ x h1 h2 => by omega⟩
theorem Psl.left (h : Psl F n f0 w wr i b f) : lft (outOf wr w.heap.size) n = lft f n := lft_congr _ _ _ (fun x hx => by
  unfold outOf
  rw [h.sts.cell x (by omega)])
theorem Psl.same (h : Psl F n f0 w wr (i + 1) b f) (s : Int) (hb : ∀ r, r < 4 → (bt s r = true ↔ Up F n f i r)) (e : s = f i) : Psl F n f0 w wr i b f := ⟨h.sts, h.four, h.sub, h.inc, h.low, h.dec, fun hb' x hx hxn r hr hu => by
  by_cases e' : x = i
  · subst e'
    rw [← e]
    exact (hb r hr).2 hu
  · exact h.clo hb' x (by omega) hxn r hr hu⟩
theorem Up.mono {F : Nat → Ins} {n : Nat} {f f' : Nat → Int} {x r : Nat} (h : Up F n f x r) (hf : ∀ y, bt (f y) r = true → bt (f' y) r = true) : Up F n f' x r := by
  rcases h with h | ⟨h1, y, h2, h3⟩
  · exact .inl h
  · exact .inr ⟨h1, y, h2, hf y h3⟩
theorem Psl.put (h : Psl F n f0 w wr (i + 1) b f) (hv : vcB n F = true) (hi : i < n) (s : Int) (hs : S4 s) (hb : ∀ r, r < 4 → (bt s r = true ↔ Up F n f i r)) (e : s ≠ f i) : Psl F n f0 w (wr.setCell ⟨w.heap.size, i, none⟩ (.int .i64 s)) i true (fun x => if x = i then s else f x) := by
  have hup : ∀ x r, r < 4 → bt (f x) r = true → bt ((fun x => if x = i then s else f x) x) r = true := fun x r hr hx => by
    show bt (if x = i then s else f x) r = true
    by_cases e' : x = i
    · rw [if_pos e']
      subst e'
      exact (hb r hr).2 (h.inc x r hi hr hx)
    · rw [if_neg e']
      exact hx
  have hle : f i < s := by
    have := (h.four i).le hs (fun r hr hx => (hb r hr).2 (h.inc i r hi hr hx))
    omega
  have h1 := lft_set f i s hle hs.2 n hi
  have h2 := h.low
  refine ⟨h.sts.set i s, fun x => ?_, fun x r hx hr hbx => ?_, fun x r hx hr hbx => ?_, by omega, fun _ => by omega, (fun e => by cases e)⟩
  · show S4 (if x = i then s else f x)
    split
    · exact hs
    · exact h.four x
  · have hbx' : bt (if x = i then s else f x) r = true := hbx
    by_cases e' : x = i
    · rw [if_pos e'] at hbx'
      subst e'
      rw [need_iff r x hi]
      rcases (hb r hr).1 hbx' with hu | ⟨hu, y, hy, hyb⟩
      · exact .inl hu
      · obtain ⟨z, hz, hzn⟩ := nx_in hv hi hy
        obtain rfl : y = z := by omega
        exact .inr ⟨hu, y, hy, h.sub y r hzn hr hyb⟩
    · rw [if_neg e'] at hbx'
      exact h.sub x r hx hr hbx'
  · have hbx' : bt (if x = i then s else f x) r = true := hbx
    by_cases e' : x = i
    · rw [if_pos e'] at hbx'
      subst e'
      exact ((hb r hr).1 hbx').mono (fun y hy => hup y r hr hy)
    · rw [if_neg e'] at hbx'
      exact (h.inc x r hx hr hbx').mono (fun y hy => hup y r hr hy)
theorem Psl.done (h : Psl F n f0 w wr 0 false f) {g : Nat → Int} (hgx : ∀ x, S4 (g x) ∧ ∀ r, r < 4 → (bt (g x) r = true ↔ Need F n r x)) (x : Nat) (hx : x ≤ n) : f x = g x := by
  refine S4.ext (h.four x) (hgx x).1 (fun r hr => ?_)
  rw [Bool.eq_iff_iff, (hgx x).2 r hr]
  refine ⟨h.sub x r hx hr, fun ⟨y, hy, hw, hb⟩ => ?_⟩
  by_cases hfx : bt (f x) r = true
  · exact hfx
  · exfalso
    have h1 := hw (fun z => bt (f z) r = false) (Bool.eq_false_iff.2 hfx) (fun u v hu hun hc hv => by
      refine Bool.eq_false_iff.2 (fun hv1 => ?_)
      have := h.clo rfl u (Nat.zero_le _) hun r hr (.inr ⟨hc, v, hv, hv1⟩)
      rw [hu] at this
      cases this)
    by_cases hyn : y < n
    · have := h.clo rfl y (Nat.zero_le _) hyn r hr (.inl hb)
      rw [h1] at this
      cases this
    · unfold urO at hb
      rw [if_neg hyn, bt_zero] at hb
      cases hb
end
end Go.Proofs.YtbjhlilhbeiogaaDoor

namespace Go.Proofs.YtbjhlilhbeiogaaDoor
open Go.RowKit Go.Shelf
set_option linter.unusedSimpArgs false
/-- The sets between two passes. -/
structure Osl (F : Nat → Ins) (n : Nat) (w wr : World) (b : Bool) (f : Nat → Int) : Prop where
  sts : Sts w wr n f
  four : ∀ x, S4 (f x)
  sub : ∀ x r, x ≤ n → r < 4 → bt (f x) r = true → Need F n r x
  inc : ∀ x r, x < n → r < 4 → bt (f x) r = true → Up F n f x r
  clo : b = false → ∀ x, x < n → ∀ r, r < 4 → Up F n f x r → bt (f x) r = true
section
variable {F : Nat → Ins} {n i : Nat} {f0 f : Nat → Int} {w wr wr' : World} {b : Bool}
theorem Psl.out (h : Psl F n f0 w wr 0 b f) : Osl F n w wr b f := ⟨h.sts, h.four, h.sub, h.inc, fun hb x hx => h.clo hb x (Nat.zero_le x) hx⟩
theorem Osl.start (h : Osl F n w wr b f) : Psl F n f w wr n false f := ⟨h.sts, h.four, h.sub, h.inc, Nat.le_refl _, (fun e => by cases e), fun _ x h1 h2 => by omega⟩
theorem Osl.left (h : Osl F n w wr b f) : lft (outOf wr w.heap.size) n = lft f n := h.start.left
theorem Osl.done (h : Osl F n w wr false f) {g : Nat → Int} (hgx : ∀ x, S4 (g x) ∧ ∀ r, r < 4 → (bt (g x) r = true ↔ Need F n r x)) (x : Nat) (hx : x ≤ n) : f x = g x :=
  Psl.done (F := F) (n := n) (f0 := f) (w := w) (wr := wr) ⟨h.sts, h.four, h.sub, h.inc, Nat.le_refl _, (fun e => by cases e), fun hb x _ hx => h.clo hb x hx⟩ hgx x hx
end
/-- What is laid for an index. -/
theorem up_set {F : Nat → Ins} {n : Nat} {f : Nat → Int} {x : Nat} (hv : vcB n F = true) (s : Int) (hs : S4 s) (h : ∀ r, r < 4 → (bt s r = true ↔ ∃ y : Nat, (y : Int) ∈ nxI (F x) x ∧ bt (f y) r = true)) :
    S4 (bits .or .i64 (bits .andNot .i64 s (uwO F n x)) (urO F n x)) ∧ ∀ r, r < 4 → (bt (bits .or .i64 (bits .andNot .i64 s (uwO F n x)) (urO F n x)) r = true ↔ Up F n f x r) := by
  obtain ⟨hu, hw⟩ := uses_sets hv x
  have h1 := hs.andNot hw
  have h2 := h1.1.or hu
  refine ⟨h2.1, fun r hr => ?_⟩
  rw [h2.2 r hr, h1.2 r hr, Bool.or_eq_true, Bool.and_eq_true, h r hr]
  unfold Up
  constructor
  · rintro (⟨⟨y, hy, hb⟩, hx⟩ | hx)
    · exact .inr ⟨by simpa using hx, y, hy, hb⟩
    · exact .inl hx
  · rintro (hx | ⟨hx, y, hy, hb⟩)
    · exact .inr hx
    · exact .inl ⟨⟨y, hy, hb⟩, by simpa using hx⟩
/-- What comes together of the first k. -/
def Tog (l0 : List Int) (f : Nat → Int) (k : Nat) (s : Int) : Prop := S4 s ∧ ∀ r, r < 4 → (bt s r = true ↔ ∃ j, j < k ∧ ∃ y : Nat, l0.getD j 0 = (y : Int) ∧ bt (f y) r = true)
theorem Tog.start (l0 : List Int) (f : Nat → Int) : Tog l0 f 0 0 := ⟨S4.zero, fun r _ => by
  rw [bt_zero]
  constructor
  · intro e
    cases e
  · rintro ⟨j, hj, _⟩
    omega⟩
theorem Tog.next {l0 : List Int} {f : Nat → Int} {k : Nat} {s : Int} (h : Tog l0 f k s) (y : Nat) (hy : l0.getD k 0 = (y : Int)) (hf : S4 (f y)) : Tog l0 f (k + 1) (bits .or .i64 s (f y)) := by
  have h1 := h.1.or hf
  refine ⟨h1.1, fun r hr => ?_⟩
  rw [h1.2 r hr, Bool.or_eq_true, h.2 r hr]
  constructor
  · rintro (⟨j, hj, z, hz, hb⟩ | hb)
    · exact ⟨j, by omega, z, hz, hb⟩
    · exact ⟨k, by omega, y, hy, hb⟩
  · rintro ⟨j, hj, z, hz, hb⟩
    by_cases e : j = k
    · subst e
      rw [hy] at hz
      obtain rfl : y = z := by omega
      exact .inr hb
    · exact .inl ⟨j, by omega, z, hz, hb⟩
theorem Tog.done {l0 : List Int} {f : Nat → Int} {s : Int} (h : Tog l0 f l0.length s) (r : Nat) (hr : r < 4) : bt s r = true ↔ ∃ y : Nat, (y : Int) ∈ l0 ∧ bt (f y) r = true := by
  rw [h.2 r hr]
  constructor
  · rintro ⟨j, hj, y, hy, hb⟩
    rw [List.getD_eq_getElem?_getD, List.getElem?_eq_getElem hj] at hy
    exact ⟨y, by rw [← hy]; exact List.getElem_mem hj, hb⟩
  · rintro ⟨y, hy, hb⟩
    obtain ⟨j, hj, e⟩ := List.getElem_of_mem hy
    exact ⟨j, hj, y, by rw [List.getD_eq_getElem?_getD, List.getElem?_eq_getElem hj, e]; rfl, hb⟩
set_option maxRecDepth 100000 in
set_option maxHeartbeats 16000000 in
theorem specLive_any (A : Option Addr) (n c : Nat) (F : Nat → Ins) (g : Nat → Int) (w : World) (hv : vcB n F = true) (h : Code w A n F) (hgx : ∀ x, S4 (g x) ∧ ∀ r, r < 4 → (bt (g x) r = true ↔ Need F n r x)) :
    Calls Tryd.prog 53 #[.slice A n c] w (NumRes (n + 1) g w) := by
  have hn := vcB_40 hv
  have HV := shade hv
  have H := shade h
  have HGX := shade hgx
  clear h hv hgx
  obtain ⟨i0, hi, hz0, hz1, hz2⟩ := info_parts info3n
  go_enter Tryd.func53, Tryd.ntmps53
  go_wp2_with (first
    | (at_make; refine wpList_make_full _ rfl _ _ 48 rfl w.heap.size 3 i0 (.int .i64 0) 1 Tryd.underlying48 hi hz0 hz1 .i64 .i64 (n + 1) (n + 1) (n + 1) rfl rfl rfl rfl (by rw [hz2]; omega) (by unfold maxLen; omega) (Nat.le_refl _) ?_)
    | go_in)
  intro w1 hown1 hgr1
  simp only [made_nums] at hown1
  have P1 := shade (show Osl F n w w1 true (fun _ => 0) from ⟨⟨hown1, hgr1⟩, fun _ => S4.zero, (fun x r _ _ hb => by rw [bt_zero] at hb; cases hb), (fun x r _ _ hb => by rw [bt_zero] at hb; cases hb), (fun e => by cases e)⟩)
  clear hown1 hgr1 hi hz0 hz1 hz2
  go_wp2_with fail
  go_loopw [4] (fun ag wr => ∃ (b : Bool) (f : Nat → Int), ag = .bool b ∧ Osl F n w wr b f) (fun ag wr => 2 * lft (outOf wr w.heap.size) n + flagV ag)
  case atStart => exact ⟨true, _, rfl, P1.out⟩
  case round =>
    clear P1
    obtain ⟨b, f, rfl, hp⟩ := hrel
    have HP := shade hp
    clear hp
    rcases b with _ | _
    · go_wp2_with fail
      go_ret
      exact ⟨_, rfl, by
        rw [numL_congr (n + 1) g f (fun j hj => (HP.out.done HGX.out j (by omega)).symm)]
        exact HP.out.sts.own, HP.out.sts.low⟩
    · have HQ := shade HP.out.start
      have HLE := shade HP.out.left
      obtain ⟨wo, rfl⟩ : ∃ wo : World, wo = wr := ⟨_, rfl⟩
      clear HP
      go_wp2_with fail
      go_loopw [4, 5] (fun ag q w2 => ∃ (b : Bool) (f2 : Nat → Int) (m : Nat), m ≤ n ∧ q = .int .i64 ((m : Int) - 1) ∧ ag = .bool b ∧ Psl F n f w w2 m b f2) (fun _ q _ => (intOf q + 1).toNat)
      case atStart => exact ⟨false, f, n, Nat.le_refl _, rfl, rfl, HQ.out⟩
      case round =>
        clear HQ
        obtain ⟨b, f2, m, hm, rfl, rfl, hp⟩ := hrel
        have HP := shade hp
        clear hp
        rcases m with _ | i
        · go_wp2_with fail
          go_roundw
          case rel => exact ⟨b, f2, rfl, HP.out.out⟩
          case measure =>
            have e1 := HP.out.left
            have e2 := HLE.out
            have e3 := HP.out.low
            have e4 := HP.out.dec
            rw [e1, e2]
            rcases b with _ | _
            · simp [flagV]
              omega
            · have := e4 rfl
              simp [flagV]
              omega
        · rw [show ((i + 1 : Nat) : Int) - 1 = (i : Int) by omega]
          have hin : i < n := by omega
          obtain ⟨cb, co, rfl, -⟩ := H.out.resolve_left (by omega)
          obtain ⟨q0, q1, q2, q3, q4⟩ := (H.out.on HP.out.sts.low).five hin
          have HX := shade (word_small HV.out hin)
          have HU := shade (show Calls Tryd.prog 54 #[IV (F i).op (F i).d (F i).a (F i).b (F i).k] wr fun e w' => e = .returned (.tuple #[.int .i64 (urO F n i), .int .i64 (uwO F n i)]) ∧ Below wr.heap.size wr w' from by
            have h := specUsesOf_any (F i).op (F i).d (F i).a (F i).b (F i).k HX.out.1 (wordN (F i).op.toList).toNat (by have := HX.out.2; omega) (by have := HX.out.2; omega) wr
            rw [show urO F n i = _ from if_pos hin, show uwO F n i = _ from if_pos hin]
            exact h)
          have HSET := shade (fun s f => up_set (f := f) (x := i) HV.out s)
          have HNX := shade (fun W (hW : Code W (some ⟨cb, co, none⟩) n F) => nextOf_any cb co n c i F W hn hin hW)
          have HL3 := shade (show ∀ z, z ∈ nxI (F i) i → ∃ y : Nat, z = y ∧ y ≤ n from fun z hz => by
            obtain ⟨y, rfl, hy⟩ := nx_in HV.out hin hz
            exact ⟨y, rfl, hy⟩)
          have hl2 := nxI_le (F i) i
          obtain ⟨l0, hl0⟩ : ∃ l0, nxI (F i) i = l0 := ⟨_, rfl⟩
          rw [hl0] at HNX HL3 hl2 HSET
          obtain ⟨u, hu⟩ : ∃ u, urO F n i = u := ⟨_, rfl⟩
          obtain ⟨v, hv⟩ : ∃ v, uwO F n i = v := ⟨_, rfl⟩
          rw [hu, hv] at HU HSET
          clear hl0 hu hv HX
          generalize (F i).op = op at *
          generalize (F i).d = d at *
          generalize (F i).a = a at *
          generalize (F i).b = b' at *
          generalize (F i).k = kk at *
          go_wp2_with fail
          refine HU.out.mono ?_
          rintro e w4 ⟨rfl, hb4⟩
          have HP4 := shade (HP.out.on (grown_of_below hb4))
          clear hb4 HP HU q0 q1 q2 q3 q4
          go_wp2_with fail
          refine (HNX.out _ (H.out.on HP4.out.sts.low)).mono ?_
          rintro e w5 ⟨v0, rfl, ho, hg5⟩
          obtain ⟨A0, c0, rfl, -⟩ := ownsRow_slice ho
          have HO := shade (World.ownsRow.mono ho (show w.heap.size + 1 ≤ w4.heap.size from HP4.out.sts.lt))
          have HP5 := shade (HP4.out.on hg5)
          clear ho hg5 HNX HP4
          go_wp2_with fail
          go_loopw [8, 10] (fun st q w2 => ∃ (s : Int) (k : Nat), k ≤ l0.length ∧ q = .int .i64 (k : Int) ∧ st = .int .i64 s ∧ Tog l0 f2 k s ∧ Psl F n f w w2 (i + 1) b f2 ∧ w2.ownsRow (w.heap.size + 1) 3 1 (.slice A0 l0.length c0) l0.length (valI l0)) (fun _ q _ => l0.length - (intOf q).toNat)
          case atStart => exact ⟨0, 0, Nat.zero_le _, rfl, rfl, Tog.start _ _, HP5.out, HO.out⟩
          case round =>
            clear HP5 HO
            obtain ⟨s, k, hk, rfl, rfl, htog, hp, hown⟩ := hrel
            have HP := shade hp
            have HO := shade hown
            have HT := shade htog
            clear hp hown htog
            by_cases hkl : k < l0.length
            · obtain ⟨bl, e0, hgb, qc⟩ := Rest.first HO.out (Nat.lt_succ_self _) k (Nat.zero_le _) hkl
              subst e0
              obtain ⟨y, hy, hyn⟩ := HL3.out (l0.getD k 0) (by rw [List.getD_eq_getElem?_getD, List.getElem?_eq_getElem hkl]; exact List.getElem_mem _)
              rw [hy] at qc
              have HN := shade (HT.out.next y hy (HP.out.four y))
              clear hy
              have s0 := HP.out.sts.cell y hyn
              go_wp2_with fail
              try (go_quiet (fail); go_wp2_with fail)
              go_roundw
              case rel => exact ⟨_, k + 1, by omega, by go_num, rfl, HN.out, HP.out, HO.out⟩
              case measure => simp [intOf]; omega
            · have hkl2 : k = l0.length := by omega
              subst hkl2
              have HS := shade (HSET.out s f2 HT.out.1 HT.out.done)
              obtain ⟨s2, hs2⟩ : ∃ s2, bits .or .i64 (bits .andNot .i64 s v) u = s2 := ⟨_, rfl⟩
              rw [hs2] at HS
              have s0 := HP.out.sts.cell i (by omega)
              have s1 := HP.out.sts.free i
              rcases he : s2 == f2 i with _ | _
              · have HN := shade (HP.out.put HV.out hin s2 HS.out.1 HS.out.2 (fun e => by rw [e] at he; simp at he))
                clear HP HT HS HSET
                go_wp2_with fail
                go_roundw
                case rel => exact ⟨true, _, i, by omega, by go_num, rfl, HN.out⟩
                case measure => simp [intOf]
              · have HN := shade (HP.out.same s2 HS.out.2 (beq_iff_eq.1 he))
                clear HP HT HS HSET
                go_wp2_with fail
                go_roundw
                case rel => exact ⟨b, f2, i, by omega, by go_num, rfl, HN.out⟩
                case measure => simp [intOf]
end Go.Proofs.YtbjhlilhbeiogaaDoor

namespace Go.Proofs.YtbjhlilhbeiogaaDoor
open Go.RowKit Go.Shelf
set_option linter.unusedSimpArgs false
theorem NumRes.behind {k : Nat} {f : Nat → Int} {w w1 w2 : World} {e : Ending} (hg : w.grownBy w1 none) (h : NumRes k f w1 e w2) : NumRes k f w e w2 := by
  obtain ⟨v, he, ho, h2⟩ := h
  exact ⟨v, he, World.ownsRow.mono ho hg.size, grown_same hg h2⟩
end Go.Proofs.YtbjhlilhbeiogaaDoor
