/- The laws' marks over rows of wide instructions that a call has made, written and read back. -/
import Derived.Test.YtehjfnfpebdidaaDoorV41
import Derived.Deep.RegionHeld3
import Derived.Laws.IdiomStrings
import Derived.Laws.Concat
import Derived.Laws.DeepStrings4
namespace Go.Proofs.YtehjfnfpebdidaaDoor
open Go.RowKit
set_option linter.unusedSimpArgs false
/-- A text of bytes. -/
def tx (x : List UInt8) : ByteArray := ⟨x.toArray⟩
theorem tx_size (x : List UInt8) : (tx x).size = x.length := by simp [tx, ByteArray.size]
theorem tx_append (x y : List UInt8) : tx x ++ tx y = tx (x ++ y) := ByteArray.mk_append_mk x y
def mkD (k : Nat) (acc : List UInt8) : List UInt8 := if h : k = 0 then acc else mkD (k / 10) (UInt8.ofNat (48 + k % 10) :: acc)
termination_by k
decreasing_by omega
/-- The mark of a number. -/
def mt (k : Nat) : ByteArray := tx (109 :: mkD k [])
theorem mkD_zero (acc : List UInt8) : mkD 0 acc = acc := by rw [mkD, dif_pos rfl]
theorem mkD_pos (k : Nat) (acc : List UInt8) (h : 0 < k) : mkD k acc = mkD (k / 10) (UInt8.ofNat (48 + k % 10) :: acc) := by
  rw [mkD, dif_neg (by omega)]
theorem tx_one (d : UInt8) (x : List UInt8) : ByteArray.append ⟨#[d]⟩ (tx x) = tx (d :: x) := tx_append [d] x
theorem tx_one' (d : UInt8) (x : List UInt8) : (⟨#[d]⟩ : ByteArray) ++ tx x = tx (d :: x) := tx_append [d] x
theorem grown_alloc' {a b : World} {row : Option Nat} (h : a.grownBy b row) (o : Obj) : a.grownBy (b.alloc o) row := grown_same h (World.grownBy_alloc b o row)
set_option maxHeartbeats 2000000 in
theorem markText_is (k : Nat) (w : World) (h0 : 0 < k) (h1 : k ≤ 100000000) :
    Calls Tryd.prog 32 #[.int .i64 k] w fun e w' => e = .returned (.string (mt k)) ∧ w.grownBy w' none := by
  go_enter Tryd.func32, Tryd.ntmps32
  go_wp2
  go_loopw [0, 3] (fun x t wr => ∃ (kk : Nat) (acc : List UInt8), x = .int .i64 kk ∧ t = .string (tx acc) ∧ mkD kk acc = mkD k [] ∧ acc.length + kk ≤ 100000000 ∧ w.grownBy wr none) (fun x _ _ => (intOf x).toNat)
  case atStart => exact ⟨k, [], rfl, rfl, rfl, by simpa using h1, World.grownBy.refl _ _⟩
  case round =>
    obtain ⟨kk, acc, rfl, rfl, hmk, hk1, hg⟩ := hrel
    have HG := shade hg
    have HM := shade hmk
    clear hg hmk
    by_cases hp : 0 < kk
    · obtain ⟨d, hd, hd2⟩ : ∃ d : UInt8, (d.toNat : Int) = 48 + (kk : Int) % 10 ∧ UInt8.ofNat (48 + kk % 10) = d := ⟨UInt8.ofNat (48 + kk % 10), by
        simp only [UInt8.toNat_ofNat']
        omega, rfl⟩
      have hcv : ∀ W : World, W.cell? ⟨wr.heap.size, 0, none⟩ = some (.int .u8 (48 + (kk : Int) % 10)) → (convert 22 9 (.slice (some ⟨wr.heap.size, 0, none⟩) 1 1)).run Tryd.prog W = .ok (.string ⟨#[d]⟩) W := fun W hW =>
        run_convert_bytes_back (P := Tryd.prog) W 22 9 5 ⟨wr.heap.size, 0, none⟩ 1 [d] Tryd.underlying22 Tryd.underlying5 Tryd.underlying9 (fun j hj => by
          have : j = 0 := by simpa using hj
          subst this
          rw [Addr.add_lit]
          simpa [hd] using hW)
      have hcv2 := hcv (wr.alloc (.cells #[.int .u8 (48 + (kk : Int) % 10)] 5)) (by rw [World.cell?_alloc_new]; rfl)
      have hadd := fun W : World => run_string_add_sum (P := Tryd.prog) W ⟨#[d]⟩ (tx acc) (by
        rw [tx_size]
        show 1 + acc.length ≤ _
        omega)
      clear hcv
      go_wp2
      go_roundw
      case rel =>
        refine ⟨kk / 10, d :: acc, by go_num, by first | rw [tx_one] | rw [tx_one'], ?_, ?_, grown_alloc' HG.out _⟩
        · rw [← HM.out, mkD_pos kk acc hp, hd2]
        · simp only [List.length_cons]
          omega
      case measure =>
        clear hcv2 hadd
        simp [intOf]
        omega
    · have hz : kk = 0 := by omega
      subst hz
      have hadd := fun W : World => run_string_add_sum (P := Tryd.prog) W ⟨#[109]⟩ (tx acc) (by
        rw [tx_size]
        show 1 + acc.length ≤ _
        omega)
      go_wp2
      go_ret
      rw [mkD_zero] at HM
      refine ⟨?_, HG.out⟩
      show _ = Ending.returned (Value.string (mt k))
      unfold mt
      rw [← HM.out]
      first | (rw [tx_one]; rfl) | (rw [tx_one']; rfl) | rfl
/-- The marks from m on. -/
def mkW (m j : Nat) : Wid := ⟨mt (m + 4 * j), ((m + 4 * j + 1 : Nat) : Int), ((m + 4 * j + 2 : Nat) : Int), ((m + 4 * j + 3 : Nat) : Int)⟩
theorem markWd_zero (A : Option Addr) (c : Nat) (m : Int) (w : World) :
    Calls Tryd.prog 16 #[.slice A 0 c, .int .i64 m] w fun e w' => e = .returned (.int .i64 m) ∧ w = w' := by
  go_enter Tryd.func16, Tryd.ntmps16
  go_wp2
  refine wp_loop_rounds 1 ?_
  rw [rounds_succ]
  go_wp2
  go_ret
  exact ⟨rfl, rfl⟩
theorem heldWd_zero (A : Option Addr) (c : Nat) (m : Int) (w : World) :
    Calls Tryd.prog 18 #[.slice A 0 c, .int .i64 m] w fun e w' => e = .returned (.int .i64 m) ∧ w = w' := by
  go_enter Tryd.func18, Tryd.ntmps18
  go_wp2
  refine wp_loop_rounds 1 ?_
  rw [rounds_succ]
  go_wp2
  go_ret
  exact ⟨rfl, rfl⟩
set_option maxRecDepth 100000 in
set_option maxHeartbeats 8000000 in
theorem markWd_at (B g n cap : Nat) (f : Nat → Wid) (m : Nat) (w : World) (hn : n ≤ 1048576) (hm0 : 0 < m) (hm : m ≤ 1000) (h : OwnW w B (some ⟨g, 0, none⟩) n cap f) :
    Calls Tryd.prog 16 #[.slice (some ⟨g, 0, none⟩) n cap, .int .i64 m] w fun e w' => e = .returned (.int .i64 (m + 4 * (n : Int))) ∧ OwnW w' B (some ⟨g, 0, none⟩) n cap (mkW m) ∧ w.grownBy w' (some g) := by
  have H := shade h
  clear h
  go_enter Tryd.func16, Tryd.ntmps16
  go_wp2
  go_loopw [1, 5] (fun q i wr => ∃ (k : Nat) (f : Nat → Wid), k ≤ n ∧ i = .int .i64 k ∧ q = .int .i64 (m + 4 * (k : Int)) ∧ OwnW wr B (some ⟨g, 0, none⟩) n cap f ∧ w.grownBy wr (some g) ∧ (∀ j, j < k → f j = mkW m j)) (fun _ i _ => n - (intOf i).toNat)
  case atStart => exact ⟨0, f, Nat.zero_le _, rfl, by simp, H.out, ⟨rfl, rfl, rfl, Nat.le_refl _, fun _ _ _ => rfl⟩, fun j h => absurd h (by omega)⟩
  case round =>
    clear H
    obtain ⟨k, f, hk, rfl, rfl, hown, hgr, hfm⟩ := hrel
    have HO := shade hown
    have HR := shade hgr
    have HFM := shade hfm
    clear hown hgr hfm
    by_cases hkn : k < n
    · have hmk : ((m : Int) + 4 * (k : Int)) = ((m + 4 * k : Nat) : Int) := by omega
      have HM := shade (fun W => markText_is (m + 4 * k) W (by omega) (by omega))
      rw [← hmk] at HM
      clear hmk
      obtain ⟨xs, hxs⟩ : ∃ xs, mt (m + 4 * k) = xs := ⟨_, rfl⟩
      rw [hxs] at HM
      have HXS := shade hxs
      clear hxs
      go_wp2_with fail
      refine (HM.out _).mono ?_
      rintro e w2 ⟨rfl, hg⟩
      have ho : OwnW w2 B (some ⟨g, 0, none⟩) n cap f := World.ownsRow.kept HO.out hg (.inr (by
        show some g ≠ none
        simp))
      obtain ⟨p0, p1, p2, p3⟩ := ho.wds.four hkn
      have t0 := World.ownsRow.frozenAt ho (k * 4); have t1 := World.ownsRow.frozenAt ho (k * 4 + 1); have t2 := World.ownsRow.frozenAt ho (k * 4 + 2); have t3 := World.ownsRow.frozenAt ho (k * 4 + 3)
      simp only [Nat.zero_add] at p0 p1 p2 p3
      have HO2 := shade ho
      have HR2 := shade (grown_then_some HR.out hg)
      clear hg ho HO HR
      go_wp2_with fail
      go_roundw
      case rel =>
        refine ⟨k + 1, _, by omega, by go_num, by go_num, OwnW.put HO2.out k ⟨xs, (m : Int) + 4 * (k : Int) + 1, (m : Int) + 4 * (k : Int) + 1 + 1, (m : Int) + 4 * (k : Int) + 1 + 1 + 1⟩, ?_, ?_⟩
        · exact grown_same (grown_same (grown_same (grown_same HR2.out (grown_set _ _ _)) (grown_set _ _ _)) (grown_set _ _ _)) (grown_set _ _ _)
        · intro j hj
          show (if j = k then _ else f j) = mkW m j
          by_cases e : j = k
          · rw [if_pos e, e, mkW, HXS.out]
            congr 1 <;> omega
          · rw [if_neg e]
            exact HFM.out j (by omega)
      case measure => simp [intOf]; omega
    · have hkn2 : k = n := by omega
      subst hkn2
      have HO3 := shade (OwnW.congr HO.out HFM.out)
      go_wp2
      go_ret
      exact ⟨rfl, HO3.out, HR.out⟩
set_option maxRecDepth 100000 in
set_option maxHeartbeats 8000000 in
theorem heldWd_at (g n cap : Nat) (m : Nat) (w : World) (hn : n ≤ 1048576) (hm0 : 0 < m) (hm : m ≤ 1000) (h : Wds w (some ⟨g, 0, none⟩) n (mkW m)) :
    Calls Tryd.prog 18 #[.slice (some ⟨g, 0, none⟩) n cap, .int .i64 m] w fun e w' => e = .returned (.int .i64 (m + 4 * (n : Int))) ∧ w.grownBy w' none := by
  have H := shade h
  clear h
  go_enter Tryd.func18, Tryd.ntmps18
  go_wp2
  go_loopw [1, 5] (fun q i wr => ∃ k : Nat, k ≤ n ∧ i = .int .i64 k ∧ q = .int .i64 (m + 4 * (k : Int)) ∧ w.grownBy wr none) (fun _ i _ => n - (intOf i).toNat)
  case atStart => exact ⟨0, Nat.zero_le _, rfl, by simp, grown_refl _ _⟩
  case round =>
    obtain ⟨k, hk, rfl, rfl, hgr⟩ := hrel
    by_cases hkn : k < n
    · have hgd := grown_same hgr (grown_drew1 wr)
      have p := (H.out.on hgd).four hkn
      have HR := shade hgd
      have hmk : ((m : Int) + 4 * (k : Int)) = ((m + 4 * k : Nat) : Int) := by omega
      have HM := shade (fun W => markText_is (m + 4 * k) W (by omega) (by omega))
      rw [← hmk] at HM
      simp only [mkW, Nat.zero_add] at p
      have e1 : ((m + 4 * k + 1 : Nat) : Int) = (m : Int) + 4 * (k : Int) + 1 := by omega
      have e2 : ((m + 4 * k + 2 : Nat) : Int) = (m : Int) + 4 * (k : Int) + 1 + 1 := by omega
      have e3 : ((m + 4 * k + 3 : Nat) : Int) = (m : Int) + 4 * (k : Int) + 1 + 1 + 1 := by omega
      rw [e1, e2, e3] at p
      obtain ⟨xs, hxs⟩ : ∃ xs, mt (m + 4 * k) = xs := ⟨_, rfl⟩
      rw [hxs] at HM p
      have P := shade p
      clear hxs hmk hgr hgd e1 e2 e3 p
      go_upto_region 4 with (fail)
      go_region_held3 (fun w' => w'.cell? ⟨g, k * 4, none⟩ = some (.string xs))
        (first | with_reducible exact P.out.1 | with_reducible exact Q2.out.1)
        (first | (go_at_call 32; refine (HM.out _).mono ?_; rintro e w3 ⟨rfl, hgr⟩; have Q2 := shade (And.intro (hgr.cell P.out.1 (by intro e; cases e)) (And.intro (hgr.cell P.out.2.1 (by intro e; cases e)) (And.intro (hgr.cell P.out.2.2.1 (by intro e; cases e)) (hgr.cell P.out.2.2.2 (by intro e; cases e))))); have HR2 := shade (grown_same HR.out hgr); clear hgr))
      obtain ⟨z0, z1, z2, z3⟩ := Q2.out
      go_wp2_with fail
      go_roundw
      case rel => exact ⟨k + 1, by omega, by go_num, by go_num, HR2.out⟩
      case measure => simp [intOf]; omega
    · have hkn2 : k = n := by omega
      subst hkn2
      have HR := shade hgr
      clear hgr
      go_wp2
      go_ret
      exact ⟨rfl, HR.out⟩
/-- A row of wide instructions that a call has made, in a stretch of memory. -/
structure RowW (wr : World) (lo hi : Nat) (v : Value) (K : Nat) (f : Nat → Wid) : Prop where
  own : wr.ownsRow lo 43 4 v K (wideL K f)
  hib : ∀ i, v.ownBlock = some i → i < hi
section
variable {w w' wr w2 : World} {lo hi : Nat} {v : Value} {K : Nat} {f : Nat → Wid}
theorem RowW.rng (h : RowW wr lo hi v K f) {i : Nat} (hi' : v.ownBlock = some i) : lo ≤ i ∧ i < hi := ⟨(World.ownsRow.lt h.own i hi').1, h.hib i hi'⟩
theorem RowW.grown (h : RowW wr lo hi v K f) (hg : wr.grownBy w2 none) : RowW w2 lo hi v K f := ⟨ownsRow_on h.own hg, h.hib⟩
theorem RowW.row {row : Option Nat} (h : RowW wr lo hi v K f) (hg : wr.grownBy w2 row) (hb : ∀ b, row = some b → b < lo ∨ hi ≤ b) : RowW w2 lo hi v K f := by
  refine ⟨?_, h.hib⟩
  rcases hv : v.ownBlock with _ | i
  · exact World.ownsRow.kept h.own hg (.inl hv)
  · refine World.ownsRow.kept h.own hg (.inr fun e' => ?_)
    rw [hv] at e'
    have h1 := h.rng hv
    have h2 := hb i e'.symm
    omega
/-- A row of the other kind is changed: this one stays. -/
theorem RowW.byNum {xs : List Value} {u : Value} {B n : Nat} (h : RowW wr lo hi v K f) (h' : wr.ownsRow B 3 1 u n xs) (hg : wr.grownBy w2 u.ownBlock) : RowW w2 lo hi v K f := ⟨kept_ty h' h.own (by decide) hg, h.hib⟩
theorem RowO.byWid {e : TypeId} {xs : List Value} {u : Value} {B n : Nat} {ys : List Value} (h : RowO wr lo hi e v K xs) (he : 43 ≠ e) (h' : wr.ownsRow B 43 4 u n ys) (hg : wr.grownBy w2 u.ownBlock) : RowO w2 lo hi e v K xs := ⟨kept_ty h' h.own he hg, h.hib⟩
end
theorem ShRes.row {k n : Nat} {f : Nat → Wid} {g : Nat → Int} {w w' : World} {e : Ending} (h : ShRes k f n g w e w') : ∃ v1 v2, e = .returned (.tuple #[v1, v2]) ∧ RowW w' w.heap.size w'.heap.size v1 k f ∧ RowO w' w.heap.size w'.heap.size 3 v2 n (numL n g) ∧ w.grownBy w' none := by
  obtain ⟨v1, v2, he, h1, h2, hg⟩ := h
  exact ⟨v1, v2, he, ⟨h1, fun i hi => (World.ownsRow.lt h1 i hi).2⟩, ⟨h2, fun i hi => (World.ownsRow.lt h2 i hi).2⟩, hg⟩
theorem eqWideS_row (lo1 hi1 lo2 hi2 K : Nat) (v1 v2 : Value) (f : Nat → Wid) (w : World) (hK : K ≤ 300) (h1 : RowW w lo1 hi1 v1 K f) (h2 : RowW w lo2 hi2 v2 K f) :
    Calls Tryd.prog 14 #[v1, v2] w fun e w' => e = .returned (.bool true) ∧ w.grownBy w' none := by
  obtain ⟨A1, c1, rfl, hn1⟩ := wds_of h1.own
  obtain ⟨A2, c2, rfl, hn2⟩ := wds_of h2.own
  exact eqWideS_any A1 A2 c1 c2 K f w (by omega) hn1 hn2
theorem markWidS_row (lo hi K : Nat) (v : Value) (f : Nat → Wid) (w : World) (hK : K ≤ 300) (h : RowW w lo hi v K f) :
    Calls Tryd.prog 16 #[v, .int .i64 1] w fun e w' => e = .returned (.int .i64 (1 + 4 * (K : Int))) ∧ RowW w' lo hi v K (mkW 1) ∧ w.grownBy w' v.ownBlock := by
  have ho := h.own
  have hb := h.hib
  rcases ho.2 with ⟨e', h0⟩ | ⟨g', cap', cur, e', _⟩
  · subst h0
    rw [e'] at ho hb ⊢
    refine (markWd_zero none 0 1 w).mono ?_
    rintro e w' ⟨rfl, rfl⟩
    exact ⟨by simp, ⟨ho, hb⟩, grown_refl _ _⟩
  · rw [e'] at ho hb ⊢
    refine (markWd_at lo g' K cap' f 1 w (by omega) (by omega) (by omega) ho).mono ?_
    rintro e w' ⟨rfl, h1, h2⟩
    exact ⟨rfl, ⟨h1, hb⟩, h2⟩
theorem heldWidS_row (lo hi K : Nat) (v : Value) (w : World) (hK : K ≤ 300) (h : RowW w lo hi v K (mkW 1)) :
    Calls Tryd.prog 18 #[v, .int .i64 1] w fun e w' => e = .returned (.int .i64 (1 + 4 * (K : Int))) ∧ w.grownBy w' none := by
  have ho := h.own
  rcases ho.2 with ⟨e', h0⟩ | ⟨g', cap', cur, e', _⟩
  · subst h0
    rw [e'] at ho ⊢
    refine (heldWd_zero none 0 1 w).mono ?_
    rintro e w' ⟨rfl, rfl⟩
    exact ⟨by simp, grown_refl _ _⟩
  · rw [e'] at ho ⊢
    exact heldWd_at g' K cap' 1 w (by omega) (by omega) (by omega) (OwnW.wds ho)
end Go.Proofs.YtehjfnfpebdidaaDoor
