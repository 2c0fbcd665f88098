/- The laws' marks over a slice of instructions that the call owns, written and read back. Rows of instructions that a call has made; their marks. -/
import Derived.Test.YtcfnoihjpiklhaaDoorW97
import Derived.Deep.RegionHeld3
import Derived.Laws.IdiomStrings
import Derived.Laws.Concat
import Derived.Laws.DeepStrings4
namespace Go.Proofs.YtcfnoihjpiklhaaDoor
open Go.RowKit
set_option linter.unusedSimpArgs false
/-- A text of bytes. -/
def tx (x : List UInt8) : ByteArray := ⟨x.toArray⟩
theorem tx_size (x : List UInt8) : (tx x).size = x.length := by simp [tx, ByteArray.size]
theorem tx_append (x y : List UInt8) : tx x ++ tx y = tx (x ++ y) := ByteArray.mk_append_mk x y
def mkD (k : Nat) (acc : List UInt8) : List UInt8 := if h : k = 0 then acc else mkD (k / 10) (UInt8.ofNat (48 + k % 10) :: acc)
termination_by k
decreasing_by omega
/-- The mark of a number. -/
def mt (k : Nat) : ByteArray := tx (109 :: mkD k [])
theorem mkD_zero (acc : List UInt8) : mkD 0 acc = acc := by rw [mkD, dif_pos rfl]
theorem mkD_pos (k : Nat) (acc : List UInt8) (h : 0 < k) : mkD k acc = mkD (k / 10) (UInt8.ofNat (48 + k % 10) :: acc) := by
  rw [mkD, dif_neg (by omega)]
theorem tx_one (d : UInt8) (x : List UInt8) : ByteArray.append ⟨#[d]⟩ (tx x) = tx (d :: x) := tx_append [d] x
theorem tx_one' (d : UInt8) (x : List UInt8) : (⟨#[d]⟩ : ByteArray) ++ tx x = tx (d :: x) := tx_append [d] x
theorem grown_alloc' {a b : World} {row : Option Nat} (h : a.grownBy b row) (o : Obj) : a.grownBy (b.alloc o) row := grown_same h (World.grownBy_alloc b o row)
set_option maxHeartbeats 2000000 in
theorem markText_is (k : Nat) (w : World) (h0 : 0 < k) (h1 : k ≤ 100000000) :
    Calls Tryd.prog 38 #[.int .i64 k] w fun e w' => e = .returned (.string (mt k)) ∧ w.grownBy w' none := by
  go_enter Tryd.func38, Tryd.ntmps38
  go_wp2
  go_loopw [0, 3] (fun x t wr => ∃ (kk : Nat) (acc : List UInt8), x = .int .i64 kk ∧ t = .string (tx acc) ∧ mkD kk acc = mkD k [] ∧ acc.length + kk ≤ 100000000 ∧ w.grownBy wr none) (fun x _ _ => (intOf x).toNat)
  case atStart => exact ⟨k, [], rfl, rfl, rfl, by simpa using h1, World.grownBy.refl _ _⟩
  case round =>
    obtain ⟨kk, acc, rfl, rfl, hmk, hk1, hg⟩ := hrel
    have HG := shade hg
    have HM := shade hmk
    clear hg hmk
    by_cases hp : 0 < kk
    · obtain ⟨d, hd, hd2⟩ : ∃ d : UInt8, (d.toNat : Int) = 48 + (kk : Int) % 10 ∧ UInt8.ofNat (48 + kk % 10) = d := ⟨UInt8.ofNat (48 + kk % 10), by
        simp only [UInt8.toNat_ofNat']
        omega, rfl⟩
      have hcv : ∀ W : World, W.cell? ⟨wr.heap.size, 0, none⟩ = some (.int .u8 (48 + (kk : Int) % 10)) → (convert 22 9 (.slice (some ⟨wr.heap.size, 0, none⟩) 1 1)).run Tryd.prog W = .ok (.string ⟨#[d]⟩) W := fun W hW =>
        run_convert_bytes_back (P := Tryd.prog) W 22 9 5 ⟨wr.heap.size, 0, none⟩ 1 [d] Tryd.underlying22 Tryd.underlying5 Tryd.underlying9 (fun j hj => by
          have : j = 0 := by simpa using hj
          subst this
          rw [Addr.add_lit]
          simpa [hd] using hW)
      have hcv2 := hcv (wr.alloc (.cells #[.int .u8 (48 + (kk : Int) % 10)] 5)) (by rw [World.cell?_alloc_new]; rfl)
      have hadd := fun W : World => run_string_add_sum (P := Tryd.prog) W ⟨#[d]⟩ (tx acc) (by
        rw [tx_size]
        show 1 + acc.length ≤ _
        omega)
      clear hcv
      go_wp2
      go_roundw
      case rel =>
        refine ⟨kk / 10, d :: acc, by go_num, by first | rw [tx_one] | rw [tx_one'], ?_, ?_, grown_alloc' HG.out _⟩
        · rw [← HM.out, mkD_pos kk acc hp, hd2]
        · simp only [List.length_cons]
          omega
      case measure =>
        clear hcv2 hadd
        simp [intOf]
        omega
    · have hz : kk = 0 := by omega
      subst hz
      have hadd := fun W : World => run_string_add_sum (P := Tryd.prog) W ⟨#[109]⟩ (tx acc) (by
        rw [tx_size]
        show 1 + acc.length ≤ _
        omega)
      go_wp2
      go_ret
      rw [mkD_zero] at HM
      refine ⟨?_, HG.out⟩
      show _ = Ending.returned (Value.string (mt k))
      unfold mt
      rw [← HM.out]
      first | (rw [tx_one]; rfl) | (rw [tx_one']; rfl) | rfl
/-- The marks from m on. -/
def mkI (m j : Nat) : Ins := ⟨mt (m + 5 * j), ((m + 5 * j + 1 : Nat) : Int), ((m + 5 * j + 2 : Nat) : Int), ((m + 5 * j + 3 : Nat) : Int), ((m + 5 * j + 4 : Nat) : Int)⟩
theorem markI_zero (A : Option Addr) (c : Nat) (m : Int) (w : World) :
    Calls Tryd.prog 19 #[.slice A 0 c, .int .i64 m] w fun e w' => e = .returned (.int .i64 m) ∧ w = w' := by
  go_enter Tryd.func19, Tryd.ntmps19
  go_wp2
  refine wp_loop_rounds 1 ?_
  rw [rounds_succ]
  go_wp2
  go_ret
  exact ⟨rfl, rfl⟩
theorem heldI_zero (A : Option Addr) (c : Nat) (m : Int) (w : World) :
    Calls Tryd.prog 22 #[.slice A 0 c, .int .i64 m] w fun e w' => e = .returned (.int .i64 m) ∧ w = w' := by
  go_enter Tryd.func22, Tryd.ntmps22
  go_wp2
  refine wp_loop_rounds 1 ?_
  rw [rounds_succ]
  go_wp2
  go_ret
  exact ⟨rfl, rfl⟩
set_option maxRecDepth 100000 in
set_option maxHeartbeats 8000000 in
theorem markI_at (B g n cap : Nat) (f : Nat → Ins) (m : Nat) (w : World) (hn : n ≤ 1048576) (hm0 : 0 < m) (hm : m ≤ 1000) (h : OwnC w B (some ⟨g, 0, none⟩) n cap f) :
    Calls Tryd.prog 19 #[.slice (some ⟨g, 0, none⟩) n cap, .int .i64 m] w fun e w' => e = .returned (.int .i64 (m + 5 * (n : Int))) ∧ OwnC w' B (some ⟨g, 0, none⟩) n cap (mkI m) ∧ w.grownBy w' (some g) := by
  have H := shade h
  clear h
  go_enter Tryd.func19, Tryd.ntmps19
  go_wp2
  go_loopw [1, 5] (fun q i wr => ∃ (k : Nat) (f : Nat → Ins), k ≤ n ∧ i = .int .i64 k ∧ q = .int .i64 (m + 5 * (k : Int)) ∧ OwnC wr B (some ⟨g, 0, none⟩) n cap f ∧ w.grownBy wr (some g) ∧ (∀ j, j < k → f j = mkI m j)) (fun _ i _ => n - (intOf i).toNat)
  case atStart => exact ⟨0, f, Nat.zero_le _, rfl, by simp, H.out, ⟨rfl, rfl, rfl, Nat.le_refl _, fun _ _ _ => rfl⟩, fun j h => absurd h (by omega)⟩
  case round =>
    clear H
    obtain ⟨k, f, hk, rfl, rfl, hown, hgr, hfm⟩ := hrel
    have HO := shade hown
    have HR := shade hgr
    have HFM := shade hfm
    clear hown hgr hfm
    by_cases hkn : k < n
    · have hmk : ((m : Int) + 5 * (k : Int)) = ((m + 5 * k : Nat) : Int) := by omega
      have HM := shade (fun W => markText_is (m + 5 * k) W (by omega) (by omega))
      rw [← hmk] at HM
      clear hmk
      obtain ⟨xs, hxs⟩ : ∃ xs, mt (m + 5 * k) = xs := ⟨_, rfl⟩
      rw [hxs] at HM
      have HXS := shade hxs
      clear hxs
      go_wp2_with fail
      refine (HM.out _).mono ?_
      rintro e w2 ⟨rfl, hg⟩
      have ho : OwnC w2 B (some ⟨g, 0, none⟩) n cap f := World.ownsRow.kept HO.out hg (.inr (by
        show some g ≠ none
        simp))
      obtain ⟨p0, p1, p2, p3, p4⟩ := ho.code.five hkn
      have t0 := World.ownsRow.frozenAt ho (k * 5); have t1 := World.ownsRow.frozenAt ho (k * 5 + 1); have t2 := World.ownsRow.frozenAt ho (k * 5 + 2); have t3 := World.ownsRow.frozenAt ho (k * 5 + 3); have t4 := World.ownsRow.frozenAt ho (k * 5 + 4)
      simp only [Nat.zero_add] at p0 p1 p2 p3 p4
      have HO2 := shade ho
      have HR2 := shade (grown_then_some HR.out hg)
      clear hg ho HO HR
      go_wp2_with fail
      go_roundw
      case rel =>
        refine ⟨k + 1, _, by omega, by go_num, by go_num, OwnC.put HO2.out k ⟨xs, (m : Int) + 5 * (k : Int) + 1, (m : Int) + 5 * (k : Int) + 1 + 1, (m : Int) + 5 * (k : Int) + 1 + 1 + 1, (m : Int) + 5 * (k : Int) + 1 + 1 + 1 + 1⟩, ?_, ?_⟩
        · exact grown_same (grown_same (grown_same (grown_same (grown_same HR2.out (grown_set _ _ _)) (grown_set _ _ _)) (grown_set _ _ _)) (grown_set _ _ _)) (grown_set _ _ _)
        · intro j hj
          show (if j = k then _ else f j) = mkI m j
          by_cases e : j = k
          · rw [if_pos e, e, mkI, HXS.out]
            congr 1 <;> omega
          · rw [if_neg e]
            exact HFM.out j (by omega)
      case measure => simp [intOf]; omega
    · have hkn2 : k = n := by omega
      subst hkn2
      have HO3 := shade (OwnC.congr HO.out HFM.out)
      go_wp2
      go_ret
      exact ⟨rfl, HO3.out, HR.out⟩
set_option maxRecDepth 100000 in
set_option maxHeartbeats 8000000 in
theorem heldI_at (g n cap : Nat) (m : Nat) (w : World) (hn : n ≤ 1048576) (hm0 : 0 < m) (hm : m ≤ 1000) (h : Code w (some ⟨g, 0, none⟩) n (mkI m)) :
    Calls Tryd.prog 22 #[.slice (some ⟨g, 0, none⟩) n cap, .int .i64 m] w fun e w' => e = .returned (.int .i64 (m + 5 * (n : Int))) ∧ w.grownBy w' none := by
  have H := shade h
  clear h
  go_enter Tryd.func22, Tryd.ntmps22
  go_wp2
  go_loopw [1, 5] (fun q i wr => ∃ k : Nat, k ≤ n ∧ i = .int .i64 k ∧ q = .int .i64 (m + 5 * (k : Int)) ∧ w.grownBy wr none) (fun _ i _ => n - (intOf i).toNat)
  case atStart => exact ⟨0, Nat.zero_le _, rfl, by simp, grown_refl _ _⟩
  case round =>
    obtain ⟨k, hk, rfl, rfl, hgr⟩ := hrel
    by_cases hkn : k < n
    · have hgd := grown_same hgr (grown_drew1 wr)
      have p := (H.out.on hgd).five hkn
      have HR := shade hgd
      have hmk : ((m : Int) + 5 * (k : Int)) = ((m + 5 * k : Nat) : Int) := by omega
      have HM := shade (fun W => markText_is (m + 5 * k) W (by omega) (by omega))
      rw [← hmk] at HM
      simp only [mkI, Nat.zero_add] at p
      have e1 : ((m + 5 * k + 1 : Nat) : Int) = (m : Int) + 5 * (k : Int) + 1 := by omega
      have e2 : ((m + 5 * k + 2 : Nat) : Int) = (m : Int) + 5 * (k : Int) + 1 + 1 := by omega
      have e3 : ((m + 5 * k + 3 : Nat) : Int) = (m : Int) + 5 * (k : Int) + 1 + 1 + 1 := by omega
      have e4 : ((m + 5 * k + 4 : Nat) : Int) = (m : Int) + 5 * (k : Int) + 1 + 1 + 1 + 1 := by omega
      rw [e1, e2, e3, e4] at p
      obtain ⟨xs, hxs⟩ : ∃ xs, mt (m + 5 * k) = xs := ⟨_, rfl⟩
      rw [hxs] at HM p
      have P := shade p
      clear hxs hmk hgr hgd e1 e2 e3 e4 p
      go_upto_region 4 with (fail)
      go_region_held3 (fun w' => w'.cell? ⟨g, k * 5, none⟩ = some (.string xs))
        (first | with_reducible exact P.out.1 | with_reducible exact Q2.out.1)
        (first | (go_at_call 38; refine (HM.out _).mono ?_; rintro e w3 ⟨rfl, hgr⟩; have Q2 := shade (And.intro (hgr.cell P.out.1 (by intro e; cases e)) (And.intro (hgr.cell P.out.2.1 (by intro e; cases e)) (And.intro (hgr.cell P.out.2.2.1 (by intro e; cases e)) (And.intro (hgr.cell P.out.2.2.2.1 (by intro e; cases e)) (hgr.cell P.out.2.2.2.2 (by intro e; cases e)))))); have HR2 := shade (grown_same HR.out hgr); clear hgr))
      obtain ⟨z0, z1, z2, z3, z4⟩ := Q2.out
      go_wp2_with fail
      go_roundw
      case rel => exact ⟨k + 1, by omega, by go_num, by go_num, HR2.out⟩
      case measure => simp [intOf]; omega
    · have hkn2 : k = n := by omega
      subst hkn2
      have HR := shade hgr
      clear hgr
      go_wp2
      go_ret
      exact ⟨rfl, HR.out⟩
/-- Marks over what a call has made. -/
theorem markI_row (A : Option Addr) (B n c : Nat) (f : Nat → Ins) (m : Nat) (w : World) (hn : n ≤ 1048576) (hm0 : 0 < m) (hm : m ≤ 1000) (h : w.ownsRow B 37 5 (.slice A n c) n (codeL n f)) :
    Calls Tryd.prog 19 #[.slice A n c, .int .i64 m] w fun e w' => e = .returned (.int .i64 (m + 5 * (n : Int))) ∧ w'.ownsRow B 37 5 (.slice A n c) n (codeL n (mkI m)) ∧ w.grownBy w' (Value.slice A n c).ownBlock := by
  rcases h.2 with ⟨e, h0⟩ | ⟨g', c', cur, e, hb, _⟩
  · subst h0
    refine (markI_zero A c m w).mono ?_
    rintro e w' ⟨rfl, rfl⟩
    exact ⟨by simp, h, ⟨rfl, rfl, rfl, Nat.le_refl _, fun _ _ _ => rfl⟩⟩
  · injection e with e1 e2 e3
    subst e1 e3
    exact markI_at B g' n c f m w hn hm0 hm h
theorem heldI_row (A : Option Addr) (B n c : Nat) (m : Nat) (w : World) (hn : n ≤ 1048576) (hm0 : 0 < m) (hm : m ≤ 1000) (h : w.ownsRow B 37 5 (.slice A n c) n (codeL n (mkI m))) :
    Calls Tryd.prog 22 #[.slice A n c, .int .i64 m] w fun e w' => e = .returned (.int .i64 (m + 5 * (n : Int))) ∧ w.grownBy w' none := by
  rcases h.2 with ⟨e, h0⟩ | ⟨g', c', cur, e, hb, _⟩
  · subst h0
    refine (heldI_zero A c m w).mono ?_
    rintro e w' ⟨rfl, rfl⟩
    exact ⟨by simp, grown_refl _ _⟩
  · injection e with e1 e2 e3
    subst e1 e3
    exact heldI_at g' n c m w hn hm0 hm (OwnC.code h)
theorem markI_1 (A : Option Addr) (B n c : Nat) (f : Nat → Ins) (w : World) (hn : n ≤ 1048576) (h : w.ownsRow B 37 5 (.slice A n c) n (codeL n f)) :
    Calls Tryd.prog 19 #[.slice A n c, .int .i64 1] w fun e w' => e = .returned (.int .i64 (1 + 5 * (n : Int))) ∧ w'.ownsRow B 37 5 (.slice A n c) n (codeL n (mkI 1)) ∧ w.grownBy w' (Value.slice A n c).ownBlock := markI_row A B n c f 1 w hn (by omega) (by omega) h
theorem heldI_1 (A : Option Addr) (B n c : Nat) (w : World) (hn : n ≤ 1048576) (h : w.ownsRow B 37 5 (.slice A n c) n (codeL n (mkI 1))) :
    Calls Tryd.prog 22 #[.slice A n c, .int .i64 1] w fun e w' => e = .returned (.int .i64 (1 + 5 * (n : Int))) ∧ w.grownBy w' none := heldI_row A B n c 1 w hn (by omega) (by omega) h
end Go.Proofs.YtcfnoihjpiklhaaDoor

namespace Go.Proofs.YtcfnoihjpiklhaaDoor
open Go.RowKit
/-- What a call leaves that makes a program. -/
def CodeRes (k : Nat) (f : Nat → Ins) (w : World) (e : Ending) (w' : World) : Prop :=
  ∃ v, e = .returned v ∧ w'.ownsRow w.heap.size 37 5 v k (codeL k f) ∧ w.grownBy w' none
theorem CodeRes.congr {k : Nat} {f g : Nat → Ins} {w w' : World} {e : Ending} (h : CodeRes k f w e w') (hf : ∀ y, y < k → f y = g y) : CodeRes k g w e w' := by
  obtain ⟨v, he, ho, hg⟩ := h
  exact ⟨v, he, by rw [← codeL_congr k f g hf]; exact ho, hg⟩
theorem CodeRes.after {k : Nat} {f : Nat → Ins} {w w1 w2 : World} {e : Ending} (hg : w.grownBy w1 none) (h : CodeRes k f w1 e w2) : CodeRes k f w e w2 := by
  obtain ⟨v, he, ho, h2⟩ := h
  exact ⟨v, he, World.ownsRow.mono ho hg.size, grown_same hg h2⟩
theorem CodeRes.nil (f : Nat → Ins) (w w' : World) (hg : w.grownBy w' none) : CodeRes 0 f w (.returned (.slice none 0 0)) w' := ⟨_, rfl, World.ownsRow_nil _ _ _ _, hg⟩
/-- A row of instructions that a call has made, in a stretch of memory. -/
structure RowC (wr : World) (lo hi : Nat) (v : Value) (K : Nat) (f : Nat → Ins) : Prop where
  own : wr.ownsRow lo 37 5 v K (codeL K f)
  hib : ∀ i, v.ownBlock = some i → i < hi
section
variable {w w' wr w2 : World} {lo hi : Nat} {v : Value} {K : Nat} {f : Nat → Ins}
theorem RowC.rng (h : RowC wr lo hi v K f) {i : Nat} (hi' : v.ownBlock = some i) : lo ≤ i ∧ i < hi := ⟨(World.ownsRow.lt h.own i hi').1, h.hib i hi'⟩
theorem RowC.grown (h : RowC wr lo hi v K f) (hg : wr.grownBy w2 none) : RowC w2 lo hi v K f := ⟨World.ownsRow.kept h.own hg (Classical.em _), h.hib⟩
theorem RowC.row {row : Option Nat} (h : RowC wr lo hi v K f) (hg : wr.grownBy w2 row) (hb : ∀ b, row = some b → b < lo ∨ hi ≤ b) : RowC w2 lo hi v K f := by
  refine ⟨?_, h.hib⟩
  rcases hv : v.ownBlock with _ | i
  · exact World.ownsRow.kept h.own hg (.inl hv)
  · refine World.ownsRow.kept h.own hg (.inr fun e' => ?_)
    rw [hv] at e'
    have h1 := h.rng hv
    have h2 := hb i e'.symm
    omega
theorem RowC.code (h : RowC wr lo hi v K f) : ∃ A c, v = .slice A K c ∧ Code wr A K f ∧ wr.ownsRow lo 37 5 (.slice A K c) K (codeL K f) := by
  have ho := h.own
  rcases h.own.2 with ⟨e', h0⟩ | ⟨g', cap', cur, e', _⟩
  · subst h0
    rw [e'] at ho
    exact ⟨none, 0, e', .inl rfl, ho⟩
  · rw [e'] at ho
    exact ⟨some ⟨g', 0, none⟩, cap', e', OwnC.code ho, ho⟩
end
theorem CodeRes.row {k : Nat} {f : Nat → Ins} {w w' : World} {e : Ending} (h : CodeRes k f w e w') : ∃ v, e = .returned v ∧ RowC w' w.heap.size w'.heap.size v k f ∧ w.grownBy w' none := by
  obtain ⟨v, he, ho, hg⟩ := h
  exact ⟨v, he, ⟨ho, fun i hi => (World.ownsRow.lt ho i hi).2⟩, hg⟩
theorem eqInstrS_row (lo1 hi1 lo2 hi2 K : Nat) (v1 v2 : Value) (f : Nat → Ins) (w : World) (hK : K ≤ 300) (h1 : RowC w lo1 hi1 v1 K f) (h2 : RowC w lo2 hi2 v2 K f) :
    Calls Tryd.prog 16 #[v1, v2] w fun e w' => e = .returned (.bool true) ∧ w.grownBy w' none := by
  obtain ⟨A1, c1, rfl, hn1, _⟩ := h1.code
  obtain ⟨A2, c2, rfl, hn2, _⟩ := h2.code
  exact eqInstrS_any A1 A2 c1 c2 K f w (by omega) hn1 hn2
theorem markInsS_row (lo hi K : Nat) (v : Value) (f : Nat → Ins) (w : World) (hK : K ≤ 300) (h : RowC w lo hi v K f) :
    Calls Tryd.prog 19 #[v, .int .i64 1] w fun e w' => e = .returned (.int .i64 (1 + 5 * (K : Int))) ∧ RowC w' lo hi v K (mkI 1) ∧ w.grownBy w' v.ownBlock := by
  have hb := h.hib
  obtain ⟨A1, c1, rfl, _, ho⟩ := h.code
  refine (markI_1 A1 lo K c1 f w (by omega) ho).mono ?_
  rintro e w' ⟨rfl, h1, h2⟩
  exact ⟨rfl, ⟨h1, hb⟩, h2⟩
theorem heldInsS_row (lo hi K : Nat) (v : Value) (w : World) (hK : K ≤ 300) (h : RowC w lo hi v K (mkI 1)) :
    Calls Tryd.prog 22 #[v, .int .i64 1] w fun e w' => e = .returned (.int .i64 (1 + 5 * (K : Int))) ∧ w.grownBy w' none := by
  obtain ⟨A1, c1, rfl, _, ho⟩ := h.code
  exact heldI_1 A1 lo K c1 w (by omega) ho
end Go.Proofs.YtcfnoihjpiklhaaDoor
