/- The laws' marks over a slice of instructions that the call owns, written and read back. -/
import Derived.Test.YtjjjgjnhiffpnaaDoorW875
import Derived.Deep.RegionHeld3
import Derived.Laws.IdiomStrings
import Derived.Laws.Concat
import Derived.Laws.DeepStrings4
namespace Go.Proofs.YtjjjgjnhiffpnaaDoor
open Go.RowKit
set_option linter.unusedSimpArgs false
/-- A text of bytes. -/
def tx (x : List UInt8) : ByteArray := ⟨x.toArray⟩
theorem tx_size (x : List UInt8) : (tx x).size = x.length := by simp [tx, ByteArray.size]
theorem tx_append (x y : List UInt8) : tx x ++ tx y = tx (x ++ y) := ByteArray.mk_append_mk x y
def mkD (k : Nat) (acc : List UInt8) : List UInt8 := if h : k = 0 then acc else mkD (k / 10) (UInt8.ofNat (48 + k % 10) :: acc)
termination_by k
decreasing_by omega
/-- The mark of a number. -/
def mt (k : Nat) : ByteArray := tx (109 :: mkD k [])
theorem mkD_zero (acc : List UInt8) : mkD 0 acc = acc := by rw [mkD, dif_pos rfl]
theorem mkD_pos (k : Nat) (acc : List UInt8) (h : 0 < k) : mkD k acc = mkD (k / 10) (UInt8.ofNat (48 + k % 10) :: acc) := by
  rw [mkD, dif_neg (by omega)]
theorem tx_one (d : UInt8) (x : List UInt8) : ByteArray.append ⟨#[d]⟩ (tx x) = tx (d :: x) := tx_append [d] x
theorem tx_one' (d : UInt8) (x : List UInt8) : (⟨#[d]⟩ : ByteArray) ++ tx x = tx (d :: x) := tx_append [d] x
theorem grown_alloc' {a b : World} {row : Option Nat} (h : a.grownBy b row) (o : Obj) : a.grownBy (b.alloc o) row := grown_same h (World.grownBy_alloc b o row)
set_option maxHeartbeats 2000000 in
theorem markText_is (k : Nat) (w : World) (h0 : 0 < k) (h1 : k ≤ 100000000) :
    Calls Tryd.prog 58 #[.int .i64 k] w fun e w' => e = .returned (.string (mt k)) ∧ w.grownBy w' none := by
  go_enter Tryd.func58, Tryd.ntmps58
  go_wp2
  go_loopw [0, 3] (fun x t wr => ∃ (kk : Nat) (acc : List UInt8), x = .int .i64 kk ∧ t = .string (tx acc) ∧ mkD kk acc = mkD k [] ∧ acc.length + kk ≤ 100000000 ∧ w.grownBy wr none) (fun x _ _ => (intOf x).toNat)
  case atStart => exact ⟨k, [], rfl, rfl, rfl, by simpa using h1, World.grownBy.refl _ _⟩
  case round =>
    obtain ⟨kk, acc, rfl, rfl, hmk, hk1, hg⟩ := hrel
    have HG := shade hg
    have HM := shade hmk
    clear hg hmk
    by_cases hp : 0 < kk
    · obtain ⟨d, hd, hd2⟩ : ∃ d : UInt8, (d.toNat : Int) = 48 + (kk : Int) % 10 ∧ UInt8.ofNat (48 + kk % 10) = d := ⟨UInt8.ofNat (48 + kk % 10), by
        simp only [UInt8.toNat_ofNat']
        omega, rfl⟩
      have hcv : ∀ W : World, W.cell? ⟨wr.heap.size, 0, none⟩ = some (.int .u8 (48 + (kk : Int) % 10)) → (convert 43 9 (.slice (some ⟨wr.heap.size, 0, none⟩) 1 1)).run Tryd.prog W = .ok (.string ⟨#[d]⟩) W := fun W hW =>
        run_convert_bytes_back (P := Tryd.prog) W 43 9 5 ⟨wr.heap.size, 0, none⟩ 1 [d] Tryd.underlying43 Tryd.underlying5 Tryd.underlying9 (fun j hj => by
          have : j = 0 := by simpa using hj
          subst this
          rw [Addr.add_lit]
          simpa [hd] using hW)
      have hcv2 := hcv (wr.alloc (.cells #[.int .u8 (48 + (kk : Int) % 10)] 5)) (by rw [World.cell?_alloc_new]; rfl)
      have hadd := fun W : World => run_string_add_sum (P := Tryd.prog) W ⟨#[d]⟩ (tx acc) (by
        rw [tx_size]
        show 1 + acc.length ≤ _
        omega)
      clear hcv
      go_wp2
      go_roundw
      case rel =>
        refine ⟨kk / 10, d :: acc, by go_num, by first | rw [tx_one] | rw [tx_one'], ?_, ?_, grown_alloc' HG.out _⟩
        · rw [← HM.out, mkD_pos kk acc hp, hd2]
        · simp only [List.length_cons]
          omega
      case measure =>
        clear hcv2 hadd
        simp [intOf]
        omega
    · have hz : kk = 0 := by omega
      subst hz
      have hadd := fun W : World => run_string_add_sum (P := Tryd.prog) W ⟨#[109]⟩ (tx acc) (by
        rw [tx_size]
        show 1 + acc.length ≤ _
        omega)
      go_wp2
      go_ret
      rw [mkD_zero] at HM
      refine ⟨?_, HG.out⟩
      show _ = Ending.returned (Value.string (mt k))
      unfold mt
      rw [← HM.out]
      first | (rw [tx_one]; rfl) | (rw [tx_one']; rfl) | rfl
/-- The marks from m on. -/
def mkI (m j : Nat) : Ins := ⟨mt (m + 5 * j), ((m + 5 * j + 1 : Nat) : Int), ((m + 5 * j + 2 : Nat) : Int), ((m + 5 * j + 3 : Nat) : Int), ((m + 5 * j + 4 : Nat) : Int)⟩
theorem markI_zero (A : Option Addr) (c : Nat) (m : Int) (w : World) :
    Calls Tryd.prog 37 #[.slice A 0 c, .int .i64 m] w fun e w' => e = .returned (.int .i64 m) ∧ w = w' := by
  go_enter Tryd.func37, Tryd.ntmps37
  go_wp2
  refine wp_loop_rounds 1 ?_
  rw [rounds_succ]
  go_wp2
  go_ret
  exact ⟨rfl, rfl⟩
theorem heldI_zero (A : Option Addr) (c : Nat) (m : Int) (w : World) :
    Calls Tryd.prog 38 #[.slice A 0 c, .int .i64 m] w fun e w' => e = .returned (.int .i64 m) ∧ w = w' := by
  go_enter Tryd.func38, Tryd.ntmps38
  go_wp2
  refine wp_loop_rounds 1 ?_
  rw [rounds_succ]
  go_wp2
  go_ret
  exact ⟨rfl, rfl⟩
set_option maxRecDepth 100000 in
set_option maxHeartbeats 8000000 in
theorem markI_at (B g n cap : Nat) (f : Nat → Ins) (m : Nat) (w : World) (hn : n ≤ 1048576) (hm0 : 0 < m) (hm : m ≤ 1000) (h : OwnC w B (some ⟨g, 0, none⟩) n cap f) :
    Calls Tryd.prog 37 #[.slice (some ⟨g, 0, none⟩) n cap, .int .i64 m] w fun e w' => e = .returned (.int .i64 (m + 5 * (n : Int))) ∧ OwnC w' B (some ⟨g, 0, none⟩) n cap (mkI m) ∧ w.grownBy w' (some g) := by
  have H := shade h
  clear h
  go_enter Tryd.func37, Tryd.ntmps37
  go_wp2
  go_loopw [1, 5] (fun q i wr => ∃ (k : Nat) (f : Nat → Ins), k ≤ n ∧ i = .int .i64 k ∧ q = .int .i64 (m + 5 * (k : Int)) ∧ OwnC wr B (some ⟨g, 0, none⟩) n cap f ∧ w.grownBy wr (some g) ∧ (∀ j, j < k → f j = mkI m j)) (fun _ i _ => n - (intOf i).toNat)
  case atStart => exact ⟨0, f, Nat.zero_le _, rfl, by simp, H.out, ⟨rfl, rfl, rfl, Nat.le_refl _, fun _ _ _ => rfl⟩, fun j h => absurd h (by omega)⟩
  case round =>
    clear H
    obtain ⟨k, f, hk, rfl, rfl, hown, hgr, hfm⟩ := hrel
    have HO := shade hown
    have HR := shade hgr
    have HFM := shade hfm
    clear hown hgr hfm
    by_cases hkn : k < n
    · have hmk : ((m : Int) + 5 * (k : Int)) = ((m + 5 * k : Nat) : Int) := by omega
      have HM := shade (fun W => markText_is (m + 5 * k) W (by omega) (by omega))
      rw [← hmk] at HM
      clear hmk
      obtain ⟨xs, hxs⟩ : ∃ xs, mt (m + 5 * k) = xs := ⟨_, rfl⟩
      rw [hxs] at HM
      have HXS := shade hxs
      clear hxs
      go_wp2_with fail
      refine (HM.out _).mono ?_
      rintro e w2 ⟨rfl, hg⟩
      have ho : OwnC w2 B (some ⟨g, 0, none⟩) n cap f := World.ownsRow.kept HO.out hg (.inr (by
        show some g ≠ none
        simp))
      obtain ⟨p0, p1, p2, p3, p4⟩ := ho.code.five hkn
      have t0 := World.ownsRow.frozenAt ho (k * 5); have t1 := World.ownsRow.frozenAt ho (k * 5 + 1); have t2 := World.ownsRow.frozenAt ho (k * 5 + 2); have t3 := World.ownsRow.frozenAt ho (k * 5 + 3); have t4 := World.ownsRow.frozenAt ho (k * 5 + 4)
      simp only [Nat.zero_add] at p0 p1 p2 p3 p4
      have HO2 := shade ho
      have HR2 := shade (grown_then_some HR.out hg)
      clear hg ho HO HR
      go_wp2_with fail
      go_roundw
      case rel =>
        refine ⟨k + 1, _, by omega, by go_num, by go_num, OwnC.put HO2.out k ⟨xs, (m : Int) + 5 * (k : Int) + 1, (m : Int) + 5 * (k : Int) + 1 + 1, (m : Int) + 5 * (k : Int) + 1 + 1 + 1, (m : Int) + 5 * (k : Int) + 1 + 1 + 1 + 1⟩, ?_, ?_⟩
        · exact grown_same (grown_same (grown_same (grown_same (grown_same HR2.out (grown_set _ _ _)) (grown_set _ _ _)) (grown_set _ _ _)) (grown_set _ _ _)) (grown_set _ _ _)
        · intro j hj
          show (if j = k then _ else f j) = mkI m j
          by_cases e : j = k
          · rw [if_pos e, e, mkI, HXS.out]
            congr 1 <;> omega
          · rw [if_neg e]
            exact HFM.out j (by omega)
      case measure => simp [intOf]; omega
    · have hkn2 : k = n := by omega
      subst hkn2
      have HO3 := shade (OwnC.congr HO.out HFM.out)
      go_wp2
      go_ret
      exact ⟨rfl, HO3.out, HR.out⟩
set_option maxRecDepth 100000 in
set_option maxHeartbeats 8000000 in
theorem heldI_at (g n cap : Nat) (m : Nat) (w : World) (hn : n ≤ 1048576) (hm0 : 0 < m) (hm : m ≤ 1000) (h : Code w (some ⟨g, 0, none⟩) n (mkI m)) :
    Calls Tryd.prog 38 #[.slice (some ⟨g, 0, none⟩) n cap, .int .i64 m] w fun e w' => e = .returned (.int .i64 (m + 5 * (n : Int))) ∧ w.grownBy w' none := by
  have H := shade h
  clear h
  go_enter Tryd.func38, Tryd.ntmps38
  go_wp2
  go_loopw [1, 5] (fun q i wr => ∃ k : Nat, k ≤ n ∧ i = .int .i64 k ∧ q = .int .i64 (m + 5 * (k : Int)) ∧ w.grownBy wr none) (fun _ i _ => n - (intOf i).toNat)
  case atStart => exact ⟨0, Nat.zero_le _, rfl, by simp, grown_refl _ _⟩
  case round =>
    obtain ⟨k, hk, rfl, rfl, hgr⟩ := hrel
    by_cases hkn : k < n
    · have hgd := grown_same hgr (grown_drew1 wr)
      have p := (H.out.on hgd).five hkn
      have HR := shade hgd
      have hmk : ((m : Int) + 5 * (k : Int)) = ((m + 5 * k : Nat) : Int) := by omega
      have HM := shade (fun W => markText_is (m + 5 * k) W (by omega) (by omega))
      rw [← hmk] at HM
      simp only [mkI, Nat.zero_add] at p
      have e1 : ((m + 5 * k + 1 : Nat) : Int) = (m : Int) + 5 * (k : Int) + 1 := by omega
      have e2 : ((m + 5 * k + 2 : Nat) : Int) = (m : Int) + 5 * (k : Int) + 1 + 1 := by omega
      have e3 : ((m + 5 * k + 3 : Nat) : Int) = (m : Int) + 5 * (k : Int) + 1 + 1 + 1 := by omega
      have e4 : ((m + 5 * k + 4 : Nat) : Int) = (m : Int) + 5 * (k : Int) + 1 + 1 + 1 + 1 := by omega
      rw [e1, e2, e3, e4] at p
      obtain ⟨xs, hxs⟩ : ∃ xs, mt (m + 5 * k) = xs := ⟨_, rfl⟩
      rw [hxs] at HM p
      have P := shade p
      clear hxs hmk hgr hgd e1 e2 e3 e4 p
      go_upto_region 4 with (fail)
      go_region_held3 (fun w' => w'.cell? ⟨g, k * 5, none⟩ = some (.string xs))
        (first | with_reducible exact P.out.1 | with_reducible exact Q2.out.1)
        (first | (go_at_call 58; refine (HM.out _).mono ?_; rintro e w3 ⟨rfl, hgr⟩; have Q2 := shade (And.intro (hgr.cell P.out.1 (by intro e; cases e)) (And.intro (hgr.cell P.out.2.1 (by intro e; cases e)) (And.intro (hgr.cell P.out.2.2.1 (by intro e; cases e)) (And.intro (hgr.cell P.out.2.2.2.1 (by intro e; cases e)) (hgr.cell P.out.2.2.2.2 (by intro e; cases e)))))); have HR2 := shade (grown_same HR.out hgr); clear hgr))
      obtain ⟨z0, z1, z2, z3, z4⟩ := Q2.out
      go_wp2_with fail
      go_roundw
      case rel => exact ⟨k + 1, by omega, by go_num, by go_num, HR2.out⟩
      case measure => simp [intOf]; omega
    · have hkn2 : k = n := by omega
      subst hkn2
      have HR := shade hgr
      clear hgr
      go_wp2
      go_ret
      exact ⟨rfl, HR.out⟩
/-- Marks over what a call has made. -/
theorem markI_row (A : Option Addr) (B n c : Nat) (f : Nat → Ins) (m : Nat) (w : World) (hn : n ≤ 1048576) (hm0 : 0 < m) (hm : m ≤ 1000) (h : w.ownsRow B 77 5 (.slice A n c) n (codeL n f)) :
    Calls Tryd.prog 37 #[.slice A n c, .int .i64 m] w fun e w' => e = .returned (.int .i64 (m + 5 * (n : Int))) ∧ w'.ownsRow B 77 5 (.slice A n c) n (codeL n (mkI m)) ∧ w.grownBy w' (Value.slice A n c).ownBlock := by
  rcases h.2 with ⟨e, h0⟩ | ⟨g', c', cur, e, hb, _⟩
  · subst h0
    refine (markI_zero A c m w).mono ?_
    rintro e w' ⟨rfl, rfl⟩
    exact ⟨by simp, h, ⟨rfl, rfl, rfl, Nat.le_refl _, fun _ _ _ => rfl⟩⟩
  · injection e with e1 e2 e3
    subst e1 e3
    exact markI_at B g' n c f m w hn hm0 hm h
theorem heldI_row (A : Option Addr) (B n c : Nat) (m : Nat) (w : World) (hn : n ≤ 1048576) (hm0 : 0 < m) (hm : m ≤ 1000) (h : w.ownsRow B 77 5 (.slice A n c) n (codeL n (mkI m))) :
    Calls Tryd.prog 38 #[.slice A n c, .int .i64 m] w fun e w' => e = .returned (.int .i64 (m + 5 * (n : Int))) ∧ w.grownBy w' none := by
  rcases h.2 with ⟨e, h0⟩ | ⟨g', c', cur, e, hb, _⟩
  · subst h0
    refine (heldI_zero A c m w).mono ?_
    rintro e w' ⟨rfl, rfl⟩
    exact ⟨by simp, grown_refl _ _⟩
  · injection e with e1 e2 e3
    subst e1 e3
    exact heldI_at g' n c m w hn hm0 hm (OwnC.code h)
theorem markI_1 (A : Option Addr) (B n c : Nat) (f : Nat → Ins) (w : World) (hn : n ≤ 1048576) (h : w.ownsRow B 77 5 (.slice A n c) n (codeL n f)) :
    Calls Tryd.prog 37 #[.slice A n c, .int .i64 1] w fun e w' => e = .returned (.int .i64 (1 + 5 * (n : Int))) ∧ w'.ownsRow B 77 5 (.slice A n c) n (codeL n (mkI 1)) ∧ w.grownBy w' (Value.slice A n c).ownBlock := markI_row A B n c f 1 w hn (by omega) (by omega) h
theorem heldI_1 (A : Option Addr) (B n c : Nat) (w : World) (hn : n ≤ 1048576) (h : w.ownsRow B 77 5 (.slice A n c) n (codeL n (mkI 1))) :
    Calls Tryd.prog 38 #[.slice A n c, .int .i64 1] w fun e w' => e = .returned (.int .i64 (1 + 5 * (n : Int))) ∧ w.grownBy w' none := heldI_row A B n c 1 w hn (by omega) (by omega) h
end Go.Proofs.YtjjjgjnhiffpnaaDoor
