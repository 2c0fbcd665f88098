/- The laws' marks over a slice of instructions that the call owns: every cell is written, nothing else changes. -/
import Derived.Test.YtcfnoihjpiklhaaDoorW51
import Derived.Laws.IdiomStrings
import Derived.Laws.Concat
namespace Go.Proofs.YtcfnoihjpiklhaaDoor
open Go.RowKit
theorem size_one (b : UInt8) (s : ByteArray) : (ByteArray.append ⟨#[b]⟩ s).size = s.size + 1 := by
  have : ((⟨#[b]⟩ : ByteArray) ++ s).size = (⟨#[b]⟩ : ByteArray).size + s.size := ByteArray.size_append
  rw [show ByteArray.append ⟨#[b]⟩ s = (⟨#[b]⟩ : ByteArray) ++ s from rfl, this]
  show 1 + s.size = s.size + 1
  omega
theorem grown_then_some {a b c : World} {g : Nat} (h : a.grownBy b (some g)) (h' : b.grownBy c none) : a.grownBy c (some g) :=
  ⟨h'.os.trans h.os, h'.tape.trans h.tape, h'.output.trans h.output, Nat.le_trans h.size h'.size, fun i hi hne => (h'.block i (Nat.lt_of_lt_of_le hi h.size) (by simp)).trans (h.block i hi hne)⟩
set_option maxHeartbeats 2000000 in
theorem markText_any (k : Int) (w : World) (h0 : 0 < k) (h1 : k ≤ 100000000) :
    Calls Tryd.prog 38 #[.int .i64 k] w fun e w' => ∃ s : ByteArray, e = .returned (.string s) ∧ w.grownBy w' none := by
  go_enter Tryd.func38, Tryd.ntmps38
  go_wp2
  go_loopw [0, 3] (fun x t wr => ∃ (kk : Int) (s : ByteArray), x = .int .i64 kk ∧ t = .string s ∧ 0 ≤ kk ∧ (s.size : Int) + kk ≤ 100000000 ∧ w.grownBy wr none) (fun x _ _ => (intOf x).toNat)
  case atStart => exact ⟨k, ⟨#[]⟩, rfl, rfl, by omega, by show (0 : Int) + k ≤ 100000000; omega, World.grownBy.refl _ _⟩
  case round =>
    obtain ⟨kk, s, rfl, rfl, hk0, hk1, hg⟩ := hrel
    have HG := shade hg
    clear hg
    by_cases hp : 0 < kk
    · obtain ⟨d, hd⟩ : ∃ d : UInt8, (d.toNat : Int) = 48 + kk % 10 := ⟨UInt8.ofNat (48 + kk % 10).toNat, by
        simp only [UInt8.toNat_ofNat']
        omega⟩
      have hcv : ∀ W : World, W.cell? ⟨wr.heap.size, 0, none⟩ = some (.int .u8 (48 + kk % 10)) → (convert 22 9 (.slice (some ⟨wr.heap.size, 0, none⟩) 1 1)).run Tryd.prog W = .ok (.string ⟨#[d]⟩) W := fun W hW =>
        run_convert_bytes_back (P := Tryd.prog) W 22 9 5 ⟨wr.heap.size, 0, none⟩ 1 [d] Tryd.underlying22 Tryd.underlying5 Tryd.underlying9 (fun j hj => by
          have : j = 0 := by simpa using hj
          subst this
          rw [Addr.add_lit]
          simpa [hd] using hW)
      have hcv2 := hcv (wr.alloc (.cells #[.int .u8 (48 + kk % 10)] 5)) (by rw [World.cell?_alloc_new]; rfl)
      have hadd := fun W : World => run_string_add_sum (P := Tryd.prog) W ⟨#[d]⟩ s (by
        show 1 + s.size ≤ _
        omega)
      clear hcv
      go_wp2
      go_roundw
      case rel =>
        refine ⟨kk / 10, _, rfl, rfl, by omega, ?_, grown_alloc HG.out _⟩
        have e := size_one d s
        have e2 : ((⟨#[d]⟩ : ByteArray) ++ s).size = s.size + 1 := e
        rw [e2]
        omega
      case measure =>
        clear hcv2 hadd
        simp [intOf]
        omega
    · have hz : kk = 0 := by omega
      subst hz
      have hadd := fun W : World => run_string_add_sum (P := Tryd.prog) W ⟨#[109]⟩ s (by
        show 1 + s.size ≤ _
        omega)
      go_wp2
      go_ret
      exact ⟨⟨_, rfl⟩, HG.out⟩
/-- Marks, one instruction after the other. -/
theorem markText_all (k : Int) (h0 : 0 < k) (h1 : k ≤ 100000000) : ∀ w, Calls Tryd.prog 38 #[.int .i64 k] w fun e w' => ∃ s : ByteArray, e = .returned (.string s) ∧ w.grownBy w' none := fun w => markText_any k w h0 h1
theorem markInstrS_zero (A : Option Addr) (c : Nat) (m : Int) (w : World) :
    Calls Tryd.prog 19 #[.slice A 0 c, .int .i64 m] w fun e w' => e = .returned (.int .i64 m) ∧ w = w' := by
  go_enter Tryd.func19, Tryd.ntmps19
  go_wp2
  refine wp_loop_rounds 1 ?_
  rw [rounds_succ]
  go_wp2
  go_ret
  exact ⟨rfl, rfl⟩
set_option maxHeartbeats 8000000 in
theorem markInstrS_at (B g n cap : Nat) (f : Nat → Ins) (m : Int) (w : World) (hn : n ≤ 1048576) (hm0 : 0 < m) (hm : m ≤ 1000) (h : OwnC w B (some ⟨g, 0, none⟩) n cap f) :
    Calls Tryd.prog 19 #[.slice (some ⟨g, 0, none⟩) n cap, .int .i64 m] w fun e w' => e = .returned (.int .i64 (m + 5 * (n : Int))) ∧ (∃ f', OwnC w' B (some ⟨g, 0, none⟩) n cap f') ∧ w.grownBy w' (some g) := by
  have H := shade h
  clear h
  go_enter Tryd.func19, Tryd.ntmps19
  go_wp2
  go_loopw [1, 5] (fun q i wr => ∃ (k : Nat) (f : Nat → Ins), k ≤ n ∧ i = .int .i64 k ∧ q = .int .i64 (m + 5 * (k : Int)) ∧ OwnC wr B (some ⟨g, 0, none⟩) n cap f ∧ w.grownBy wr (some g)) (fun _ i _ => n - (intOf i).toNat)
  case atStart => exact ⟨0, f, Nat.zero_le _, rfl, by simp, H.out, ⟨rfl, rfl, rfl, Nat.le_refl _, fun _ _ _ => rfl⟩⟩
  case round =>
    clear H
    obtain ⟨k, f, hk, rfl, rfl, hown, hgr⟩ := hrel
    have HO := shade hown
    have HR := shade hgr
    clear hown hgr
    by_cases hkn : k < n
    · go_wp2_with fail
      refine (markText_any (m + 5 * (k : Int)) _ (by omega) (by omega)).mono ?_
      rintro e w2 ⟨s, rfl, hg⟩
      have ho : OwnC w2 B (some ⟨g, 0, none⟩) n cap f := World.ownsRow.kept HO.out hg (.inr (by
        show some g ≠ none
        simp))
      obtain ⟨p0, p1, p2, p3, p4⟩ := ho.code.five hkn
      have t0 := World.ownsRow.frozenAt ho (k * 5); have t1 := World.ownsRow.frozenAt ho (k * 5 + 1); have t2 := World.ownsRow.frozenAt ho (k * 5 + 2); have t3 := World.ownsRow.frozenAt ho (k * 5 + 3); have t4 := World.ownsRow.frozenAt ho (k * 5 + 4)
      simp only [Nat.zero_add] at p0 p1 p2 p3 p4
      have HO2 := shade ho
      have HR2 := shade (grown_then_some HR.out hg)
      clear hg ho HO HR
      go_wp2_with fail
      go_roundw
      case rel =>
        refine ⟨k + 1, _, by omega, by go_num, by go_num, OwnC.put HO2.out k ⟨s, m + 5 * (k : Int) + 1, m + 5 * (k : Int) + 1 + 1, m + 5 * (k : Int) + 1 + 1 + 1, m + 5 * (k : Int) + 1 + 1 + 1 + 1⟩, ?_⟩
        exact grown_same (grown_same (grown_same (grown_same (grown_same HR2.out (grown_set _ _ _)) (grown_set _ _ _)) (grown_set _ _ _)) (grown_set _ _ _)) (grown_set _ _ _)
      case measure => simp [intOf]; omega
    · have hkn2 : k = n := by omega
      subst hkn2
      go_wp2
      go_ret
      exact ⟨rfl, ⟨f, HO.out⟩, HR.out⟩

end Go.Proofs.YtcfnoihjpiklhaaDoor
