/- The function toldParts returns the instruction with no parts but those that its text tells, at each of the ten words. -/
import Derived.Test.YtcfnoihjpiklhaaDoorW2
import Derived.Deep.RegionHeld3
import Derived.Deep.RegionWith
import Derived.Deep.RegionLaw
import Derived.Deep.DrawnRows
import Derived.Deep.DeepCutAuto
namespace Go.Proofs.YtcfnoihjpiklhaaDoor
open Go.RowKit
/-- What is told of the parts by the names. -/
def told (l : List UInt8) (d a b k : Int) : Int × Int × Int × Int :=
  l.foldl (fun s c => (wD s.1 c.toNat (partV d a b k c.toNat), wA s.2.1 c.toNat (partV d a b k c.toNat), wB s.2.2.1 c.toNat (partV d a b k c.toNat), wK s.2.2.2 c.toNat (partV d a b k c.toNat))) (0, 0, 0, 0)
theorem told_snoc (l : List UInt8) (c : UInt8) (d a b k : Int) : told (l ++ [c]) d a b k = (wD (told l d a b k).1 c.toNat (partV d a b k c.toNat), wA (told l d a b k).2.1 c.toNat (partV d a b k c.toNat), wB (told l d a b k).2.2.1 c.toNat (partV d a b k c.toNat), wK (told l d a b k).2.2.2 c.toNat (partV d a b k c.toNat)) := by
  simp [told, List.foldl_append]
theorem take_more (s : ByteArray) (k : Nat) (h : k < s.size) : s.data.toList.take (k + 1) = s.data.toList.take k ++ [s[k]] := by
  rw [List.take_succ_eq_append_getElem (by simpa using h)]; rfl
attribute [local go_sem ↓] Go.wp_at_zero Go.wp_at_succ
set_option maxHeartbeats 16000000 in
theorem toldParts_any (op : ByteArray) (d a b k : Int) (n : Nat) (hn : n < 10) (w : World) :
    Calls Tryd.prog 63 #[IV op d a b k, .int .i64 (n : Int)] w fun e w' => e = .returned (IV op (told (namesN n).data.toList d a b k).1 (told (namesN n).data.toList d a b k).2.1 (told (namesN n).data.toList d a b k).2.2.1 (told (namesN n).data.toList d a b k).2.2.2) ∧ Below w.heap.size w w' := by
  have hs : (namesN n).size ≤ 3 := by
    match n, hn with
    | 0, _ | 1, _ | 2, _ | 3, _ | 4, _ | 5, _ | 6, _ | 7, _ | 8, _ | 9, _ => decide
  go_enter Tryd.func63, Tryd.ntmps63
  go_wp2_with (first | (go_at_call 66; refine (partsOf_any _ hn _).mono ?_; rintro e w' ⟨rfl, rfl⟩))
  generalize hs0 : namesN n = s at *
  have HS := shade hs0
  clear hs0
  have T0 := Holds5.fresh ((w.alloc (.cells #[.string op, .int .i64 d, .int .i64 a, .int .i64 b, .int .i64 k] 37)).alloc (.cells #[.string ⟨#[]⟩, .int .i64 0, .int .i64 0, .int .i64 0, .int .i64 0] 37)) 37 #[.string op, .int .i64 0, .int .i64 0, .int .i64 0, .int .i64 0]
  have C0 := (Holds5.fresh w 37 #[.string op, .int .i64 d, .int .i64 a, .int .i64 b, .int .i64 k]).alloc (.cells #[.string ⟨#[]⟩, .int .i64 0, .int .i64 0, .int .i64 0, .int .i64 0] 37) |>.alloc (.cells #[.string op, .int .i64 0, .int .i64 0, .int .i64 0, .int .i64 0] 37)
  have R0 := (Holds5.fresh (w.alloc (.cells #[.string op, .int .i64 d, .int .i64 a, .int .i64 b, .int .i64 k] 37)) 37 #[.string ⟨#[]⟩, .int .i64 0, .int .i64 0, .int .i64 0, .int .i64 0]).alloc (.cells #[.string op, .int .i64 0, .int .i64 0, .int .i64 0, .int .i64 0] 37)
  simp only [World.size_alloc] at T0 C0 R0
  go_loopw [7, 15] (fun v i wr => ∃ j : Nat, j ≤ s.size ∧ i = .int .i64 j ∧ Holds5 wr w.heap.size 37 #[.string op, .int .i64 d, .int .i64 a, .int .i64 b, .int .i64 k] ∧ 
     Holds5 wr (w.heap.size + 1) 37 #[.string ⟨#[]⟩, .int .i64 0, .int .i64 0, .int .i64 0, .int .i64 0] ∧ 
     Holds5 wr (w.heap.size + 1 + 1) 37 #[.string op, .int .i64 (told (s.data.toList.take j) d a b k).1, .int .i64 (told (s.data.toList.take j) d a b k).2.1, .int .i64 (told (s.data.toList.take j) d a b k).2.2.1, .int .i64 (told (s.data.toList.take j) d a b k).2.2.2] ∧ Below w.heap.size w wr) (fun _ i _ => s.size - (intOf i).toNat)
  case atStart => exact ⟨0, Nat.zero_le _, rfl, C0, R0, T0, by go_grown⟩
  case round =>
    obtain ⟨j, hj, rfl, hC, hR, hT, hB⟩ := hrel
    clear T0 C0 R0
    by_cases hlt : j < s.size
    · have hsn := told_snoc (s.data.toList.take j) s[j] d a b k
      have hts := take_more s j hlt
      generalize told (s.data.toList.take j) d a b k = tt at *
      obtain ⟨td, ta, tb, tk⟩ := tt
      simp only at hT hsn
      have Hs := shade hsn; clear hsn
      have Ht := shade hts; clear hts
      have c0 := hC.look 0; have c1 := hC.look 1; have c2 := hC.look 2; have c3 := hC.look 3; have c4 := hC.look 4
      have t0 := hT.look 0; have t1 := hT.look 1; have t2 := hT.look 2; have t3 := hT.look 3; have t4 := hT.look 4
      have f0 := hT.free 0; have f1 := hT.free 1; have f2 := hT.free 2; have f3 := hT.free 3; have f4 := hT.free 4
      simp at c0 c1 c2 c3 c4 t0 t1 t2 t3 t4
      have z2 := hT.inside
      have z1 : w.heap.size + 1 < wr.heap.size := by omega
      have z0 : w.heap.size < wr.heap.size := by omega
      have HC := shade hC; have HR := shade hR; have HT := shade hT; have HB := shade hB
      clear hC hR hT hB
      go_wp2
      have i0 : (0 : Int) ≤ (j : Int) := by omega
      have i1 : (j : Int) < (s.size : Int) := by omega
      go_region_with (first 
       | (go_at_call 68; refine (partOf_any _ _ _ _ _ _ _).mono ?_; rintro e w' ⟨rfl, o, rfl⟩)
       | (go_at_call 67; refine (withPart_any _ _ _ _ _ _ _ _).mono ?_; rintro e w' ⟨rfl, o1, o2, rfl⟩))
      all_goals
        go_wp2
        go_roundw
        case rel =>
          refine ⟨j + 1, by omega, by go_num, ?_, ?_, ?_, ?_⟩
          · exact ((((((((HC.out.other (by show w.heap.size ≠ w.heap.size + 1 + 1; omega) _).other (by show w.heap.size ≠ w.heap.size + 1 + 1; omega) _).other (by show w.heap.size ≠ w.heap.size + 1 + 1; omega) _).other (by show w.heap.size ≠ w.heap.size + 1 + 1; omega) _).other (by show w.heap.size ≠ w.heap.size + 1 + 1; omega) _).alloc _).alloc _).alloc _).drew
          · exact ((((((((HR.out.other (by show w.heap.size + 1 ≠ w.heap.size + 1 + 1; omega) _).other (by show w.heap.size + 1 ≠ w.heap.size + 1 + 1; omega) _).other (by show w.heap.size + 1 ≠ w.heap.size + 1 + 1; omega) _).other (by show w.heap.size + 1 ≠ w.heap.size + 1 + 1; omega) _).other (by show w.heap.size + 1 ≠ w.heap.size + 1 + 1; omega) _).alloc _).alloc _).alloc _).drew
          · rw [Ht.out, Hs.out]
            exact ((((Holds5.five HT.out _ _ _ _ _).alloc _).alloc _).alloc _).drew
          · have hB := HB.out
            go_grown
        case measure => simp [intOf]; omega
    · have he : j = s.size := by omega
      have hts : s.data.toList.take j = s.data.toList := by rw [List.take_of_length_le]; simp; omega
      have t0 := hT.look 0; have t1 := hT.look 1; have t2 := hT.look 2; have t3 := hT.look 3; have t4 := hT.look 4
      have r0 := hR.look 0; have r1 := hR.look 1; have r2 := hR.look 2; have r3 := hR.look 3; have r4 := hR.look 4
      have f0 := hR.free 0; have f1 := hR.free 1; have f2 := hR.free 2; have f3 := hR.free 3; have f4 := hR.free 4
      rw [hts] at t0 t1 t2 t3 t4
      have hge : s.size ≤ j := by omega
      have HR := shade hR
      clear hts hC hR hT he hlt
      simp at t0 t1 t2 t3 t4 r0 r1 r2 r3 r4
      generalize htt : told s.data.toList d a b k = tt at *
      obtain ⟨td, ta, tb, tk⟩ := tt
      simp only at t1 t2 t3 t4
      have HTT := shade htt
      clear htt
      go_wp2
      have H5 := Holds5.five HR.out (.string op) (.int .i64 td) (.int .i64 ta) (.int .i64 tb) (.int .i64 tk)
      have q0 := H5.look 0; have q1 := H5.look 1; have q2 := H5.look 2; have q3 := H5.look 3; have q4 := H5.look 4
      simp at q0 q1 q2 q3 q4
      refine bodyPost_ret (v := IV op td ta tb tk) (by simp [results, Tryd.results63, go_sem, q0, q1, q2, q3, q4]) rfl ⟨?_, by go_grown⟩
      rw [HS.out, HTT.out]
end Go.Proofs.YtcfnoihjpiklhaaDoor
