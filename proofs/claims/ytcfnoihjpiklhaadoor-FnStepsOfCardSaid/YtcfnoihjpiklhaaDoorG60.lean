/- The model's someCode returns a program of at most fourteen instructions whose cells can be read and changes nothing but the reader. The model's someCode returns a program of at most fourteen instructions whose cells can be read and changes nothing but the reader. ValidCode answers as its model for the drawn program; a valid program's instructions are valid, and it may halt behind its end if there is room, for every list of bytes, under the conditions of the row. -/
import Derived.Test.YtcfnoihjpiklhaaDoorW52
namespace Go.Proofs.YtcfnoihjpiklhaaDoor
open Go.RowKit
theorem rowL_append (m m' : Nat) (g : Nat → Value) : rowL m g ++ (List.range m').map (fun j => g (m + j)) = rowL (m + m') g := by
  unfold rowL
  rw [List.range_add, List.map_append, List.map_map]
  rfl
theorem codeL_snoc (k : Nat) (f : Nat → Ins) (c : Ins) : codeL k f ++ [.string c.op, .int .i64 c.d, .int .i64 c.a, .int .i64 c.b, .int .i64 c.k] = codeL (k + 1) (fun j => if j = k then c else f j) := by
  have e : codeL (k + 1) (fun j => if j = k then c else f j) = rowL (k * 5 + 5) (fun i => ((fun j => if j = k then c else f j) (i / 5)).part (i % 5)) := by
    unfold codeL
    rw [show (k + 1) * 5 = k * 5 + 5 by omega]
  rw [e, ← rowL_append]
  congr 1
  · unfold codeL
    apply rowL_congr
    intro i hi
    show _ = (if i / 5 = k then c else f (i / 5)).part (i % 5)
    rw [if_neg (by omega)]
  · show _ = [(if (k * 5 + 0) / 5 = k then c else f ((k * 5 + 0) / 5)).part ((k * 5 + 0) % 5), (if (k * 5 + 1) / 5 = k then c else f ((k * 5 + 1) / 5)).part ((k * 5 + 1) % 5), (if (k * 5 + 2) / 5 = k then c else f ((k * 5 + 2) / 5)).part ((k * 5 + 2) % 5), (if (k * 5 + 3) / 5 = k then c else f ((k * 5 + 3) / 5)).part ((k * 5 + 3) % 5), (if (k * 5 + 4) / 5 = k then c else f ((k * 5 + 4) / 5)).part ((k * 5 + 4) % 5)]
    rw [if_pos (by omega), if_pos (by omega), if_pos (by omega), if_pos (by omega), if_pos (by omega), show (k * 5 + 0) % 5 = 0 by omega, show (k * 5 + 1) % 5 = 1 by omega, show (k * 5 + 2) % 5 = 2 by omega, show (k * 5 + 3) % 5 = 3 by omega, show (k * 5 + 4) % 5 = 4 by omega]
    rfl
theorem Rd.kept {w w' : World} {g : Nat} {A : Option Addr} {n cap : Nat} {zs : List Int} {p : Nat} {row : Option Nat} (h : Rd w g A n cap zs p) (hG : w.grownBy w' row) (hg : some g ≠ row) (hb : ∀ b off, A = some ⟨b, off, none⟩ → 0 < n → some b ≠ row) : Rd w' g A n cap zs p := by
  refine ⟨h.blk.grown hG hg, h.len, h.cap, fun hn => ?_, h.rng, h.few⟩
  obtain ⟨b, off, hA, hbg, hc⟩ := h.cells hn
  exact ⟨b, off, hA, hbg, fun j hj => hG.cell (hc j hj) (hb b off hA hn)⟩
theorem Rd.on {w w' : World} {g : Nat} {A : Option Addr} {n cap : Nat} {zs : List Int} {p : Nat} (h : Rd w g A n cap zs p) (hG : w.grownBy w' none) : Rd w' g A n cap zs p := h.kept hG (by intro e; cases e) (by intro _ _ _ _ e; cases e)
theorem only_row {a b c : World} {g : Nat} {row : Option Nat} (h : a.grownBy b (some g)) (h' : b.grownBy c row) (hr : ∀ k, row = some k → a.heap.size ≤ k) : a.grownBy c (some g) :=
  ⟨h'.os.trans h.os, h'.tape.trans h.tape, h'.output.trans h.output, Nat.le_trans h.size h'.size, fun i hi hne => (h'.block i (Nat.lt_of_lt_of_le hi h.size) (fun e => by
    have := hr i e.symm
    omega)).trans (h.block i hi hne)⟩
theorem only_of {a b : World} {g : Nat} (h : a.grownBy b none) : a.grownBy b (some g) := ⟨h.os, h.tape, h.output, h.size, fun i hi _ => h.block i hi (by simp)⟩
/-- A slice's length. -/
def lenOf : Value → Nat
  | .slice _ n _ => n
  | _ => 0
/-- What stands while a program is drawn: k instructions so far. -/
structure SCB (w wr : World) (g : Nat) (A : Option Addr) (n cap : Nat) (zs : List Int) (p : Nat) (v : Value) (k : Nat) (f : Nat → Ins) : Prop where
  rd : Rd wr g A n cap zs p
  own : wr.ownsRow w.heap.size 37 5 v k (codeL k f)
  low : w.grownBy wr (some g)
  sep : g < w.heap.size ∧ ∀ b off, A = some ⟨b, off, none⟩ → 0 < n → b < w.heap.size
  pos : v ≠ .slice none 0 0
theorem SCB.val {w wr : World} {g : Nat} {A : Option Addr} {n cap : Nat} {zs : List Int} {p : Nat} {v : Value} {k : Nat} {f : Nat → Ins} (h : SCB w wr g A n cap zs p v k f) :
    ∃ g' c, v = .slice (some ⟨g', 0, none⟩) k c ∧ Code wr (some ⟨g', 0, none⟩) k f ∧ w.heap.size ≤ g' := by
  rcases h.own.2 with ⟨e, h0⟩ | ⟨g', c, cur, e, hb, _⟩
  · exact absurd e h.pos
  · refine ⟨g', c, e, ?_, hb⟩
    have ho := h.own
    rw [e] at ho
    exact OwnC.code ho
theorem SCB.step {w wr w2 : World} {g : Nat} {A : Option Addr} {n cap : Nat} {zs : List Int} {p p2 : Nat} {v : Value} {k : Nat} {f : Nat → Ins} (h : SCB w wr g A n cap zs p v k f) (hR : Rd w2 g A n cap zs p2) (hG : wr.grownBy w2 (some g)) : SCB w w2 g A n cap zs p2 v k f := by
  refine ⟨hR, World.ownsRow.kept h.own hG ?_, only_trans h.low hG, h.sep, h.pos⟩
  rcases hv : v.ownBlock with _ | k'
  · exact .inl rfl
  · refine .inr (fun e => ?_)
    injection e with e
    have := World.ownsRow.lt h.own k' hv
    have := h.sep.1
    omega
theorem SCB.on {w wr w2 : World} {g : Nat} {A : Option Addr} {n cap : Nat} {zs : List Int} {p : Nat} {v : Value} {k : Nat} {f : Nat → Ins} (h : SCB w wr g A n cap zs p v k f) (hG : wr.grownBy w2 none) : SCB w w2 g A n cap zs p v k f := h.step (h.rd.on hG) (only_of hG)
theorem SCB.far {w wr : World} {g : Nat} {A : Option Addr} {n cap : Nat} {zs : List Int} {p : Nat} {v : Value} {k : Nat} {f : Nat → Ins} (h : SCB w wr g A n cap zs p v k f) (r o : Nat) (u : Value) (hr : w.heap.size ≤ r) (hv : ∀ j, v.ownBlock = some j → j ≠ r) : SCB w (wr.setCell ⟨r, o, none⟩ u) g A n cap zs p v k f := by
  refine ⟨h.rd.kept (grown_set r o u) (fun e => ?_) (fun b off hA hn e => ?_), World.ownsRow.kept h.own (grown_set r o u) ?_, only_row h.low (grown_set r o u) (fun j e => ?_), h.sep, h.pos⟩
  · injection e with e
    have := h.sep.1
    omega
  · injection e with e
    have := h.sep.2 b off hA hn
    omega
  · rcases he : v.ownBlock with _ | j
    · exact .inl rfl
    · refine .inr (fun e => ?_)
      injection e with e
      exact hv j he e
  · injection e with e
    omega
/-- What someCode leaves. -/
def SCOk (w : World) (g : Nat) (e : Ending) (w' : World) : Prop :=
  ∃ (g' k c : Nat) (f : Nat → Ins), e = .returned (.slice (some ⟨g', 0, none⟩) k c) ∧ k ≤ 14 ∧ Code w' (some ⟨g', 0, none⟩) k f ∧ w.grownBy w' (some g)


theorem cells_new (w : World) (t : TypeId) (op : ByteArray) (d a b k : Int) : ∀ j u, ([.string op, .int .i64 d, .int .i64 a, .int .i64 b, .int .i64 k] : List Value)[j]? = some u → (w.alloc (.cells #[.string op, .int .i64 d, .int .i64 a, .int .i64 b, .int .i64 k] t)).cell? ((⟨w.heap.size, 0, none⟩ : Addr).add j) = some u := by
  intro j u h
  rw [Addr.add_lit, Nat.zero_add, World.cell?_alloc_new]
  simpa using h
theorem one_cells (op : ByteArray) (d a b k : Int) : ∀ u ∈ ([.string op, .int .i64 d, .int .i64 a, .int .i64 b, .int .i64 k] : List Value), u.oneCell' = true := by
  intro u hu
  simp only [List.mem_cons, List.not_mem_nil, or_false] at hu
  rcases hu with rfl | rfl | rfl | rfl | rfl <;> rfl
theorem SCB.snoc {w wr w2 w3 : World} {g : Nat} {A : Option Addr} {n cap : Nat} {zs : List Int} {p : Nat} {v v' : Value} {k k' : Nat} {f f' : Nat → Ins} (h : SCB w wr g A n cap zs p v k f) (hG : wr.grownBy w2 none)
    (ho : w3.ownsRow w.heap.size 37 5 v' k' (codeL k' f')) (hG' : w2.grownBy w3 v.ownBlock) (hn : v' ≠ .slice none 0 0) : SCB w w3 g A n cap zs p v' k' f' := by
  have h2 := h.on hG
  refine ⟨h2.rd.kept hG' (fun e => ?_) (fun b off hA hn e => ?_), ho, only_row h2.low hG' (fun j e => (World.ownsRow.lt h2.own j e).1), h.sep, hn⟩
  · have := (World.ownsRow.lt h2.own g e.symm).1
    have := h.sep.1
    omega
  · have := (World.ownsRow.lt h2.own b e.symm).1
    have := h.sep.2 b off hA hn
    omega

end Go.Proofs.YtcfnoihjpiklhaaDoor

namespace Go.Proofs.YtcfnoihjpiklhaaDoor
open Go.RowKit
set_option maxHeartbeats 16000000 in
theorem someCode_any {A : Option Addr} {n cap g : Nat} {zs : List Int} {p : Nat} {w : World} (h : Rd w g A n cap zs p) (hp : p + 400 < 1000000) :
    Calls Tryd.prog 25 #[.pointer (some ⟨g, 0, none⟩)] w (SCOk w g) := by
  have hg := h.blk.inside
  have HL := shade (fun b off (hA : A = some ⟨b, off, none⟩) (hn : 0 < n) => h.low hA hn)
  have HR := shade h
  clear h
  go_enter Tryd.func25, Tryd.ntmps25
  go_wp2_with fail
  refine (one_rel (fun x => 0 ≤ x ∧ x ≤ 14) (HR.out.alloc _) (by omega) _ _ _ (by omega) (by omega) (by omega) (by omega) (by
    intro j hj
    rw [World.cell?_alloc_new]
    rcases (show j = 0 ∨ j = 1 ∨ j = 2 ∨ j = 3 ∨ j = 4 ∨ j = 5 ∨ j = 6 ∨ j = 7 ∨ j = 8 by omega) with rfl | rfl | rfl | rfl | rfl | rfl | rfl | rfl | rfl <;> exact ⟨_, by constructor <;> omega, rfl⟩)).mono ?_
  rintro e w1 ⟨x, ⟨n0, n1⟩, rfl, hR, hG⟩
  obtain ⟨nn, rfl⟩ := Int.eq_ofNat_of_zero_le n0
  have n2 : nn ≤ 14 := by omega
  have hT := only_trans (only_of (World.grownBy_alloc w _ none)) hG
  have hM : SCB w (w1.alloc (.cells #[] 37)) g A n cap zs (p + 1) (.slice (some ⟨w1.heap.size, 0, none⟩) 0 0) 0 (fun _ => zIns) :=
    ⟨hR.on (World.grownBy_alloc _ _ _), World.ownsRow_lit w1 #[] 0 hT.size (by decide) rfl, only_row hT (World.grownBy_alloc _ _ none) (by intro _ e; cases e), ⟨hg, HL.out⟩, (by intro e; injection e with e; cases e)⟩
  have HM := shade hM
  clear hM hR hG hT HR n0 n1
  go_wp2_with fail
  go_loopw [4] (fun v wr => ∃ (k q : Nat) (f : Nat → Ins), k ≤ nn ∧ q ≤ p + 1 + 13 * k ∧ SCB w wr g A n cap zs q v k f) (fun v _ => nn - lenOf v)
  case atStart => exact ⟨0, p + 1, _, Nat.zero_le _, by omega, HM.out⟩
  case round =>
    clear HM
    obtain ⟨k, p, f, hk, hq, hs⟩ := hrel
    obtain ⟨g', c', rfl, hC, hg'⟩ := hs.val
    have HS := shade hs
    clear hs hC
    by_cases hkn : k < nn
    · go_wp2_with fail
      refine (goodInstr_any nn (by omega) (by omega) HS.out.rd (by omega)).mono ?_
      rintro e w2 ⟨op, d, a, b, kk, q2, hq2, rfl, hR, hG⟩
      have H2 := HS.out.step hR hG
      clear hR hG HS
      go_upto_region 5 with (fail)
      have hP := Holds5.fresh w2 37 #[.string op, .int .i64 d, .int .i64 a, .int .i64 b, .int .i64 kk]
      have h3 := H2.on (World.grownBy_alloc w2 (.cells #[.string op, .int .i64 d, .int .i64 a, .int .i64 b, .int .i64 kk] 37) none)
      generalize w2.alloc (.cells #[.string op, .int .i64 d, .int .i64 a, .int .i64 b, .int .i64 kk] 37) = wc at *
      have bw := H2.low.size
      have bg := H2.sep.1
      have HQ := shade (fun j (e : (Value.slice (some ⟨g', 0, none⟩) k c').ownBlock = some j) => (World.ownsRow.lt H2.own j e).2)
      have H3 := shade h3
      have HP := shade hP
      clear H2 h3 hP
      have x0 := HP.out.look 0; have x1 := HP.out.look 1; have x2 := HP.out.look 2; have x3 := HP.out.look 3; have x4 := HP.out.look 4; have xf := HP.out.free 4; have xz := HP.out.inside
      simp at x0 x1 x2 x3 x4
      rcases e1 : (op.toList == [106, 109, 112]) with _ | _
      · rcases e2 : (op.toList == [98, 122]) with _ | _
        · have H7 := H3
          obtain ⟨i0, hi, hz0, hz1, hz2⟩ := info_parts info24
          go_wp2_with (first
            | (at_builtin; refine wpList_append_own _ rfl _ _ 23 rfl w.heap.size 37 i0 (.agg #[.string ⟨#[]⟩, .int .i64 0, .int .i64 0, .int .i64 0, .int .i64 0]) 5 48 Tryd.underlying23 hi hz0 hz1 hz2 rfl (by decide) _ _ _ rfl (H7.out.on (World.grownBy_alloc _ _ _)).own ⟨wc.heap.size, 0, none⟩ 1 1 [.string op, .int .i64 d, .int .i64 a, .int .i64 b, .int .i64 kk] rfl rfl (cells_new _ _ _ _ _ _ _) (one_cells _ _ _ _ _) (by unfold maxLen; omega) (by omega) (by have := H7.out.low.size; simp; omega) ?_)
            | go_in)
          intro v' w8 hown8 hgr8 hnil8
          rw [codeL_snoc k f ⟨op, d, a, b, kk⟩] at hown8
          have H8 := shade (H7.out.snoc (World.grownBy_alloc _ _ _) hown8 hgr8 hnil8)
          clear hown8 hgr8 hnil8 hi hz0 hz1 hz2
          go_wp2
          go_roundw
          case rel => exact ⟨k + 1, _, _, by omega, by omega, H8.out⟩
          case measure =>
            obtain ⟨A8, c8, e8, _⟩ := H8.out.val
            obtain ⟨A6, c6, e6, _⟩ := H7.out.val
            subst e8
            simp [lenOf]
            omega

        · by_cases hle : kk ≤ (k : Int)
          · go_wp2_with fail
            refine (pick_rel 3 H3.out.rd (by omega)).mono ?_
            rintro e w3 ⟨y, ⟨y0, y1, _⟩, rfl, hR, hG⟩
            have y2 := y1 (by omega)
            have H4 := shade (H3.out.step hR hG)
            have HP3 := shade (HP.out.grown hG (by intro e; injection e with e; omega))
            clear hR hG y1 H3 HP x0 x1 x2 x3 x4 xf xz
            have x0 := HP3.out.look 0; have x1 := HP3.out.look 1; have x2 := HP3.out.look 2; have x3 := HP3.out.look 3; have x4 := HP3.out.look 4; have xf := HP3.out.free 4; have xz := HP3.out.inside
            simp at x0 x1 x2 x3 x4
            by_cases hy : y = 0
            · subst hy
              have H7 := H4
              obtain ⟨i0, hi, hz0, hz1, hz2⟩ := info_parts info24
              go_wp2_with (first
                | (at_builtin; refine wpList_append_own _ rfl _ _ 23 rfl w.heap.size 37 i0 (.agg #[.string ⟨#[]⟩, .int .i64 0, .int .i64 0, .int .i64 0, .int .i64 0]) 5 48 Tryd.underlying23 hi hz0 hz1 hz2 rfl (by decide) _ _ _ rfl (H7.out.on (World.grownBy_alloc _ _ _)).own ⟨w3.heap.size, 0, none⟩ 1 1 [.string op, .int .i64 d, .int .i64 a, .int .i64 b, .int .i64 kk] rfl rfl (cells_new _ _ _ _ _ _ _) (one_cells _ _ _ _ _) (by unfold maxLen; omega) (by omega) (by have := H7.out.low.size; simp; omega) ?_)
                | go_in)
              intro v' w8 hown8 hgr8 hnil8
              rw [codeL_snoc k f ⟨op, d, a, b, kk⟩] at hown8
              have H8 := shade (H7.out.snoc (World.grownBy_alloc _ _ _) hown8 hgr8 hnil8)
              clear hown8 hgr8 hnil8 hi hz0 hz1 hz2
              go_wp2
              go_roundw
              case rel => exact ⟨k + 1, _, _, by omega, by omega, H8.out⟩
              case measure =>
                obtain ⟨A8, c8, e8, _⟩ := H8.out.val
                obtain ⟨A6, c6, e6, _⟩ := H7.out.val
                subst e8
                simp [lenOf]
                omega

            · have hy : 0 < y := by omega
              go_wp2_with fail
              refine (pick_rel 4 H4.out.rd (by omega)).mono ?_
              rintro e w4 ⟨z, ⟨z0, z1, _⟩, rfl, hR, hG⟩
              have z2 := z1 (by omega)
              have H5 := shade (H4.out.step hR hG)
              have HP4 := shade (HP3.out.grown hG (by intro e; injection e with e; omega))
              clear hR hG z1 H4 HP3 x0 x1 x2 x3 x4 xf xz
              have x0 := HP4.out.look 0; have x1 := HP4.out.look 1; have x2 := HP4.out.look 2; have x3 := HP4.out.look 3; have x4 := HP4.out.look 4; have xf := HP4.out.free 4; have xz := HP4.out.inside
              simp at x0 x1 x2 x3 x4
              by_cases hm : (k : Int) + 1 + z ≤ nn
              · go_upto_region 7 with (fail)
                have h6 := H5.out.far w2.heap.size 4 (.int .i64 ((k : Int) + 1 + z)) bw (fun j e => by have := HQ.out j e; omega)
                have hP6 := HP4.out.put 4 (.int .i64 ((k : Int) + 1 + z))
                simp at hP6
                generalize w4.setCell ⟨w2.heap.size, 4, none⟩ (.int .i64 ((k : Int) + 1 + z)) = w5 at *
                have H7 := shade h6
                have HP6 := shade hP6
                clear h6 hP6 H5 HP4 x0 x1 x2 x3 x4 xf xz
                have x0 := HP6.out.look 0; have x1 := HP6.out.look 1; have x2 := HP6.out.look 2; have x3 := HP6.out.look 3; have x4 := HP6.out.look 4; have xf := HP6.out.free 4; have xz := HP6.out.inside
                simp at x0 x1 x2 x3 x4
                obtain ⟨i0, hi, hz0, hz1, hz2⟩ := info_parts info24
                go_wp2_with (first
                  | (at_builtin; refine wpList_append_own _ rfl _ _ 23 rfl w.heap.size 37 i0 (.agg #[.string ⟨#[]⟩, .int .i64 0, .int .i64 0, .int .i64 0, .int .i64 0]) 5 48 Tryd.underlying23 hi hz0 hz1 hz2 rfl (by decide) _ _ _ rfl (H7.out.on (World.grownBy_alloc _ _ _)).own ⟨w5.heap.size, 0, none⟩ 1 1 [.string op, .int .i64 d, .int .i64 a, .int .i64 b, .int .i64 (k + 1 + z)] rfl rfl (cells_new _ _ _ _ _ _ _) (one_cells _ _ _ _ _) (by unfold maxLen; omega) (by omega) (by have := H7.out.low.size; simp; omega) ?_)
                  | go_in)
                intro v' w8 hown8 hgr8 hnil8
                rw [codeL_snoc k f ⟨op, d, a, b, (k + 1 + z)⟩] at hown8
                have H8 := shade (H7.out.snoc (World.grownBy_alloc _ _ _) hown8 hgr8 hnil8)
                clear hown8 hgr8 hnil8 hi hz0 hz1 hz2
                go_wp2
                go_roundw
                case rel => exact ⟨k + 1, _, _, by omega, by omega, H8.out⟩
                case measure =>
                  obtain ⟨A8, c8, e8, _⟩ := H8.out.val
                  obtain ⟨A6, c6, e6, _⟩ := H7.out.val
                  subst e8
                  simp [lenOf]
                  omega

              · have hm : (nn : Int) < (k : Int) + 1 + z := by omega
                go_upto_region 7 with (fail)
                have h6 := H5.out.far w2.heap.size 4 (.int .i64 (nn : Int)) bw (fun j e => by have := HQ.out j e; omega)
                have hP6 := HP4.out.put 4 (.int .i64 (nn : Int))
                simp at hP6
                generalize w4.setCell ⟨w2.heap.size, 4, none⟩ (.int .i64 (nn : Int)) = w5 at *
                have H7 := shade h6
                have HP6 := shade hP6
                clear h6 hP6 H5 HP4 x0 x1 x2 x3 x4 xf xz
                have x0 := HP6.out.look 0; have x1 := HP6.out.look 1; have x2 := HP6.out.look 2; have x3 := HP6.out.look 3; have x4 := HP6.out.look 4; have xf := HP6.out.free 4; have xz := HP6.out.inside
                simp at x0 x1 x2 x3 x4
                obtain ⟨i0, hi, hz0, hz1, hz2⟩ := info_parts info24
                go_wp2_with (first
                  | (at_builtin; refine wpList_append_own _ rfl _ _ 23 rfl w.heap.size 37 i0 (.agg #[.string ⟨#[]⟩, .int .i64 0, .int .i64 0, .int .i64 0, .int .i64 0]) 5 48 Tryd.underlying23 hi hz0 hz1 hz2 rfl (by decide) _ _ _ rfl (H7.out.on (World.grownBy_alloc _ _ _)).own ⟨w5.heap.size, 0, none⟩ 1 1 [.string op, .int .i64 d, .int .i64 a, .int .i64 b, .int .i64 nn] rfl rfl (cells_new _ _ _ _ _ _ _) (one_cells _ _ _ _ _) (by unfold maxLen; omega) (by omega) (by have := H7.out.low.size; simp; omega) ?_)
                  | go_in)
                intro v' w8 hown8 hgr8 hnil8
                rw [codeL_snoc k f ⟨op, d, a, b, nn⟩] at hown8
                have H8 := shade (H7.out.snoc (World.grownBy_alloc _ _ _) hown8 hgr8 hnil8)
                clear hown8 hgr8 hnil8 hi hz0 hz1 hz2
                go_wp2
                go_roundw
                case rel => exact ⟨k + 1, _, _, by omega, by omega, H8.out⟩
                case measure =>
                  obtain ⟨A8, c8, e8, _⟩ := H8.out.val
                  obtain ⟨A6, c6, e6, _⟩ := H7.out.val
                  subst e8
                  simp [lenOf]
                  omega

          · have hle : (k : Int) < kk := by omega
            have H7 := H3
            obtain ⟨i0, hi, hz0, hz1, hz2⟩ := info_parts info24
            go_wp2_with (first
              | (at_builtin; refine wpList_append_own _ rfl _ _ 23 rfl w.heap.size 37 i0 (.agg #[.string ⟨#[]⟩, .int .i64 0, .int .i64 0, .int .i64 0, .int .i64 0]) 5 48 Tryd.underlying23 hi hz0 hz1 hz2 rfl (by decide) _ _ _ rfl (H7.out.on (World.grownBy_alloc _ _ _)).own ⟨wc.heap.size, 0, none⟩ 1 1 [.string op, .int .i64 d, .int .i64 a, .int .i64 b, .int .i64 kk] rfl rfl (cells_new _ _ _ _ _ _ _) (one_cells _ _ _ _ _) (by unfold maxLen; omega) (by omega) (by have := H7.out.low.size; simp; omega) ?_)
              | go_in)
            intro v' w8 hown8 hgr8 hnil8
            rw [codeL_snoc k f ⟨op, d, a, b, kk⟩] at hown8
            have H8 := shade (H7.out.snoc (World.grownBy_alloc _ _ _) hown8 hgr8 hnil8)
            clear hown8 hgr8 hnil8 hi hz0 hz1 hz2
            go_wp2
            go_roundw
            case rel => exact ⟨k + 1, _, _, by omega, by omega, H8.out⟩
            case measure =>
              obtain ⟨A8, c8, e8, _⟩ := H8.out.val
              obtain ⟨A6, c6, e6, _⟩ := H7.out.val
              subst e8
              simp [lenOf]
              omega

      · by_cases hle : kk ≤ (k : Int)
        · go_wp2_with fail
          refine (pick_rel 3 H3.out.rd (by omega)).mono ?_
          rintro e w3 ⟨y, ⟨y0, y1, _⟩, rfl, hR, hG⟩
          have y2 := y1 (by omega)
          have H4 := shade (H3.out.step hR hG)
          have HP3 := shade (HP.out.grown hG (by intro e; injection e with e; omega))
          clear hR hG y1 H3 HP x0 x1 x2 x3 x4 xf xz
          have x0 := HP3.out.look 0; have x1 := HP3.out.look 1; have x2 := HP3.out.look 2; have x3 := HP3.out.look 3; have x4 := HP3.out.look 4; have xf := HP3.out.free 4; have xz := HP3.out.inside
          simp at x0 x1 x2 x3 x4
          by_cases hy : y = 0
          · subst hy
            have H7 := H4
            obtain ⟨i0, hi, hz0, hz1, hz2⟩ := info_parts info24
            go_wp2_with (first
              | (at_builtin; refine wpList_append_own _ rfl _ _ 23 rfl w.heap.size 37 i0 (.agg #[.string ⟨#[]⟩, .int .i64 0, .int .i64 0, .int .i64 0, .int .i64 0]) 5 48 Tryd.underlying23 hi hz0 hz1 hz2 rfl (by decide) _ _ _ rfl (H7.out.on (World.grownBy_alloc _ _ _)).own ⟨w3.heap.size, 0, none⟩ 1 1 [.string op, .int .i64 d, .int .i64 a, .int .i64 b, .int .i64 kk] rfl rfl (cells_new _ _ _ _ _ _ _) (one_cells _ _ _ _ _) (by unfold maxLen; omega) (by omega) (by have := H7.out.low.size; simp; omega) ?_)
              | go_in)
            intro v' w8 hown8 hgr8 hnil8
            rw [codeL_snoc k f ⟨op, d, a, b, kk⟩] at hown8
            have H8 := shade (H7.out.snoc (World.grownBy_alloc _ _ _) hown8 hgr8 hnil8)
            clear hown8 hgr8 hnil8 hi hz0 hz1 hz2
            go_wp2
            go_roundw
            case rel => exact ⟨k + 1, _, _, by omega, by omega, H8.out⟩
            case measure =>
              obtain ⟨A8, c8, e8, _⟩ := H8.out.val
              obtain ⟨A6, c6, e6, _⟩ := H7.out.val
              subst e8
              simp [lenOf]
              omega

          · have hy : 0 < y := by omega
            go_wp2_with fail
            refine (pick_rel 4 H4.out.rd (by omega)).mono ?_
            rintro e w4 ⟨z, ⟨z0, z1, _⟩, rfl, hR, hG⟩
            have z2 := z1 (by omega)
            have H5 := shade (H4.out.step hR hG)
            have HP4 := shade (HP3.out.grown hG (by intro e; injection e with e; omega))
            clear hR hG z1 H4 HP3 x0 x1 x2 x3 x4 xf xz
            have x0 := HP4.out.look 0; have x1 := HP4.out.look 1; have x2 := HP4.out.look 2; have x3 := HP4.out.look 3; have x4 := HP4.out.look 4; have xf := HP4.out.free 4; have xz := HP4.out.inside
            simp at x0 x1 x2 x3 x4
            by_cases hm : (k : Int) + 1 + z ≤ nn
            · go_upto_region 7 with (fail)
              have h6 := H5.out.far w2.heap.size 4 (.int .i64 ((k : Int) + 1 + z)) bw (fun j e => by have := HQ.out j e; omega)
              have hP6 := HP4.out.put 4 (.int .i64 ((k : Int) + 1 + z))
              simp at hP6
              generalize w4.setCell ⟨w2.heap.size, 4, none⟩ (.int .i64 ((k : Int) + 1 + z)) = w5 at *
              have H7 := shade h6
              have HP6 := shade hP6
              clear h6 hP6 H5 HP4 x0 x1 x2 x3 x4 xf xz
              have x0 := HP6.out.look 0; have x1 := HP6.out.look 1; have x2 := HP6.out.look 2; have x3 := HP6.out.look 3; have x4 := HP6.out.look 4; have xf := HP6.out.free 4; have xz := HP6.out.inside
              simp at x0 x1 x2 x3 x4
              obtain ⟨i0, hi, hz0, hz1, hz2⟩ := info_parts info24
              go_wp2_with (first
                | (at_builtin; refine wpList_append_own _ rfl _ _ 23 rfl w.heap.size 37 i0 (.agg #[.string ⟨#[]⟩, .int .i64 0, .int .i64 0, .int .i64 0, .int .i64 0]) 5 48 Tryd.underlying23 hi hz0 hz1 hz2 rfl (by decide) _ _ _ rfl (H7.out.on (World.grownBy_alloc _ _ _)).own ⟨w5.heap.size, 0, none⟩ 1 1 [.string op, .int .i64 d, .int .i64 a, .int .i64 b, .int .i64 (k + 1 + z)] rfl rfl (cells_new _ _ _ _ _ _ _) (one_cells _ _ _ _ _) (by unfold maxLen; omega) (by omega) (by have := H7.out.low.size; simp; omega) ?_)
                | go_in)
              intro v' w8 hown8 hgr8 hnil8
              rw [codeL_snoc k f ⟨op, d, a, b, (k + 1 + z)⟩] at hown8
              have H8 := shade (H7.out.snoc (World.grownBy_alloc _ _ _) hown8 hgr8 hnil8)
              clear hown8 hgr8 hnil8 hi hz0 hz1 hz2
              go_wp2
              go_roundw
              case rel => exact ⟨k + 1, _, _, by omega, by omega, H8.out⟩
              case measure =>
                obtain ⟨A8, c8, e8, _⟩ := H8.out.val
                obtain ⟨A6, c6, e6, _⟩ := H7.out.val
                subst e8
                simp [lenOf]
                omega

            · have hm : (nn : Int) < (k : Int) + 1 + z := by omega
              go_upto_region 7 with (fail)
              have h6 := H5.out.far w2.heap.size 4 (.int .i64 (nn : Int)) bw (fun j e => by have := HQ.out j e; omega)
              have hP6 := HP4.out.put 4 (.int .i64 (nn : Int))
              simp at hP6
              generalize w4.setCell ⟨w2.heap.size, 4, none⟩ (.int .i64 (nn : Int)) = w5 at *
              have H7 := shade h6
              have HP6 := shade hP6
              clear h6 hP6 H5 HP4 x0 x1 x2 x3 x4 xf xz
              have x0 := HP6.out.look 0; have x1 := HP6.out.look 1; have x2 := HP6.out.look 2; have x3 := HP6.out.look 3; have x4 := HP6.out.look 4; have xf := HP6.out.free 4; have xz := HP6.out.inside
              simp at x0 x1 x2 x3 x4
              obtain ⟨i0, hi, hz0, hz1, hz2⟩ := info_parts info24
              go_wp2_with (first
                | (at_builtin; refine wpList_append_own _ rfl _ _ 23 rfl w.heap.size 37 i0 (.agg #[.string ⟨#[]⟩, .int .i64 0, .int .i64 0, .int .i64 0, .int .i64 0]) 5 48 Tryd.underlying23 hi hz0 hz1 hz2 rfl (by decide) _ _ _ rfl (H7.out.on (World.grownBy_alloc _ _ _)).own ⟨w5.heap.size, 0, none⟩ 1 1 [.string op, .int .i64 d, .int .i64 a, .int .i64 b, .int .i64 nn] rfl rfl (cells_new _ _ _ _ _ _ _) (one_cells _ _ _ _ _) (by unfold maxLen; omega) (by omega) (by have := H7.out.low.size; simp; omega) ?_)
                | go_in)
              intro v' w8 hown8 hgr8 hnil8
              rw [codeL_snoc k f ⟨op, d, a, b, nn⟩] at hown8
              have H8 := shade (H7.out.snoc (World.grownBy_alloc _ _ _) hown8 hgr8 hnil8)
              clear hown8 hgr8 hnil8 hi hz0 hz1 hz2
              go_wp2
              go_roundw
              case rel => exact ⟨k + 1, _, _, by omega, by omega, H8.out⟩
              case measure =>
                obtain ⟨A8, c8, e8, _⟩ := H8.out.val
                obtain ⟨A6, c6, e6, _⟩ := H7.out.val
                subst e8
                simp [lenOf]
                omega

        · have hle : (k : Int) < kk := by omega
          have H7 := H3
          obtain ⟨i0, hi, hz0, hz1, hz2⟩ := info_parts info24
          go_wp2_with (first
            | (at_builtin; refine wpList_append_own _ rfl _ _ 23 rfl w.heap.size 37 i0 (.agg #[.string ⟨#[]⟩, .int .i64 0, .int .i64 0, .int .i64 0, .int .i64 0]) 5 48 Tryd.underlying23 hi hz0 hz1 hz2 rfl (by decide) _ _ _ rfl (H7.out.on (World.grownBy_alloc _ _ _)).own ⟨wc.heap.size, 0, none⟩ 1 1 [.string op, .int .i64 d, .int .i64 a, .int .i64 b, .int .i64 kk] rfl rfl (cells_new _ _ _ _ _ _ _) (one_cells _ _ _ _ _) (by unfold maxLen; omega) (by omega) (by have := H7.out.low.size; simp; omega) ?_)
            | go_in)
          intro v' w8 hown8 hgr8 hnil8
          rw [codeL_snoc k f ⟨op, d, a, b, kk⟩] at hown8
          have H8 := shade (H7.out.snoc (World.grownBy_alloc _ _ _) hown8 hgr8 hnil8)
          clear hown8 hgr8 hnil8 hi hz0 hz1 hz2
          go_wp2
          go_roundw
          case rel => exact ⟨k + 1, _, _, by omega, by omega, H8.out⟩
          case measure =>
            obtain ⟨A8, c8, e8, _⟩ := H8.out.val
            obtain ⟨A6, c6, e6, _⟩ := H7.out.val
            subst e8
            simp [lenOf]
            omega

    · have hkn2 : k = nn := by omega
      subst hkn2
      by_cases h0 : k = 0
      · subst h0
        go_wp2_with fail
        go_ret
        exact ⟨g', 0, c', f, rfl, by omega, .inl rfl, HS.out.low⟩
      · have h0' : (0 : Int) < k := by omega
        go_wp2_with fail
        refine (pick_rel 40 HS.out.rd (by omega)).mono ?_
        rintro e w5 ⟨y, ⟨y0, y1, _⟩, rfl, hR, hG⟩
        have H5 := shade (HS.out.step hR hG)
        clear hR hG HS
        by_cases hy : y = 0
        · subst hy
          go_wp2_with fail
          refine (pick_rel k H5.out.rd (by omega)).mono ?_
          rintro e w6 ⟨z, ⟨z0, z1, _⟩, rfl, hR, hG⟩
          have z2 := z1 (by omega)
          obtain ⟨z, rfl⟩ := Int.eq_ofNat_of_zero_le z0
          have H6 := shade (H5.out.step hR hG)
          clear hR hG H5 z0 z1
          have ho : OwnC w6 w.heap.size (some ⟨g', 0, none⟩) k c' f := H6.out.own
          have hz : z < k := by omega
          obtain ⟨p0, p1, p2, p3, p4⟩ := (OwnC.code ho).five hz
          have t0 := World.ownsRow.frozenAt ho (z * 5); have t1 := World.ownsRow.frozenAt ho (z * 5 + 1); have t2 := World.ownsRow.frozenAt ho (z * 5 + 2); have t3 := World.ownsRow.frozenAt ho (z * 5 + 3); have t4 := World.ownsRow.frozenAt ho (z * 5 + 4)
          simp only [Nat.zero_add] at p0 p1 p2 p3 p4
          have HO := shade (OwnC.put ho z ⟨⟨#[106, 109, 112]⟩, 0, 0, 0, (k : Int) + 1⟩)
          have HL := shade (only_row (only_row (only_row (only_row (only_row H6.out.low (grown_set g' (z * 5) (.string ⟨#[106, 109, 112]⟩)) (by intro _ e; injection e; omega)) (grown_set g' (z * 5 + 1) (.int .i64 0)) (by intro _ e; injection e; omega)) (grown_set g' (z * 5 + 2) (.int .i64 0)) (by intro _ e; injection e; omega)) (grown_set g' (z * 5 + 3) (.int .i64 0)) (by intro _ e; injection e; omega)) (grown_set g' (z * 5 + 4) (.int .i64 ((k : Int) + 1))) (by intro _ e; injection e; omega))
          clear ho
          go_wp2_with fail
          go_ret
          exact ⟨_, k, c', _, rfl, by omega, OwnC.code HO.out, HL.out⟩
        · have hy : (y == 0) = false := by rw [beq_eq_false_iff_ne]; exact hy
          go_wp2_with fail
          go_ret
          exact ⟨_, k, c', f, rfl, by omega, OwnC.code H5.out.own, H5.out.low⟩
end Go.Proofs.YtcfnoihjpiklhaaDoor

namespace Go.Proofs.YtcfnoihjpiklhaaDoor
open Go.ChangeShapes Go.WideShapes Go.ChangeAt Go.WideMaps Go.WideElems Go.RowKit
/-- What is drawn: some program; nothing that was there has changed. -/
def DrawC (w : World) (e : Ending) (w' : World) : Prop :=
  ∃ (g' k c : Nat) (f : Nat → Ins), e = .returned (.slice (some ⟨g', 0, none⟩) k c) ∧ k ≤ 14 ∧ Code w' (some ⟨g', 0, none⟩) k f ∧ w.grownBy w' none
theorem Code.cells {w : World} {ad : Addr} {n : Nat} {f : Nat → Ins} (h : Code w (some ad) n f) : ∀ j u, (codeL n f)[j]? = some u → w.cell? (ad.add j) = some u := by
  intro j u hj
  by_cases hjn : j < n * 5
  · rcases h with h | ⟨b, off, hA, hb, hc⟩
    · omega
    · injection hA with hA
      subst hA
      have e := codeL_get n f (j / 5) (j % 5) (by omega) (by omega)
      rw [show j / 5 * 5 + j % 5 = j by omega, hj] at e
      injection e with e
      subst e
      rw [Addr.add_lit, ← hc (j / 5) (j % 5) (by omega) (by omega), Nat.add_assoc, show j / 5 * 5 + j % 5 = j by omega]
  · rw [List.getElem?_eq_none (by rw [codeL_len]; omega)] at hj
    cases hj
theorem codeL_oneCell (n : Nat) (f : Nat → Ins) : ∀ u ∈ codeL n f, u.oneCell' = true := by
  intro u hu
  simp only [codeL, rowL, List.mem_map] at hu
  obtain ⟨j, _, rfl⟩ := hu
  rcases (show j % 5 = 0 ∨ j % 5 = 1 ∨ j % 5 = 2 ∨ j % 5 = 3 ∨ j % 5 = 4 by omega) with e | e | e | e | e <;> rw [e] <;> rfl
theorem okI_vB {n : Nat} {c : Ins} (h : okI n c = true) : vB c.op.toList c.d c.a c.b c.k = true := by
  simp only [okI, Bool.and_eq_true] at h
  exact h.1
theorem vcB_ok {n : Nat} {f : Nat → Ins} (h : vcB n f = true) : ∀ j, j < n → okI n (f j) = true := by
  simp only [vcB, Bool.and_eq_true] at h
  exact allI_iff.1 h.1
theorem okI_more {n : Nat} {c : Ins} (h : okI n c = true) : okI (n + 1) c = true := by
  simp only [okI, Bool.and_eq_true, Bool.not_eq_true', Bool.and_eq_false_iff, decide_eq_false_iff_not] at h ⊢
  refine ⟨h.1, ?_⟩
  rcases h.2 with h2 | h2
  · exact .inl h2
  · exact .inr (by omega)
/-- The instruction that halts. -/
def hIns : Ins := ⟨⟨#[104, 108, 116]⟩, 0, 0, 0, 0⟩
theorem okI_hlt (n : Nat) : okI n hIns = true := by
  have h1 : vB hIns.op.toList hIns.d hIns.a hIns.b hIns.k = true := by decide +kernel
  have h2 : jmpB hIns.op.toList = false := by decide +kernel
  simp [okI, h1, h2]
theorem vcB_more {n : Nat} {f : Nat → Ins} (h : vcB n f = true) (hn : n < 40) : vcB (n + 1) (fun j => if j = n then hIns else f j) = true := by
  rw [vcB_all (fun j hj => ?_)]
  · exact decide_eq_true (by omega)
  · show okI (n + 1) (if j = n then hIns else f j) = true
    by_cases e : j = n
    · rw [if_pos e]
      exact okI_hlt _
    · rw [if_neg e]
      exact okI_more (vcB_ok h j (by omega))
theorem grown_row {a b c : World} {row : Option Nat} (h : a.grownBy b none) (h' : b.grownBy c row) (hr : ∀ k, row = some k → a.heap.size ≤ k) : a.grownBy c none :=
  ⟨h'.os.trans h.os, h'.tape.trans h.tape, h'.output.trans h.output, Nat.le_trans h.size h'.size, fun i hi _ => (h'.block i (Nat.lt_of_lt_of_le hi h.size) (fun e => by
    have := hr i e.symm
    omega)).trans (h.block i hi (by simp))⟩
section
variable {P : Program} {w : World}
theorem wpList_wanted {ops : Array Oper} {rest : List Oper} {o : Oper} {a : Act} {Q : Exit → Act → World → Prop} (hw : Region.wanted o (yielded ops a.tmps) = true)
    (h : ∀ K : Act → World → Prop, (∀ a w, wpList P ops Q rest a w → K a w) → o.wp P a w K Q) : wpList P ops Q (o :: rest) a w :=
  wpList_step fun K hK => by rw [if_pos hw]; exact h K hK
theorem wpList_append_own_g {ops : Array Oper} {rest : List Oper} {o : Oper} {a : Act} {Q : Exit → Act → World → Prop} (hgd : Region.wanted o (yielded ops a.tmps) = true) (s x : Operand) (t : TypeId)
    (ho : o.op = .call { callee := .builtin .append, args := #[s, x], argTypes := #[t, t] })
    (base : Nat) (e : TypeId) (i : TypeInfo) (z : Value) (size bytes : Nat) (ht : P.underlying t = some (.slice e)) (hi : P.info? e = some i) (hz : i.zero = some z)
    (hsize : i.size = size) (hby : i.bytes = bytes) (hzs : z.cells.size = size) (hsz : 0 < size)
    (v : Value) (n : Nat) (xs : List Value) (hs : a.eval s = v) (hown : w.ownsRow base e size v n xs)
    (ad : Addr) (m c : Nat) (news : List Value) (hx : a.eval x = .slice (some ad) m c) (hl : news.length = m * size) (hnews : ∀ j u, news[j]? = some u → w.cell? (ad.add j) = some u) (h1 : ∀ u ∈ news, u.oneCell' = true)
    (h63 : n + m ≤ maxLen) (hbytes : (n + m) * bytes ≤ 140737488355328) (hbase : base ≤ w.heap.size)
    (h : ∀ v' w', w'.ownsRow base e size v' (n + m) (xs ++ news) → w.grownBy w' v.ownBlock → (v' = .slice none 0 0 ↔ v = .slice none 0 0 ∧ m = 0) → wpList P ops Q rest (a.put o.dst v') w') : wpList P ops Q (o :: rest) a w :=
  wpList_wanted hgd fun _ hK => wp_append_own w s x t ho base e i z size bytes ht hi hz hsize hby hzs hsz v n xs hs hown ad m c news hx hl hnews h1 h63 hbytes hbase fun v' w' h2 h3 h4 => hK _ _ (h v' w' h2 h3 h4)
end

end Go.Proofs.YtcfnoihjpiklhaaDoor
