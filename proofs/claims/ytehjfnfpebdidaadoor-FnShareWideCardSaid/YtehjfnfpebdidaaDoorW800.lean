/- Small facts that the texts on wide instructions share. -/
import Derived.Test.YtehjfnfpebdidaaDoorW31
import Derived.Test.YtehjfnfpebdidaaDoorW1
import Derived.Test.YtehjfnfpebdidaaDoorW5
import Derived.ProofKit
import Derived.Laws.ResultCell
import Derived.Laws.IdiomStrings
import Derived.Laws.Concat
import Derived.BigQuiet
import Derived.BigRegion
import Derived.Deep.QuietTactic
import Derived.Deep.RegionHeld3
import Derived.Deep.Onto
import Derived.Deep.CutRange
import Derived.Deep.CutBlock
namespace Go.Proofs.YtehjfnfpebdidaaDoor
open Go.RowKit
set_option linter.unusedSimpArgs false
theorem wt_lt {w : World} (h : WT w) : 0 < w.heap.size := by
  obtain ⟨_, _, h⟩ := h
  exact (Array.getElem?_eq_some_iff.1 h).1
theorem cells9 : Tryd.prog.cellsOf 9 = 1 := by kernel_rfl
theorem cells3 : Tryd.prog.cellsOf 3 = 1 := by kernel_rfl
theorem below_then {W w w1 : World} (h : Below W.heap.size W w) (hb : Below w.heap.size w w1) : Below W.heap.size W w1 := h.trans (hb.mono h.size)
theorem eq_of_toList {x y : ByteArray} (h : x.toList = y.toList) : x = y := by
  rw [ByteArray.toList_eq, ByteArray.toList_eq] at h
  exact ByteArray.ext (Array.toList_inj.1 h)
theorem wordN_at0 : wordN [115, 101, 116] = 0 := by rfl
theorem wordN_at1 : wordN [97, 100, 100] = 1 := by rfl
theorem wordN_at2 : wordN [115, 117, 98] = 2 := by rfl
theorem wordN_at3 : wordN [109, 117, 108] = 3 := by rfl
theorem wordN_at4 : wordN [108, 116] = 4 := by rfl
theorem wordN_at5 : wordN [108, 100] = 5 := by rfl
theorem wordN_at6 : wordN [115, 116] = 6 := by rfl
theorem wordN_at7 : wordN [98, 122] = 7 := by rfl
theorem wordN_at8 : wordN [106, 109, 112] = 8 := by rfl
theorem wordN_at9 : wordN [104, 108, 116] = 9 := by rfl
theorem wordN_none (l : List UInt8) (h0 : (l == [115, 101, 116]) = false) (h1 : (l == [97, 100, 100]) = false) (h2 : (l == [115, 117, 98]) = false) (h3 : (l == [109, 117, 108]) = false) (h4 : (l == [108, 116]) = false) (h5 : (l == [108, 100]) = false) (h6 : (l == [115, 116]) = false) (h7 : (l == [98, 122]) = false) (h8 : (l == [106, 109, 112]) = false) (h9 : (l == [104, 108, 116]) = false) : wordN l = -1 := by
  simp only [beq_eq_false_iff_ne, ne_eq] at h0 h1 h2 h3 h4 h5 h6 h7 h8 h9
  simp [wordN, beq_iff_eq, eq_comm (b := l), h0, h1, h2, h3, h4, h5, h6, h7, h8, h9]
theorem wordN_range (l : List UInt8) : -1 ≤ wordN l ∧ wordN l ≤ 9 := by
  unfold wordN
  repeat' split
  all_goals omega
theorem toList_0 : (⟨#[115, 101, 116]⟩ : ByteArray).toList = [115, 101, 116] := by decide +kernel
theorem toList_1 : (⟨#[97, 100, 100]⟩ : ByteArray).toList = [97, 100, 100] := by decide +kernel
theorem toList_2 : (⟨#[115, 117, 98]⟩ : ByteArray).toList = [115, 117, 98] := by decide +kernel
theorem toList_3 : (⟨#[109, 117, 108]⟩ : ByteArray).toList = [109, 117, 108] := by decide +kernel
theorem toList_4 : (⟨#[108, 116]⟩ : ByteArray).toList = [108, 116] := by decide +kernel
theorem toList_5 : (⟨#[108, 100]⟩ : ByteArray).toList = [108, 100] := by decide +kernel
theorem toList_6 : (⟨#[115, 116]⟩ : ByteArray).toList = [115, 116] := by decide +kernel
theorem toList_7 : (⟨#[98, 122]⟩ : ByteArray).toList = [98, 122] := by decide +kernel
theorem toList_8 : (⟨#[106, 109, 112]⟩ : ByteArray).toList = [106, 109, 112] := by decide +kernel
theorem toList_9 : (⟨#[104, 108, 116]⟩ : ByteArray).toList = [104, 108, 116] := by decide +kernel
/-- Is it in a range? -/
def inB (n lo hi : Int) : Bool := decide (lo ≤ n) && decide (n ≤ hi)
set_option maxHeartbeats 400000 in
theorem inRange_any (n lo hi : Int) (w : World) :
    Calls Tryd.prog 36 #[.int .i64 n, .int .i64 lo, .int .i64 hi] w fun e w' => e = .returned (.bool (inB n lo hi)) ∧ w = w' := by
  go_enter Tryd.func36, Tryd.ntmps36
  go_wp2
  all_goals
    go_ret
    exact ⟨by simp [inB]; try omega, rfl⟩
theorem op_eq_0 (op : ByteArray) (h : (op.toList == [115, 101, 116]) = true) : op = ⟨#[115, 101, 116]⟩ := eq_of_toList ((beq_iff_eq.1 h).trans toList_0.symm)
theorem op_eq_1 (op : ByteArray) (h : (op.toList == [97, 100, 100]) = true) : op = ⟨#[97, 100, 100]⟩ := eq_of_toList ((beq_iff_eq.1 h).trans toList_1.symm)
theorem op_eq_2 (op : ByteArray) (h : (op.toList == [115, 117, 98]) = true) : op = ⟨#[115, 117, 98]⟩ := eq_of_toList ((beq_iff_eq.1 h).trans toList_2.symm)
theorem op_eq_3 (op : ByteArray) (h : (op.toList == [109, 117, 108]) = true) : op = ⟨#[109, 117, 108]⟩ := eq_of_toList ((beq_iff_eq.1 h).trans toList_3.symm)
theorem op_eq_4 (op : ByteArray) (h : (op.toList == [108, 116]) = true) : op = ⟨#[108, 116]⟩ := eq_of_toList ((beq_iff_eq.1 h).trans toList_4.symm)
theorem op_eq_5 (op : ByteArray) (h : (op.toList == [108, 100]) = true) : op = ⟨#[108, 100]⟩ := eq_of_toList ((beq_iff_eq.1 h).trans toList_5.symm)
theorem op_eq_6 (op : ByteArray) (h : (op.toList == [115, 116]) = true) : op = ⟨#[115, 116]⟩ := eq_of_toList ((beq_iff_eq.1 h).trans toList_6.symm)
theorem op_eq_7 (op : ByteArray) (h : (op.toList == [98, 122]) = true) : op = ⟨#[98, 122]⟩ := eq_of_toList ((beq_iff_eq.1 h).trans toList_7.symm)
theorem op_eq_8 (op : ByteArray) (h : (op.toList == [106, 109, 112]) = true) : op = ⟨#[106, 109, 112]⟩ := eq_of_toList ((beq_iff_eq.1 h).trans toList_8.symm)
theorem op_eq_9 (op : ByteArray) (h : (op.toList == [104, 108, 116]) = true) : op = ⟨#[104, 108, 116]⟩ := eq_of_toList ((beq_iff_eq.1 h).trans toList_9.symm)
theorem word_is (l : List UInt8) (n : Nat) (hn : n < 10) (hw : wordN l = n) : (n = 0 ∧ ([115, 101, 116] == l) = true) ∨ (n = 1 ∧ ([97, 100, 100] == l) = true) ∨ (n = 2 ∧ ([115, 117, 98] == l) = true) ∨ (n = 3 ∧ ([109, 117, 108] == l) = true) ∨ (n = 4 ∧ ([108, 116] == l) = true) ∨ (n = 5 ∧ ([108, 100] == l) = true) ∨ (n = 6 ∧ ([115, 116] == l) = true) ∨ (n = 7 ∧ ([98, 122] == l) = true) ∨ (n = 8 ∧ ([106, 109, 112] == l) = true) ∨ (n = 9 ∧ ([104, 108, 116] == l) = true) := by
  unfold wordN at hw
  repeat' split at hw
  all_goals first | (exfalso; omega) | skip
  · exact .inl ⟨by omega, by assumption⟩
  · exact .inr (.inl ⟨by omega, by assumption⟩)
  · exact .inr (.inr (.inl ⟨by omega, by assumption⟩))
  · exact .inr (.inr (.inr (.inl ⟨by omega, by assumption⟩)))
  · exact .inr (.inr (.inr (.inr (.inl ⟨by omega, by assumption⟩))))
  · exact .inr (.inr (.inr (.inr (.inr (.inl ⟨by omega, by assumption⟩)))))
  · exact .inr (.inr (.inr (.inr (.inr (.inr (.inl ⟨by omega, by assumption⟩))))))
  · exact .inr (.inr (.inr (.inr (.inr (.inr (.inr (.inl ⟨by omega, by assumption⟩)))))))
  · exact .inr (.inr (.inr (.inr (.inr (.inr (.inr (.inr (.inl ⟨by omega, by assumption⟩))))))))
  · exact .inr (.inr (.inr (.inr (.inr (.inr (.inr (.inr (.inr (⟨by omega, by assumption⟩)))))))))
/-- Is it the number of a register? -/
def regB (n : Int) : Bool := decide (0 ≤ n) && decide (n < 4)
/-- The word of an index. -/
def wT : Nat → ByteArray
  | 0 => ⟨#[115, 101, 116]⟩
  | 1 => ⟨#[97, 100, 100]⟩
  | 2 => ⟨#[115, 117, 98]⟩
  | 3 => ⟨#[109, 117, 108]⟩
  | 4 => ⟨#[108, 116]⟩
  | 5 => ⟨#[108, 100]⟩
  | 6 => ⟨#[115, 116]⟩
  | 7 => ⟨#[98, 122]⟩
  | 8 => ⟨#[106, 109, 112]⟩
  | _ => ⟨#[104, 108, 116]⟩
theorem wtCell {w : World} (h : WT w) (q : Nat) (hq : q < 10) : w.cell? ⟨0, q, none⟩ = some (.string (wT q)) := by
  obtain ⟨t, fr, h⟩ := h
  rw [cell_of_row w _ q wtCells t fr h]
  match q, hq with
  | 0, _ => rfl
  | 1, _ => rfl
  | 2, _ => rfl
  | 3, _ => rfl
  | 4, _ => rfl
  | 5, _ => rfl
  | 6, _ => rfl
  | 7, _ => rfl
  | 8, _ => rfl
  | 9, _ => rfl
theorem op_is (op : ByteArray) (n : Nat) (hn : n < 10) (hw : wordN op.toList = n) : op = wT n := by
  rcases word_is op.toList n hn hw with ⟨rfl, h⟩ | ⟨rfl, h⟩ | ⟨rfl, h⟩ | ⟨rfl, h⟩ | ⟨rfl, h⟩ | ⟨rfl, h⟩ | ⟨rfl, h⟩ | ⟨rfl, h⟩ | ⟨rfl, h⟩ | ⟨rfl, h⟩
  · exact op_eq_0 op (beq_iff_eq.2 (beq_iff_eq.1 h).symm)
  · exact op_eq_1 op (beq_iff_eq.2 (beq_iff_eq.1 h).symm)
  · exact op_eq_2 op (beq_iff_eq.2 (beq_iff_eq.1 h).symm)
  · exact op_eq_3 op (beq_iff_eq.2 (beq_iff_eq.1 h).symm)
  · exact op_eq_4 op (beq_iff_eq.2 (beq_iff_eq.1 h).symm)
  · exact op_eq_5 op (beq_iff_eq.2 (beq_iff_eq.1 h).symm)
  · exact op_eq_6 op (beq_iff_eq.2 (beq_iff_eq.1 h).symm)
  · exact op_eq_7 op (beq_iff_eq.2 (beq_iff_eq.1 h).symm)
  · exact op_eq_8 op (beq_iff_eq.2 (beq_iff_eq.1 h).symm)
  · exact op_eq_9 op (beq_iff_eq.2 (beq_iff_eq.1 h).symm)
theorem grown_set {w : World} (r o : Nat) (u : Value) : w.grownBy (w.setCell ⟨r, o, none⟩ u) (some r) := ⟨rfl, rfl, rfl, by simp, fun k _ hk => heap_setCell_other w ⟨r, o, none⟩ k u (fun e => hk (by simp [e]))⟩
theorem grown_alloc {a w : World} (h : a.grownBy w none) (o : Obj) : a.grownBy (w.alloc o) none := grown_same h (World.grownBy_alloc w o none)
/-- What measuring leaves: a number below 0, or one from which the length can be told. -/
def SzOk (n : Nat) (left : Int) (w : World) (e : Ending) (w' : World) : Prop := ∃ r : Int, e = .returned (.int .i64 r) ∧ (r < 0 ∨ (0 ≤ r ∧ r ≤ left - n)) ∧ w.grownBy w' none
theorem grown_drew1 (w : World) : w.grownBy w.drew none := ⟨rfl, rfl, rfl, Nat.le_refl _, fun _ _ _ => rfl⟩
theorem ret_b {x y : Bool} (h : x = y) : Ending.returned (.bool x) = .returned (.bool y) := by rw [h]
theorem grown_row {a b c : World} {row : Option Nat} (h : a.grownBy b none) (h' : b.grownBy c row) (hr : ∀ k, row = some k → a.heap.size ≤ k) : a.grownBy c none :=
  ⟨h'.os.trans h.os, h'.tape.trans h.tape, h'.output.trans h.output, Nat.le_trans h.size h'.size, fun i hi _ => (h'.block i (Nat.lt_of_lt_of_le hi h.size) (fun e => by
    have := hr i e.symm
    omega)).trans (h.block i hi (by simp))⟩
section
variable {P : Program} {w : World}
theorem wpList_wanted {ops : Array Oper} {rest : List Oper} {o : Oper} {a : Act} {Q : Exit → Act → World → Prop} (hw : Region.wanted o (yielded ops a.tmps) = true)
    (h : ∀ K : Act → World → Prop, (∀ a w, wpList P ops Q rest a w → K a w) → o.wp P a w K Q) : wpList P ops Q (o :: rest) a w :=
  wpList_step fun K hK => by rw [if_pos hw]; exact h K hK
theorem wpList_append_own_g {ops : Array Oper} {rest : List Oper} {o : Oper} {a : Act} {Q : Exit → Act → World → Prop} (hgd : Region.wanted o (yielded ops a.tmps) = true) (s x : Operand) (t : TypeId)
    (ho : o.op = .call { callee := .builtin .append, args := #[s, x], argTypes := #[t, t] })
    (base : Nat) (e : TypeId) (i : TypeInfo) (z : Value) (size bytes : Nat) (ht : P.underlying t = some (.slice e)) (hi : P.info? e = some i) (hz : i.zero = some z)
    (hsize : i.size = size) (hby : i.bytes = bytes) (hzs : z.cells.size = size) (hsz : 0 < size)
    (v : Value) (n : Nat) (xs : List Value) (hs : a.eval s = v) (hown : w.ownsRow base e size v n xs)
    (ad : Addr) (m c : Nat) (news : List Value) (hx : a.eval x = .slice (some ad) m c) (hl : news.length = m * size) (hnews : ∀ j u, news[j]? = some u → w.cell? (ad.add j) = some u) (h1 : ∀ u ∈ news, u.oneCell' = true)
    (h63 : n + m ≤ maxLen) (hbytes : (n + m) * bytes ≤ 140737488355328) (hbase : base ≤ w.heap.size)
    (h : ∀ v' w', w'.ownsRow base e size v' (n + m) (xs ++ news) → w.grownBy w' v.ownBlock → (v' = .slice none 0 0 ↔ v = .slice none 0 0 ∧ m = 0) → wpList P ops Q rest (a.put o.dst v') w') : wpList P ops Q (o :: rest) a w :=
  wpList_wanted hgd fun _ hK => wp_append_own w s x t ho base e i z size bytes ht hi hz hsize hby hzs hsz v n xs hs hown ad m c news hx hl hnews h1 h63 hbytes hbase fun v' w' h2 h3 h4 => hK _ _ (h v' w' h2 h3 h4)
end
theorem size_one (b : UInt8) (s : ByteArray) : (ByteArray.append ⟨#[b]⟩ s).size = s.size + 1 := by
  have : ((⟨#[b]⟩ : ByteArray) ++ s).size = (⟨#[b]⟩ : ByteArray).size + s.size := ByteArray.size_append
  rw [show ByteArray.append ⟨#[b]⟩ s = (⟨#[b]⟩ : ByteArray) ++ s from rfl, this]
  show 1 + s.size = s.size + 1
  omega
theorem grown_then_some {a b c : World} {g : Nat} (h : a.grownBy b (some g)) (h' : b.grownBy c none) : a.grownBy c (some g) :=
  ⟨h'.os.trans h.os, h'.tape.trans h.tape, h'.output.trans h.output, Nat.le_trans h.size h'.size, fun i hi hne => (h'.block i (Nat.lt_of_lt_of_le hi h.size) (by simp)).trans (h.block i hi hne)⟩
set_option maxHeartbeats 2000000 in
theorem markText_any (k : Int) (w : World) (h0 : 0 < k) (h1 : k ≤ 100000000) :
    Calls Tryd.prog 32 #[.int .i64 k] w fun e w' => ∃ s : ByteArray, e = .returned (.string s) ∧ w.grownBy w' none := by
  go_enter Tryd.func32, Tryd.ntmps32
  go_wp2
  go_loopw [0, 3] (fun x t wr => ∃ (kk : Int) (s : ByteArray), x = .int .i64 kk ∧ t = .string s ∧ 0 ≤ kk ∧ (s.size : Int) + kk ≤ 100000000 ∧ w.grownBy wr none) (fun x _ _ => (intOf x).toNat)
  case atStart => exact ⟨k, ⟨#[]⟩, rfl, rfl, by omega, by show (0 : Int) + k ≤ 100000000; omega, World.grownBy.refl _ _⟩
  case round =>
    obtain ⟨kk, s, rfl, rfl, hk0, hk1, hg⟩ := hrel
    have HG := shade hg
    clear hg
    by_cases hp : 0 < kk
    · obtain ⟨d, hd⟩ : ∃ d : UInt8, (d.toNat : Int) = 48 + kk % 10 := ⟨UInt8.ofNat (48 + kk % 10).toNat, by
        simp only [UInt8.toNat_ofNat']
        omega⟩
      have hcv : ∀ W : World, W.cell? ⟨wr.heap.size, 0, none⟩ = some (.int .u8 (48 + kk % 10)) → (convert 22 9 (.slice (some ⟨wr.heap.size, 0, none⟩) 1 1)).run Tryd.prog W = .ok (.string ⟨#[d]⟩) W := fun W hW =>
        run_convert_bytes_back (P := Tryd.prog) W 22 9 5 ⟨wr.heap.size, 0, none⟩ 1 [d] Tryd.underlying22 Tryd.underlying5 Tryd.underlying9 (fun j hj => by
          have : j = 0 := by simpa using hj
          subst this
          rw [Addr.add_lit]
          simpa [hd] using hW)
      have hcv2 := hcv (wr.alloc (.cells #[.int .u8 (48 + kk % 10)] 5)) (by rw [World.cell?_alloc_new]; rfl)
      have hadd := fun W : World => run_string_add_sum (P := Tryd.prog) W ⟨#[d]⟩ s (by
        show 1 + s.size ≤ _
        omega)
      clear hcv
      go_wp2
      go_roundw
      case rel =>
        refine ⟨kk / 10, _, rfl, rfl, by omega, ?_, grown_alloc HG.out _⟩
        have e := size_one d s
        have e2 : ((⟨#[d]⟩ : ByteArray) ++ s).size = s.size + 1 := e
        rw [e2]
        omega
      case measure =>
        clear hcv2 hadd
        simp [intOf]
        omega
    · have hz : kk = 0 := by omega
      subst hz
      have hadd := fun W : World => run_string_add_sum (P := Tryd.prog) W ⟨#[109]⟩ s (by
        show 1 + s.size ≤ _
        omega)
      go_wp2
      go_ret
      exact ⟨⟨_, rfl⟩, HG.out⟩
theorem tm_bounds (x : Int) : -256 < Int.tmod x 256 ∧ Int.tmod x 256 < 256 ∧ (Int.tmod x 256 + 256) % 256 = x % 256 := by
  have h := Int.mul_tdiv_add_tmod x 256
  by_cases hx : 0 ≤ x
  · have h1 := Int.tmod_nonneg 256 hx
    have h2 := Int.tmod_lt_of_pos x (show (0 : Int) < 256 by omega)
    omega
  · have h1 := Int.tmod_nonneg 256 (show 0 ≤ -x by omega)
    have h2 := Int.tmod_lt_of_pos (-x) (show (0 : Int) < 256 by omega)
    rw [Int.neg_tmod] at h1 h2
    omega
set_option maxHeartbeats 1000000 in
theorem rest_any (x : Int) (w : World) : Calls Tryd.prog 38 #[.int .i64 x] w fun e w' => e = .returned (.int .i64 (x % 256)) ∧ w = w' := by
  obtain ⟨h1, h2, ht⟩ := tm_bounds x
  have HT := shade ht
  clear ht
  generalize hy : Int.tmod x 256 = y at *
  have h3 : 0 ≤ y + 256 := by omega
  go_enter Tryd.func38, Tryd.ntmps38
  go_wp2
  refine bodyPost_ret (results_tmp rfl _ _ _) rfl ⟨?_, rfl⟩
  rw [← HT.out]
  rfl
/-- What a word makes of two numbers. -/
def opVal (n : Nat) (x y : Int) : Int := if n = 1 then (x + y) % 256 else if n = 2 then (x - y) % 256 else if n = 3 then (x * y) % 256 else if x < y then 1 else 0
set_option maxHeartbeats 1000000 in
theorem workOut_any (n : Nat) (x y : Int) (w : World) (hn : n = 1 ∨ n = 2 ∨ n = 3 ∨ n = 4) (x0 : 0 ≤ x) (x1 : x ≤ 255) (y0 : 0 ≤ y) (y1 : y ≤ 255) :
    Calls Tryd.prog 28 #[.int .i64 n, .int .i64 x, .int .i64 y] w fun e w' => e = .returned (.int .i64 (opVal n x y)) ∧ w = w' := by
  have m0 : 0 ≤ x * y := Int.mul_nonneg x0 y0
  have m1 : x * y ≤ 255 * 255 := Int.mul_le_mul x1 y1 y0 (by omega)
  have m2 : x * y ≤ 65025 := m1
  clear m1
  rcases hn with rfl | rfl | rfl | rfl
  · have hv : opVal 1 x y = (x + y) % 256 := rfl
    rw [hv]
    clear hv m0 m2
    go_enter Tryd.func28, Tryd.ntmps28
    go_wp2_with fail
    refine (rest_any _ _).mono ?_
    rintro e w' ⟨rfl, rfl⟩
    go_wp2
    go_ret
    exact ⟨rfl, rfl⟩
  · have hv : opVal 2 x y = (x - y) % 256 := rfl
    rw [hv]
    clear hv m0 m2
    go_enter Tryd.func28, Tryd.ntmps28
    go_wp2_with fail
    refine (rest_any _ _).mono ?_
    rintro e w' ⟨rfl, rfl⟩
    go_wp2
    go_ret
    exact ⟨rfl, rfl⟩
  · have hv : opVal 3 x y = (x * y) % 256 := rfl
    rw [hv]
    clear hv
    go_enter Tryd.func28, Tryd.ntmps28
    go_wp2_with fail
    refine (rest_any _ _).mono ?_
    rintro e w' ⟨rfl, rfl⟩
    go_wp2
    go_ret
    exact ⟨rfl, rfl⟩
  · clear m0 m2
    by_cases h : x < y
    · have hv : opVal 4 x y = 1 := if_pos h
      rw [hv]
      clear hv
      go_enter Tryd.func28, Tryd.ntmps28
      go_wp2
      go_ret
      exact ⟨rfl, rfl⟩
    · have hv : opVal 4 x y = 0 := if_neg h
      rw [hv]
      clear hv
      have h : y ≤ x := by omega
      go_enter Tryd.func28, Tryd.ntmps28
      go_wp2
      go_ret
      exact ⟨rfl, rfl⟩
theorem wrap63 (a : Nat) (h : a < 2 ^ 63) : IntKind.i64.wrap (a : Int) = (a : Int) := by
  simp [IntKind.wrap, IntKind.bits, IntKind.signed]
  omega
theorem wrap64_63 (a : Nat) (h : a < 2 ^ 63) : wrap64 (a : Int) = (a : Int) := by
  unfold wrap64
  omega
theorem and_nat (a b : Nat) (ha : a < 2 ^ 63) (hb : b < 2 ^ 63) : bits .and .i64 (a : Int) (b : Int) = ((a &&& b : Nat) : Int) := by
  unfold bits
  simp
  show IntKind.i64.wrap ((a % 2 ^ 64 &&& b % 2 ^ 64 : Nat) : Int) = _
  rw [Nat.mod_eq_of_lt (by omega), Nat.mod_eq_of_lt (by omega)]
  exact wrap63 _ (Nat.lt_of_le_of_lt Nat.and_le_left ha)
theorem or_nat (a b : Nat) (ha : a < 2 ^ 63) (hb : b < 2 ^ 63) : bits .or .i64 (a : Int) (b : Int) = ((a ||| b : Nat) : Int) := by
  unfold bits
  simp
  show IntKind.i64.wrap ((a % 2 ^ 64 ||| b % 2 ^ 64 : Nat) : Int) = _
  rw [Nat.mod_eq_of_lt (by omega), Nat.mod_eq_of_lt (by omega)]
  exact wrap63 _ (Nat.or_lt_two_pow ha hb)
theorem pow40 {t : Nat} (h : t ≤ 40) : 2 ^ t ≤ 2 ^ 40 := Nat.pow_le_pow_right (by omega) h
theorem set_ext {n a b : Nat} (ha : a < 2 ^ n) (hb : b < 2 ^ n) (h : ∀ t, t < n → a.testBit t = b.testBit t) : a = b := by
  refine Nat.eq_of_testBit_eq (fun t => ?_)
  by_cases ht : t < n
  · exact h t ht
  · rw [Nat.testBit_lt_two_pow (Nat.lt_of_lt_of_le ha (Nat.pow_le_pow_right (by omega) (by omega))), Nat.testBit_lt_two_pow (Nat.lt_of_lt_of_le hb (Nat.pow_le_pow_right (by omega) (by omega)))]
theorem info3n : (Tryd.prog.info? 3).map (fun i => (i.zero, i.size, i.bytes)) = some (some (.int .i64 0), 1, 8) := by kernel_rfl
theorem made_nums (n : Nat) : (madeCells #[Value.int .i64 0] n).toList = numL n (fun _ => 0) := by
  rw [toList_madeCells_one]
  unfold numL
  rw [List.map_const', List.length_range]
/-- What a call leaves that makes a row of numbers. -/
def NumRes (k : Nat) (f : Nat → Int) (w : World) (e : Ending) (w' : World) : Prop :=
  ∃ v, e = .returned v ∧ w'.ownsRow w.heap.size 3 1 v k (numL k f) ∧ w.grownBy w' none
theorem ownsRow_slice {w : World} {B : Nat} {e : TypeId} {z : Nat} {v : Value} {n : Nat} {xs : List Value} (h : w.ownsRow B e z v n xs) : ∃ A c, v = .slice A n c ∧ ∀ b off, A = some ⟨b, off, none⟩ → B ≤ b ∧ b < w.heap.size := by
  rcases h.2 with ⟨e, h0⟩ | ⟨g', c, cur, e, hb, hw, hrest⟩
  · exact ⟨none, 0, by rw [e, h0], by intro _ _ e; cases e⟩
  · have hh := h
    subst e
    have hlt := World.ownsRow.lt hh g' rfl
    exact ⟨some ⟨g', 0, none⟩, c, rfl, by intro b off e; injection e with e; injection e with e1 e2; subst e1; exact hlt⟩
theorem ownsRow_on {w w' : World} {B : Nat} {e : TypeId} {z : Nat} {v : Value} {n : Nat} {xs : List Value} (h : w.ownsRow B e z v n xs) (hg : w.grownBy w' none) : w'.ownsRow B e z v n xs :=
  World.ownsRow.kept h hg (Classical.em _)
theorem numL_snoc (k : Nat) (f : Nat → Int) : numL k f ++ [.int .i64 (f k)] = numL (k + 1) f := by
  unfold numL
  rw [List.range_succ, List.map_append]
  rfl
theorem int_new (w : World) (t : TypeId) (x : Int) : ∀ j u, ([.int .i64 x] : List Value)[j]? = some u → (w.alloc (.cells #[.int .i64 x] t)).cell? ((⟨w.heap.size, 0, none⟩ : Addr).add j) = some u := by
  intro j u h
  rw [Addr.add_lit, Nat.zero_add, World.cell?_alloc_new]
  simpa using h
theorem int_one (x : Int) : ∀ u ∈ ([.int .i64 x] : List Value), u.oneCell' = true := by
  intro u hu
  simp only [List.mem_cons, List.not_mem_nil, or_false] at hu
  rw [hu]
  rfl
/-- A row that a call has made, in a stretch of memory. -/
structure RowO (wr : World) (lo hi : Nat) (e : TypeId) (v : Value) (K : Nat) (xs : List Value) : Prop where
  own : wr.ownsRow lo e 1 v K xs
  hib : ∀ i, v.ownBlock = some i → i < hi
section
variable {w w' wr w2 : World} {lo hi : Nat} {e : TypeId} {v : Value} {K : Nat} {xs : List Value}
theorem RowO.rng (h : RowO wr lo hi e v K xs) {i : Nat} (hi' : v.ownBlock = some i) : lo ≤ i ∧ i < hi := ⟨(World.ownsRow.lt h.own i hi').1, h.hib i hi'⟩
theorem RowO.grown (h : RowO wr lo hi e v K xs) (hg : wr.grownBy w2 none) : RowO w2 lo hi e v K xs := ⟨ownsRow_on h.own hg, h.hib⟩
theorem RowO.row {row : Option Nat} (h : RowO wr lo hi e v K xs) (hg : wr.grownBy w2 row) (hb : ∀ b, row = some b → b < lo ∨ hi ≤ b) : RowO w2 lo hi e v K xs := by
  refine ⟨?_, h.hib⟩
  rcases hv : v.ownBlock with _ | i
  · exact World.ownsRow.kept h.own hg (.inl hv)
  · refine World.ownsRow.kept h.own hg (.inr fun e' => ?_)
    rw [hv] at e'
    have h1 := h.rng hv
    have h2 := hb i e'.symm
    omega
theorem RowO.nums {f : Nat → Int} (h : RowO wr lo hi 3 v K (numL K f)) : ∃ A c, v = .slice A K c ∧ Nums wr A K f := by
  rcases h.own.2 with ⟨e', h0⟩ | ⟨g', cap', cur, e', _⟩
  · exact ⟨none, 0, by rw [e', h0], .inl h0⟩
  · have ho := h.own
    rw [e'] at ho
    exact ⟨some ⟨g', 0, none⟩, cap', e', Own.nums ho⟩
/-- Where the row lies, a block may be changed: what lies elsewhere stays. -/
theorem RowO.other (h : RowO wr lo hi e v K xs) {b : Nat} (hb : b < lo ∨ hi ≤ b) : v.ownBlock ≠ some b := fun e' => by
  have := h.rng e'
  omega
end
theorem NumRes.row {k : Nat} {f : Nat → Int} {w w' : World} {e : Ending} (h : NumRes k f w e w') : ∃ v, e = .returned v ∧ RowO w' w.heap.size w'.heap.size 3 v k (numL k f) ∧ w.grownBy w' none := by
  obtain ⟨v, he, ho, hg⟩ := h
  exact ⟨v, he, ⟨ho, fun i hi => (World.ownsRow.lt ho i hi).2⟩, hg⟩
theorem markIntS_row (lo hi K : Nat) (v : Value) (f : Nat → Int) (m : Int) (w : World) (hm0 : 0 ≤ m) (hm : m + K ≤ 9223372036854775807) (h : RowO w lo hi 3 v K (numL K f)) :
    Calls Tryd.prog 17 #[v, .int .i64 m] w fun e w' => e = .returned (.int .i64 (m + K)) ∧ RowO w' lo hi 3 v K (numL K (fun j => m + (j : Int))) ∧ w.grownBy w' v.ownBlock := by
  rcases h.own.2 with ⟨e', h0⟩ | ⟨g', cap', cur, e', _⟩
  · subst e'
    subst h0
    refine (markIntS_zero none 0 m w).mono ?_
    rintro e w' ⟨rfl, rfl⟩
    exact ⟨by simp, ⟨h.own, h.hib⟩, grown_refl _ _⟩
  · have ho := h.own
    have hb := h.hib
    subst e'
    refine (markIntS_at lo g' K cap' f m w hm0 hm ho).mono ?_
    rintro e w' ⟨rfl, h1, h2⟩
    exact ⟨rfl, ⟨h1, hb⟩, h2⟩
theorem heldIntS_row (lo hi K : Nat) (v : Value) (m : Int) (w : World) (hm0 : 0 ≤ m) (hm : m + K ≤ 9223372036854775807) (h : RowO w lo hi 3 v K (numL K (fun j => m + (j : Int)))) :
    Calls Tryd.prog 19 #[v, .int .i64 m] w fun e w' => e = .returned (.int .i64 (m + K)) ∧ w = w' := by
  obtain ⟨A, c, rfl, hn⟩ := h.nums
  exact heldIntS_any A K c m w hm0 hm hn
theorem eqIntS_row (lo1 hi1 lo2 hi2 K : Nat) (v1 v2 : Value) (f : Nat → Int) (w : World) (hK : K ≤ 300) (h1 : RowO w lo1 hi1 3 v1 K (numL K f)) (h2 : RowO w lo2 hi2 3 v2 K (numL K f)) :
    Calls Tryd.prog 15 #[v1, v2] w fun e w' => e = .returned (.bool true) ∧ w.grownBy w' none := by
  obtain ⟨A1, c1, rfl, hn1⟩ := h1.nums
  obtain ⟨A2, c2, rfl, hn2⟩ := h2.nums
  refine (eqIntS_any A1 A2 c1 c2 K f f w (by omega) hn1 hn2 (fun _ _ => rfl)).mono ?_
  rintro e w' ⟨rfl, m, rfl⟩
  exact ⟨rfl, grown_drewN (grown_refl _ _) _⟩
/-- Numbers as cells. -/
def valI (l : List Int) : List Value := l.map (Value.int .i64)
theorem numL_valI (l : List Int) : numL l.length (fun j => l.getD j 0) = valI l := by
  unfold numL valI
  apply List.ext_getElem
  · simp
  · intro i h1 h2
    have hi : i < l.length := by simpa using h1
    simp [hi]
theorem valI_snoc (l : List Int) (x : Int) : valI l ++ [.int .i64 x] = valI (l ++ [x]) := by
  unfold valI
  rw [List.map_append]
  rfl
/-- What a call leaves that makes these numbers. -/
def IntRes (l : List Int) (w : World) (e : Ending) (w' : World) : Prop :=
  ∃ v, e = .returned v ∧ w'.ownsRow w.heap.size 3 1 v l.length (valI l) ∧ w.grownBy w' none
theorem IntRes.num {l : List Int} {w w' : World} {e : Ending} (h : IntRes l w e w') : NumRes l.length (fun j => l.getD j 0) w e w' := by
  obtain ⟨v, he, ho, hg⟩ := h
  exact ⟨v, he, by rw [numL_valI]; exact ho, hg⟩
theorem IntRes.nil (w w' : World) (hg : w.grownBy w' none) : IntRes [] w (.returned (.slice none 0 0)) w' := ⟨_, rfl, World.ownsRow_nil _ _ _ _, hg⟩
theorem IntRes.after {l : List Int} {w w1 w2 : World} {e : Ending} (hg : w.grownBy w1 none) (h : IntRes l w1 e w2) : IntRes l w e w2 := by
  obtain ⟨v, he, ho, h2⟩ := h
  exact ⟨v, he, World.ownsRow.mono ho hg.size, grown_same hg h2⟩
end Go.Proofs.YtehjfnfpebdidaaDoor
