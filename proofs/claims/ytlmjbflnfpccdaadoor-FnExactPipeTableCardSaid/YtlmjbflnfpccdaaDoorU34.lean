/- The pipe, by the program. -/
import Derived.Test.YtlmjbflnfpccdaaDoorG30
import Derived.Test.YtlmjbflnfpccdaaDoorU33
import Derived.Test.YtlmjbflnfpccdaaDoorG13
import Derived.Deep.AppendLies
namespace Go.Proofs.YtlmjbflnfpccdaaDoor
open Go.RowKit
set_option linter.unusedSimpArgs false
theorem own_not_held {W : World} {B : Nat} {e t : TypeId} {z : Nat} {v : Value} {n : Nat} {xs : List Value} {g : Nat} {cs : Array Value} (h : W.ownsRow B e z v n xs) (h' : Holds5 W g t cs) (ht : e ≠ t) : v.ownBlock ≠ some g := by
  intro hb
  rcases h.2 with ⟨e1, h0⟩ | ⟨g', c, cur, e1, _, hw, _⟩
  · rw [e1] at hb
    cases hb
  · rw [e1] at hb
    have a1 : g' = g := by injection hb
    subst a1
    unfold Holds5 at h'
    rw [hw] at h'
    injection h' with h1
    injection h1 with h2 h3
    exact ht h3
theorem lft_shift {R : Int} {w : Nat → Int} {lo n k : Nat} (h : lo + n = k) : ∀ t, t ≤ n → lft R (fun j => w (lo + j)) n t = lft R w k t
  | 0, _ => rfl
  | t + 1, ht => by
    show bits .andNot .i64 (lft R (fun j => w (lo + j)) n t) (w (lo + (n - 1 - t))) = bits .andNot .i64 (lft R w k t) (w (k - 1 - t))
    rw [lft_shift h t (by omega), show lo + (n - 1 - t) = k - 1 - t by omega]
/-- What whenThere tells is the tick. -/
theorem there_is {F : Nat → Ins} {J : Nat → Bool} {fw : Bool} {k lo n : Nat} {f' : Nat → Int} (hlo : k - 3 = lo) (hn : k - lo = n) (hv : ∀ j, j ≤ k → vI (F j) = true) (hf : ∀ j, j < n → f' j = pk F J fw (lo + j)) :
    sx (st J (pk F J fw) k) (wlI (F k) (fun j => F (lo + j)) fw n) (fun t => f' (n - 1 - t)) n = pk F J fw k := by
  have h := pk_back (J := J) (fw := fw) hv
  rw [hlo, hn] at h
  rw [← h]
  refine sx_congr fun t ht => ⟨?_, ?_⟩
  · unfold wlI wl
    dsimp only
    have e : lo + (n - 1 - t) = k - 1 - t := by omega
    rw [lft_shift (w := fun j => wrI (F j)) (k := k) (by omega) t (by omega)]
    simp only [e]
  · show f' (n - 1 - t) = pk F J fw (k - 1 - t)
    rw [hf _ (by omega), show lo + (n - 1 - t) = k - 1 - t by omega]
theorem Code.sub {W : World} {b off n : Nat} {F : Nat → Ins} (h : Code W (some ⟨b, off, none⟩) n F) (lo m : Nat) (hm : lo + m ≤ n) : Code W (some ⟨b, off + lo * 5, none⟩) m (fun j => F (lo + j)) := by
  by_cases h0 : m = 0
  · exact .inl h0
  · obtain ⟨b', off', e, hb, hc⟩ := h.resolve_left (by omega)
    injection e with e
    injection e with e1 e2
    subst e1 e2
    refine .inr ⟨b, _, rfl, hb, fun j i hj hi => ?_⟩
    rw [show off + lo * 5 + j * 5 + i = off + (lo + j) * 5 + i by omega]
    exact hc (lo + j) i (by omega) hi
theorem Nums.sub {W : World} {b off n : Nat} {f : Nat → Int} (h : Nums W (some ⟨b, off, none⟩) n f) (lo m : Nat) (hm : lo + m ≤ n) {f' : Nat → Int} (hf : ∀ j, j < m → f' j = f (lo + j)) : Nums W (some ⟨b, off + lo, none⟩) m f' := by
  by_cases h0 : m = 0
  · exact .inl h0
  · obtain ⟨b', off', e, hb, hc⟩ := h.resolve_left (by omega)
    injection e with e
    injection e with e1 e2
    subst e1 e2
    refine .inr ⟨b, _, rfl, hb, fun j hj => ?_⟩
    rw [show off + lo + j = off + (lo + j) by omega, hf j hj]
    exact hc (lo + j) (by omega)
/-- The ticks from which on is read, and those at which is worked out, and the box of both. -/
structure Pps (w wr : World) (B : Nat) (rv wv : Value) (kr kw : Nat) (rd f : Nat → Int) : Prop where
  box : Holds5 wr B 56 #[rv, wv]
  r : wr.ownsRow w.heap.size 3 1 rv kr (numL kr rd)
  wk : wr.ownsRow w.heap.size 3 1 wv kw (numL kw f)
  sep : ∀ b, rv.ownBlock = some b → wv.ownBlock ≠ some b
  low : w.grownBy wr none
  ge : w.heap.size < B
  res : Holds5 wr w.heap.size 56 #[.slice none 0 0, .slice none 0 0]
section
variable {w wr w2 : World} {B : Nat} {rv wv : Value} {kr kw : Nat} {rd f : Nat → Int}
theorem Pps.grown (h : Pps w wr B rv wv kr kw rd f) (hg : wr.grownBy w2 none) : Pps w w2 B rv wv kr kw rd f :=
  ⟨h.box.grown hg (by intro e; cases e), ownsRow_on h.r hg, ownsRow_on h.wk hg, h.sep, grown_same h.low hg, h.ge, h.res.grown hg (by intro e; cases e)⟩
theorem Pps.app0 (h : Pps w wr B rv wv kr kw rd f) {g c : Nat} (ho : w2.ownsRow w.heap.size 3 1 (.slice (some ⟨g, 0, none⟩) (kr + 1) c) (kr + 1) (numL (kr + 1) rd)) (hg : wr.grownBy w2 rv.ownBlock) (hat : rv.ownBlock = some g ∨ g = wr.heap.size) :
    Pps w (w2.setCell ⟨B, 0, none⟩ (.slice (some ⟨g, 0, none⟩) (kr + 1) c)) B (.slice (some ⟨g, 0, none⟩) (kr + 1) c) wv (kr + 1) kw rd f := by
  have hBr := own_not_held h.r h.box (by decide)
  have hBw := own_not_held h.wk h.box (by decide)
  have hBl := h.box.inside
  have hgB : g ≠ B := fun e => by
    rcases hat with h1 | h1
    · exact hBr (by rw [h1, e])
    · omega
  have hb2 := h.box.grown hg (fun e => hBr e.symm)
  have hw2 : w2.ownsRow w.heap.size 3 1 wv kw (numL kw f) := by
    rcases e : rv.ownBlock with _ | r
    · rw [e] at hg
      exact ownsRow_on h.wk hg
    · exact World.ownsRow.kept h.wk hg (.inr (by rw [e]; exact h.sep r e))
  refine ⟨by simpa using hb2.put 0 (.slice (some ⟨g, 0, none⟩) (kr + 1) c), World.ownsRow.kept ho (grown_set B 0 _) (.inr (fun e => by injection e with e; exact hgB e)), World.ownsRow.kept hw2 (grown_set B 0 _) (.inr hBw), fun b hb => ?_, grown_then (grown_row' h.low hg (fun r e => (World.ownsRow.lt h.r r e).1)) (grown_set B 0 _) (Nat.le_of_lt h.ge), h.ge, (h.res.grown hg (fun e => own_not_held h.r h.res (by decide) e.symm)).other (p := ⟨B, 0, none⟩) (by have := h.ge; show w.heap.size ≠ B; omega) _⟩
  have hb' : g = b := by injection hb
  subst hb'
  rcases hat with h1 | h1
  · exact h.sep g h1
  · intro e
    have := (World.ownsRow.lt h.wk g e).2
    omega
theorem Pps.app1 (h : Pps w wr B rv wv kr kw rd f) {g c : Nat} (ho : w2.ownsRow w.heap.size 3 1 (.slice (some ⟨g, 0, none⟩) (kw + 1) c) (kw + 1) (numL (kw + 1) f)) (hg : wr.grownBy w2 wv.ownBlock) (hat : wv.ownBlock = some g ∨ g = wr.heap.size) :
    Pps w (w2.setCell ⟨B, 1, none⟩ (.slice (some ⟨g, 0, none⟩) (kw + 1) c)) B rv (.slice (some ⟨g, 0, none⟩) (kw + 1) c) kr (kw + 1) rd f := by
  have hBr := own_not_held h.r h.box (by decide)
  have hBw := own_not_held h.wk h.box (by decide)
  have hBl := h.box.inside
  have hgB : g ≠ B := fun e => by
    rcases hat with h1 | h1
    · exact hBw (by rw [h1, e])
    · omega
  have hb2 := h.box.grown hg (fun e => hBw e.symm)
  have hw2 : w2.ownsRow w.heap.size 3 1 rv kr (numL kr rd) := by
    rcases e : wv.ownBlock with _ | r
    · rw [e] at hg
      exact ownsRow_on h.r hg
    · refine World.ownsRow.kept h.r hg (.inr (by rw [e]; exact fun e' => h.sep r e' e))
  refine ⟨by simpa using hb2.put 1 (.slice (some ⟨g, 0, none⟩) (kw + 1) c), World.ownsRow.kept hw2 (grown_set B 1 _) (.inr hBr), World.ownsRow.kept ho (grown_set B 1 _) (.inr (fun e => by injection e with e; exact hgB e)), fun b hb hb2 => ?_, grown_then (grown_row' h.low hg (fun r e => (World.ownsRow.lt h.wk r e).1)) (grown_set B 1 _) (Nat.le_of_lt h.ge), h.ge, (h.res.grown hg (fun e => own_not_held h.wk h.res (by decide) e.symm)).other (p := ⟨B, 1, none⟩) (by have := h.ge; show w.heap.size ≠ B; omega) _⟩
  have hb' : g = b := by injection hb2
  subst hb'
  rcases hat with h1 | h1
  · exact h.sep g hb h1
  · have := (World.ownsRow.lt h.r g hb).2
    omega
end
/-- The first ticks at which is read. -/
def rdP (J : Nat → Bool) (f : Nat → Int) (k : Nat) : Int := st J f k - 1
/-- What is left by a function that answers a pipe, and whether it is one. -/
def PipRes (n : Nat) (rd f : Nat → Int) (ok : Bool) (w : World) (e : Ending) (w' : World) : Prop :=
  ∃ rv wv, e = .returned (.tuple #[.agg #[rv, wv], .bool ok]) ∧ w'.ownsRow w.heap.size 3 1 rv n (numL n rd) ∧ w'.ownsRow w.heap.size 3 1 wv n (numL n f) ∧ w.grownBy w' none
theorem ownsRow_caps {w : World} {B n : Nat} {A : Option Addr} {c : Nat} {xs : List Value} {e : TypeId} (h : w.ownsRow B e 1 (.slice A n c) n xs) : n ≤ c := by
  rcases h.2 with ⟨e1, h0⟩ | ⟨g, cap, cur, e1, _, _, hc, _⟩
  · omega
  · injection e1 with _ _ e3
    omega
set_option maxRecDepth 100000 in
set_option maxHeartbeats 16000000 in
theorem pipeOf_at (b off m c : Nat) (F : Nat → Ins) (AJ : Option Addr) (cj : Nat) (J : Nat → Bool) (fw : Bool) (w : World) (hw : WT w) (hc : m ≤ c) (hv : vpB m F m = true) (h : Code w (some ⟨b, off, none⟩) m F) (hj : Bols w AJ m J) :
    Calls Tryd.prog 43 #[.slice (some ⟨b, off, none⟩) m c, .slice AJ m cj, .bool fw] w (PipRes m (rdP J (pk F J fw)) (pk F J fw) true w) := by
  obtain ⟨h3, -, hI⟩ := vpB_yes hv
  have HM := shade (fun W (hW : WT W) (hC : Code W (some ⟨b, off, none⟩) m F) => mayPass_any (some ⟨b, off, none⟩) m c F AJ m cj W hW (by omega) hC)
  rw [hv] at HM
  have hw0 := hw.alloc (.cells #[.slice none 0 0, .slice none 0 0] 56)
  have hg0 := World.grownBy_alloc w (.cells #[.slice none 0 0, .slice none 0 0] 56) none
  have hc0 := h.on hg0
  have HG0 := shade hg0
  have HX0 := shade (Holds5.fresh w 56 #[.slice none 0 0, .slice none 0 0])
  have hz0 : (w.alloc (.cells #[.slice none 0 0, .slice none 0 0] 56)).heap.size = w.heap.size + 1 := by simp
  clear hg0
  have HR := shade (pk_rng F J fw)
  have HTH := shade (fun k (hk : k < m) lo n f' h1 h2 h3 => there_is (F := F) (J := J) (fw := fw) (k := k) (lo := lo) (n := n) (f' := f') h1 h2 (fun j hj => hI j (by omega)) h3)
  obtain ⟨f, hf⟩ : ∃ f, pk F J fw = f := ⟨_, rfl⟩
  rw [hf] at HR HTH ⊢
  clear hf
  obtain ⟨rd, hrd⟩ : ∃ rd, rdP J f = rd := ⟨_, rfl⟩
  have HRD := shade (show rd 0 = 1 ∧ ∀ k, rd (k + 1) = f k + (if J k = true then 2 else 0) from ⟨by rw [← hrd]; rfl, fun k => by
    rw [← hrd]
    show (if k + 1 = 0 then (2 : Int) else f (k + 1 - 1) + 1 + (if J (k + 1 - 1) = true then 2 else 0)) - 1 = _
    rw [if_neg (by omega), show k + 1 - 1 = k from rfl]
    omega⟩)
  have HST := shade (show ∀ k, st J f k = rd k + 1 from fun k => by
    rw [← hrd]
    show _ = st J f k - 1 + 1
    omega)
  rw [hrd]
  clear hrd
  have HRR := shade (show ∀ k, k ≤ m → 1 ≤ rd k ∧ rd k ≤ 950 from fun k hk => by
    rcases k with _ | q
    · rw [HRD.out.1]; omega
    · rw [HRD.out.2 q]
      have := HR.out q
      split <;> omega)
  have HC := shade h; have HBJ := shade hj; have HI := shade hI; have HW := shade hw
  clear h hj hI hw hv
  obtain ⟨i1, hi1, hy0, hy1, hy2⟩ := info_parts info3p
  have HJ := shade (And.intro hi1 (And.intro hy0 (And.intro hy1 hy2)))
  clear hi1 hy0 hy1 hy2
  go_enter Tryd.func43, Tryd.ntmps43
  go_wp2_with fail
  refine (HM.out _ hw0 hc0).mono ?_
  rintro e w1 ⟨rfl, hg⟩
  have HG := shade (grown_same HG0.out hg)
  have hX1 := HX0.out.grown hg (by intro e; cases e)
  have hs1 := hg.size
  clear hg HM hw0 hc0 HG0 HX0
  have L0 := shade (show Pps w (w1.alloc (.cells #[.slice none 0 0, .slice none 0 0] 56)) w1.heap.size (.slice none 0 0) (.slice none 0 0) 0 0 rd f from ⟨Holds5.fresh _ _ _, World.ownsRow_nil _ _ _ _, World.ownsRow_nil _ _ _ _, fun _ h => (by cases h), grown_same HG.out (World.grownBy_alloc _ _ none), by omega, hX1.alloc _⟩)
  go_wp2_with fail
  go_loopw [9, 21] (fun v q wr => ∃ (k : Nat) (rv wv : Value), k ≤ m ∧ q = .int .i64 (k : Int) ∧ v = .int .i64 (rd k) ∧ Pps w wr w1.heap.size rv wv k k rd f ∧ (k = 0 → rv = .slice none 0 0 ∧ wv = .slice none 0 0)) (fun _ q _ => m - (intOf q).toNat)
  case atStart => exact ⟨0, _, _, Nat.zero_le _, rfl, by rw [HRD.out.1], L0.out, fun _ => ⟨rfl, rfl⟩⟩
  case round =>
    clear L0
    obtain ⟨k, rv, wv, hk, rfl, rfl, hp, hnil⟩ := hrel
    have HP := shade hp
    obtain ⟨A1, c1, rfl, -⟩ := ownsRow_slice hp.r
    obtain ⟨A2, c2, rfl, -⟩ := ownsRow_slice hp.wk
    have hcap := ownsRow_caps hp.wk
    clear hp
    by_cases hkm : k < m
    · obtain ⟨q0, q1, q2, q3, q4⟩ := (HC.out.on HP.out.low).five hkm
      have kq : (k : Int) < (m : Int) := by omega
      have kq0 : (0 : Int) ≤ (k : Int) := by omega
      have hrk := HRR.out k (by omega)
      have hrk1 := HRR.out (k + 1) (by omega)
      have hfk := HR.out k
      obtain ⟨lo, hlo⟩ : ∃ lo, k - 3 = lo := ⟨_, rfl⟩
      obtain ⟨nn, hnn⟩ : ∃ nn, k - lo = nn := ⟨_, rfl⟩
      have hln : lo + nn = k := by omega
      have hn3 : nn ≤ 3 := by omega
      have HWH := shade (fun W (hW : w.grownBy W none) (A' : Option Addr) (hC : Code W A' nn (fun j => F (lo + j))) (AW : Option Addr) (cw : Nat) (hN : Nums W AW nn (fun j => if lo + j < 300 then f (lo + j) else 0)) => whenThere_any (F k) (rd k + 1) A' nn nn (fun j => F (lo + j)) AW cw (fun j => if lo + j < 300 then f (lo + j) else 0) fw W (HW.out.below (below_of_grown hW) (wt_lt HW.out)) hn3 (HI.out k hkm) (fun j hj => HI.out (lo + j) (by omega)) (by omega) (fun j => by
        have := HR.out (lo + j)
        split <;> omega) hC hN)
      have hth := HTH.out k hkm lo nn (fun j => if lo + j < 300 then f (lo + j) else 0) hlo hnn (fun j hj => if_pos (by omega))
      rw [HST.out k] at hth
      rw [hth] at HWH
      clear hth
      have HSB := shade (fun W (hW : w.grownBy W none) => (HC.out.on hW).sub lo nn (by omega))
      have HRK := shade (HRD.out.2 k)
      generalize hz : rd k = z at *
      have HZ := shade hz
      generalize hz2 : f k = y at *
      have HY := shade hz2
      clear hz hz2
      generalize F k = cc at *
      obtain ⟨op, d, a, b', kk⟩ := cc
      dsimp only at q0 q1 q2 q3 q4 HWH
      have hx0 := (Holds5.fresh wr 53 #[.string op, .int .i64 d, .int .i64 a, .int .i64 b', .int .i64 kk])
      have HPA := shade (HP.out.grown (World.grownBy_alloc wr (.cells #[.string op, .int .i64 d, .int .i64 a, .int .i64 b', .int .i64 kk] 53) none))
      have HB5 := shade hx0
      have HCC := shade (show (wr.alloc (.cells #[.string op, .int .i64 d, .int .i64 a, .int .i64 b', .int .i64 kk] 53)).drew.cell? ⟨w1.heap.size, 1, none⟩ = some (.slice A2 k c2) ∧ (wr.alloc (.cells #[.string op, .int .i64 d, .int .i64 a, .int .i64 b', .int .i64 kk] 53)).drew.cell? ⟨wr.heap.size, 0, none⟩ = some (.string op) ∧ (wr.alloc (.cells #[.string op, .int .i64 d, .int .i64 a, .int .i64 b', .int .i64 kk] 53)).drew.cell? ⟨wr.heap.size, 1, none⟩ = some (.int .i64 d) ∧ (wr.alloc (.cells #[.string op, .int .i64 d, .int .i64 a, .int .i64 b', .int .i64 kk] 53)).drew.cell? ⟨wr.heap.size, 2, none⟩ = some (.int .i64 a) ∧ (wr.alloc (.cells #[.string op, .int .i64 d, .int .i64 a, .int .i64 b', .int .i64 kk] 53)).drew.cell? ⟨wr.heap.size, 3, none⟩ = some (.int .i64 b') ∧ (wr.alloc (.cells #[.string op, .int .i64 d, .int .i64 a, .int .i64 b', .int .i64 kk] 53)).drew.cell? ⟨wr.heap.size, 4, none⟩ = some (.int .i64 kk) from ⟨HPA.out.box.look 1, HB5.out.look 0, HB5.out.look 1, HB5.out.look 2, HB5.out.look 3, HB5.out.look 4⟩)
      have HNW := shade (fun (W : World) (hW : (wr.alloc (.cells #[.string op, .int .i64 d, .int .i64 a, .int .i64 b', .int .i64 kk] 53)).grownBy W none) => (show RowO W w.heap.size W.heap.size 3 (.slice A2 k c2) k (numL k f) from ⟨(HPA.out.grown hW).wk, fun i hi => (World.ownsRow.lt (HPA.out.grown hW).wk i hi).2⟩).nums)
      clear hx0
      obtain ⟨jb, jo, rfl, hjb, -⟩ := HBJ.out.resolve_left (by omega)
      have hwz : IntKind.i64.wrap (z + 1) = z + 1 := by rw [IntKind.wrap_i64]; omega
      by_cases hl3 : (0 : Int) < (k : Int) - 3
      · obtain rfl : k = lo + 3 := by omega
        obtain rfl : nn = 3 := by omega
        obtain ⟨A2', c2', e2, hN2⟩ := HNW.out _ (grown_drew1 _)
        injection e2 with e2 _ e3
        subst e2 e3
        obtain ⟨g2, o2, rfl, -⟩ := hN2.resolve_left (by omega)
        have HS2 := shade (hN2.sub lo 3 (by omega) (f' := fun j => if lo + j < 300 then f (lo + j) else 0) (fun j hj => if_pos (by omega)))
        have HS1 := shade HSB.out
        clear hN2 hln hnn hlo hnil HSB
        have s0 : (0 : Int) ≤ (lo : Int) := by omega
        have s1 : (lo : Int) ≤ (lo : Int) + 3 := by omega
        have s2 : (lo : Int) + 3 ≤ (c : Int) := by omega
        have s3 : (lo : Int) + 3 ≤ (c2 : Int) := by omega
        have s4 : ((lo : Int) + 3).toNat = lo + 3 := by omega
        have s5 : ¬ lo + 3 = lo := by omega
        have s6 : lo + 3 - lo = 3 := by omega
        go_wp2_with fail
        refine wp_region_held_drew (S := fun w' => w'.cell? ⟨w1.heap.size, 1, none⟩ = some (.slice (some ⟨g2, o2, none⟩) (lo + 3) c2) ∧ w'.cell? ⟨wr.heap.size, 0, none⟩ = some (.string op) ∧ w'.cell? ⟨wr.heap.size, 1, none⟩ = some (.int .i64 d) ∧ w'.cell? ⟨wr.heap.size, 2, none⟩ = some (.int .i64 a) ∧ w'.cell? ⟨wr.heap.size, 3, none⟩ = some (.int .i64 b') ∧ w'.cell? ⟨wr.heap.size, 4, none⟩ = some (.int .i64 kk)) (by kernel_rfl) (HCC.out) (fun hHeld => ?_)
        refine wpAnyH_take (i := 0) (oi := { dst := some 29, op := Op.load 53 (Operand.tmp 11), type := 53, pos := "c8_pipe.go:96", after := #[], guard := none }) (v := ?_) rfl (by kernel_rfl) (by kernel_rfl) (by kernel_rfl) (fun _ _ _ h => h) (Or.inl ⟨by rfl, ?_⟩) (by assumption) ?_
        rotate_left
        · intro w' hSw
          (try dsimp only at hSw); obtain ⟨v0', v1', v2', v3', v4', v5'⟩ := hSw
          go_simp
          try with_reducible rfl
        try simp only [Act.put, List.setIfInBounds_toArray, List.set_cons_zero, List.set_cons_succ]
        refine wpAnyH_take (i := 1) (oi := { dst := some 30, op := Op.move (Operand.tmp 9), type := 3, pos := "c8_pipe.go:96", after := #[], guard := none }) (v := ?_) rfl (by kernel_rfl) (by kernel_rfl) (by kernel_rfl) (fun _ _ _ h => h) (Or.inl ⟨by rfl, ?_⟩) (by assumption) ?_
        rotate_left
        · intro w' hSw
          (try dsimp only at hSw); obtain ⟨v0', v1', v2', v3', v4', v5'⟩ := hSw
          go_simp
          try with_reducible rfl
        try simp only [Act.put, List.setIfInBounds_toArray, List.set_cons_zero, List.set_cons_succ]
        refine wpAnyH_take (i := 2) (oi := { dst := some 31, op := Op.binOp BinOp.add 3 (Operand.tmp 30) (Operand.const (Value.int IntKind.i64 1)) 3, type := 3, pos := "c8_pipe.go:96", after := #[{ on := 1, ground := Ground.data }], guard := none }) (v := ?_) rfl (by kernel_rfl) (by kernel_rfl) (by kernel_rfl) (fun _ _ _ h => h) (Or.inl ⟨by rfl, ?_⟩) (by assumption) ?_
        rotate_left
        · intro w' hSw
          (try dsimp only at hSw); obtain ⟨v0', v1', v2', v3', v4', v5'⟩ := hSw
          go_simp
          try with_reducible rfl
        try simp only [Act.put, List.setIfInBounds_toArray, List.set_cons_zero, List.set_cons_succ]
        refine wpAnyH_take (i := 3) (oi := { dst := some 32, op := Op.move (Operand.tmp 0), type := 27, pos := "c8_pipe.go:96", after := #[], guard := none }) (v := ?_) rfl (by kernel_rfl) (by kernel_rfl) (by kernel_rfl) (fun _ _ _ h => h) (Or.inl ⟨by rfl, ?_⟩) (by assumption) ?_
        rotate_left
        · intro w' hSw
          (try dsimp only at hSw); obtain ⟨v0', v1', v2', v3', v4', v5'⟩ := hSw
          go_simp
          try with_reducible rfl
        try simp only [Act.put, List.setIfInBounds_toArray, List.set_cons_zero, List.set_cons_succ]
        refine wpAnyH_take (i := 4) (oi := { dst := some 33, op := Op.move (Operand.tmp 12), type := 3, pos := "c8_pipe.go:96", after := #[], guard := none }) (v := ?_) rfl (by kernel_rfl) (by kernel_rfl) (by kernel_rfl) (fun _ _ _ h => h) (Or.inl ⟨by rfl, ?_⟩) (by assumption) ?_
        rotate_left
        · intro w' hSw
          (try dsimp only at hSw); obtain ⟨v0', v1', v2', v3', v4', v5'⟩ := hSw
          go_simp
          try with_reducible rfl
        try simp only [Act.put, List.setIfInBounds_toArray, List.set_cons_zero, List.set_cons_succ]
        refine wpAnyH_take (i := 5) (oi := { dst := some 34, op := Op.move (Operand.tmp 10), type := 3, pos := "c8_pipe.go:96", after := #[], guard := none }) (v := ?_) rfl (by kernel_rfl) (by kernel_rfl) (by kernel_rfl) (fun _ _ _ h => h) (Or.inl ⟨by rfl, ?_⟩) (by assumption) ?_
        rotate_left
        · intro w' hSw
          (try dsimp only at hSw); obtain ⟨v0', v1', v2', v3', v4', v5'⟩ := hSw
          go_simp
          try with_reducible rfl
        try simp only [Act.put, List.setIfInBounds_toArray, List.set_cons_zero, List.set_cons_succ]
        refine wpAnyH_take (i := 6) (oi := { dst := some 35, op := Op.move (Operand.tmp 10), type := 3, pos := "c8_pipe.go:96", after := #[], guard := none }) (v := ?_) rfl (by kernel_rfl) (by kernel_rfl) (by kernel_rfl) (fun _ _ _ h => h) (Or.inl ⟨by rfl, ?_⟩) (by assumption) ?_
        rotate_left
        · intro w' hSw
          (try dsimp only at hSw); obtain ⟨v0', v1', v2', v3', v4', v5'⟩ := hSw
          go_simp
          try with_reducible rfl
        try simp only [Act.put, List.setIfInBounds_toArray, List.set_cons_zero, List.set_cons_succ]
        refine wpAnyH_take (i := 7) (oi := { dst := some 36, op := Op.slice 27 (Operand.tmp 32) (some (Operand.tmp 33)) (some (Operand.tmp 34)) (some (Operand.tmp 35)), type := 27, pos := "c8_pipe.go:96", after := #[{ on := 3, ground := Ground.data }, { on := 4, ground := Ground.data }, { on := 5, ground := Ground.data }, { on := 6, ground := Ground.data }], guard := none }) (v := ?_) rfl (by kernel_rfl) (by kernel_rfl) (by kernel_rfl) (fun _ _ _ h => h) (Or.inl ⟨by rfl, ?_⟩) (by assumption) ?_
        rotate_left
        · intro w' hSw
          (try dsimp only at hSw); obtain ⟨v0', v1', v2', v3', v4', v5'⟩ := hSw
          go_simp
          try with_reducible rfl
        try simp only [Act.put, List.setIfInBounds_toArray, List.set_cons_zero, List.set_cons_succ]
        refine wpAnyH_take (i := 8) (oi := { dst := some 37, op := Op.fieldAddr 56 (Operand.tmp 8) 1, type := 0, pos := "c8_pipe.go:96", after := #[], guard := none }) (v := ?_) rfl (by kernel_rfl) (by kernel_rfl) (by kernel_rfl) (fun _ _ _ h => h) (Or.inl ⟨by rfl, ?_⟩) (by assumption) ?_
        rotate_left
        · intro w' hSw
          (try dsimp only at hSw); obtain ⟨v0', v1', v2', v3', v4', v5'⟩ := hSw
          go_simp
          try with_reducible rfl
        try simp only [Act.put, List.setIfInBounds_toArray, List.set_cons_zero, List.set_cons_succ]
        refine wpAnyH_take (i := 9) (oi := { dst := some 38, op := Op.load 25 (Operand.tmp 37), type := 25, pos := "c8_pipe.go:96", after := #[{ on := 8, ground := Ground.data }], guard := none }) (v := ?_) rfl (by kernel_rfl) (by kernel_rfl) (by kernel_rfl) (fun _ _ _ h => h) (Or.inl ⟨by rfl, ?_⟩) (by assumption) ?_
        rotate_left
        · intro w' hSw
          (try dsimp only at hSw); obtain ⟨v0', v1', v2', v3', v4', v5'⟩ := hSw
          go_simp
          try with_reducible rfl
        try simp only [Act.put, List.setIfInBounds_toArray, List.set_cons_zero, List.set_cons_succ]
        refine wpAnyH_take (i := 10) (oi := { dst := some 39, op := Op.move (Operand.tmp 12), type := 3, pos := "c8_pipe.go:96", after := #[], guard := none }) (v := ?_) rfl (by kernel_rfl) (by kernel_rfl) (by kernel_rfl) (fun _ _ _ h => h) (Or.inl ⟨by rfl, ?_⟩) (by assumption) ?_
        rotate_left
        · intro w' hSw
          (try dsimp only at hSw); obtain ⟨v0', v1', v2', v3', v4', v5'⟩ := hSw
          go_simp
          try with_reducible rfl
        try simp only [Act.put, List.setIfInBounds_toArray, List.set_cons_zero, List.set_cons_succ]
        refine wpAnyH_take (i := 11) (oi := { dst := some 40, op := Op.move (Operand.tmp 10), type := 3, pos := "c8_pipe.go:96", after := #[], guard := none }) (v := ?_) rfl (by kernel_rfl) (by kernel_rfl) (by kernel_rfl) (fun _ _ _ h => h) (Or.inl ⟨by rfl, ?_⟩) (by assumption) ?_
        rotate_left
        · intro w' hSw
          (try dsimp only at hSw); obtain ⟨v0', v1', v2', v3', v4', v5'⟩ := hSw
          go_simp
          try with_reducible rfl
        try simp only [Act.put, List.setIfInBounds_toArray, List.set_cons_zero, List.set_cons_succ]
        refine wpAnyH_take (i := 12) (oi := { dst := some 41, op := Op.move (Operand.tmp 10), type := 3, pos := "c8_pipe.go:96", after := #[], guard := none }) (v := ?_) rfl (by kernel_rfl) (by kernel_rfl) (by kernel_rfl) (fun _ _ _ h => h) (Or.inl ⟨by rfl, ?_⟩) (by assumption) ?_
        rotate_left
        · intro w' hSw
          (try dsimp only at hSw); obtain ⟨v0', v1', v2', v3', v4', v5'⟩ := hSw
          go_simp
          try with_reducible rfl
        try simp only [Act.put, List.setIfInBounds_toArray, List.set_cons_zero, List.set_cons_succ]
        refine wpAnyH_take (i := 13) (oi := { dst := some 42, op := Op.slice 25 (Operand.tmp 38) (some (Operand.tmp 39)) (some (Operand.tmp 40)) (some (Operand.tmp 41)), type := 25, pos := "c8_pipe.go:96", after := #[{ on := 9, ground := Ground.data }, { on := 10, ground := Ground.data }, { on := 11, ground := Ground.data }, { on := 12, ground := Ground.data }], guard := none }) (v := ?_) rfl (by kernel_rfl) (by kernel_rfl) (by kernel_rfl) (fun _ _ _ h => h) (Or.inl ⟨by rfl, ?_⟩) (by assumption) ?_
        rotate_left
        · intro w' hSw
          (try dsimp only at hSw); obtain ⟨v0', v1', v2', v3', v4', v5'⟩ := hSw
          go_simp
          try with_reducible rfl
        try simp only [Act.put, List.setIfInBounds_toArray, List.set_cons_zero, List.set_cons_succ]
        refine wpAnyH_take (i := 14) (oi := { dst := some 43, op := Op.move (Operand.tmp 2), type := 4, pos := "c8_pipe.go:96", after := #[], guard := none }) (v := ?_) rfl (by kernel_rfl) (by kernel_rfl) (by kernel_rfl) (fun _ _ _ h => h) (Or.inl ⟨by rfl, ?_⟩) (by assumption) ?_
        rotate_left
        · intro w' hSw
          (try dsimp only at hSw); obtain ⟨v0', v1', v2', v3', v4', v5'⟩ := hSw
          go_simp
          try with_reducible rfl
        try simp only [Act.put, List.setIfInBounds_toArray, List.set_cons_zero, List.set_cons_succ]
        refine wpAnyH_ready (rs := [15]) (by kernel_rfl) (by simp) ?_
        refine AllReadyH.cons (o := { dst := some 44, op := Op.call { callee := Callee.value (Operand.func 56), args := #[Operand.tmp 29, Operand.tmp 31, Operand.tmp 36, Operand.tmp 42, Operand.tmp 43], argTypes := #[53, 3, 27, 25, 4] }, type := 3, pos := "c8_pipe.go:96", after := #[{ on := 0, ground := Ground.data }, { on := 2, ground := Ground.data }, { on := 7, ground := Ground.data }, { on := 13, ground := Ground.data }, { on := 14, ground := Ground.data }], guard := none }) rfl (fun K hK => ?_) ?_
        · go_simp
          go_at_call 56
          (try simp only [hwz])
          refine (HWH.out _ (grown_same HPA.out.low (grown_drew1 _)) _ (HS1.out _ (grown_same HPA.out.low (grown_drew1 _))) _ _ HS2.out).mono ?_
          rintro e w3 ⟨rfl, hg3⟩
          obtain ⟨h0, h1, h2, h3, h4, h5⟩ := HCC.out
          have HCC3 := shade (And.intro (hg3.cell h0 (by intro e; cases e)) (And.intro (hg3.cell h1 (by intro e; cases e)) (And.intro (hg3.cell h2 (by intro e; cases e)) (And.intro (hg3.cell h3 (by intro e; cases e)) (And.intro (hg3.cell h4 (by intro e; cases e)) (hg3.cell h5 (by intro e; cases e)))))))
          have HP3 := shade (HPA.out.grown (grown_same (grown_drew1 _) hg3))
          clear hg3 h0 h1 h2 h3 h4 h5
          refine hK.out _ _ ?_ (fun hHeld => ?_)
          · (try dsimp only)
            first | exact HCC3.out | exact HCC.out
          clear hK K
          try simp only [Act.put, List.setIfInBounds_toArray, List.set_cons_zero, List.set_cons_succ]
          refine wpAnyH_ready (rs := [16]) (by kernel_rfl) (by simp) ?_
          refine AllReadyH.cons (o := { dst := some 13, op := Op.assign (Operand.tmp 44), type := 3, pos := "c8_pipe.go:96", after := #[{ on := 15, ground := Ground.data }, { on := 15, ground := Ground.chain }, { on := 0, ground := Ground.phase }, { on := 1, ground := Ground.phase }, { on := 2, ground := Ground.phase }, { on := 3, ground := Ground.phase }, { on := 4, ground := Ground.phase }, { on := 5, ground := Ground.phase }, { on := 6, ground := Ground.phase }, { on := 7, ground := Ground.phase }, { on := 8, ground := Ground.phase }, { on := 9, ground := Ground.phase }, { on := 10, ground := Ground.phase }, { on := 11, ground := Ground.phase }, { on := 12, ground := Ground.phase }, { on := 13, ground := Ground.phase }, { on := 14, ground := Ground.phase }, { on := 15, ground := Ground.phase }], guard := none }) rfl (fun K hK => ?_) ?_
          · go_simp
            refine hK.out _ _ ?_ (fun hHeld => ?_)
            · (try dsimp only)
              first | exact HCC3.out | exact HCC.out
            clear hK K
            try simp only [Act.put, List.setIfInBounds_toArray, List.set_cons_zero, List.set_cons_succ]
            refine wpAnyH_done (by kernel_rfl) ?_ _
            clear hHeld
            have b0 := HP3.out.box.look 0
            simp at b0
            go_wp2_with (first
              | (at_builtin; refine wpList_append_lies _ rfl _ _ 25 rfl w.heap.size 3 i1 (.int .i64 0) 1 8 Tryd.underlying25 HJ.out.1 HJ.out.2.1 HJ.out.2.2.1 HJ.out.2.2.2 rfl (by decide) _ _ _ rfl (World.ownsRow.alloc HP3.out.r _) ⟨w3.heap.size, 0, none⟩ 1 1 [.int .i64 z] rfl rfl (int_new _ _ _) (int_one _) (by omega) (by unfold maxLen; omega) (by omega) (by have := HP3.out.low.size; simp at this ⊢; omega) _ rfl ?_)
              | go_in)
            intro g8 c8 w8 hown8 hgr8 hat8 hlt8
            rw [numL_snoc' _ rd _ HZ.out] at hown8
            have hpa := HP3.out.grown (World.grownBy_alloc w3 (.cells #[.int .i64 z] 3) none)
            have hbx8 := hpa.box.grown hgr8 (fun e => own_not_held hpa.r hpa.box (by decide) e.symm)
            have f8 := hbx8.free 0
            have b80 := hbx8.look 0
            have b81 := hbx8.look 1
            simp at b80 b81
            have HP8 := shade (hpa.app0 hown8 hgr8 (by simpa using hat8))
            clear hown8 hgr8 hat8 hlt8 hbx8 hpa b0
            have HNEW := shade (int_new (w8.setCell ⟨w1.heap.size, 0, none⟩ (.slice (some ⟨g8, 0, none⟩) ((lo + 3) + 1) c8)) 3 y)
            rw [show (w8.setCell ⟨w1.heap.size, 0, none⟩ (.slice (some ⟨g8, 0, none⟩) ((lo + 3) + 1) c8)).heap.size = w8.heap.size by simp] at HNEW
            go_wp2_with (first
              | (at_builtin; refine wpList_append_lies _ rfl _ _ 25 rfl w.heap.size 3 i1 (.int .i64 0) 1 8 Tryd.underlying25 HJ.out.1 HJ.out.2.1 HJ.out.2.2.1 HJ.out.2.2.2 rfl (by decide) _ _ _ rfl (World.ownsRow.alloc HP8.out.wk _) ⟨w8.heap.size, 0, none⟩ 1 1 [.int .i64 y] rfl rfl (HNEW.out) (int_one _) (by omega) (by unfold maxLen; omega) (by omega) (by have := HP8.out.low.size; simp at this ⊢; omega) _ rfl ?_)
              | go_in)
            intro g9 c9 w9 hown9 hgr9 hat9 hlt9
            rw [numL_snoc' _ f _ HY.out] at hown9
            have hpb := HP8.out.grown (World.grownBy_alloc _ (.cells #[.int .i64 y] 3) none)
            have hbx9 := hpb.box.grown hgr9 (fun e => own_not_held hpb.wk hpb.box (by decide) e.symm)
            have f9 := hbx9.free 1
            have b90 := hbx9.look 0
            have b91 := hbx9.look 1
            simp at b90 b91
            have cj9 := (bols_on HBJ.out (grown_row' hpb.low hgr9 (fun r e => (World.ownsRow.lt hpb.wk r e).1))).cell hkm
            have HP9 := shade (hpb.app1 hown9 hgr9 (by simpa using hat9))
            clear hown9 hgr9 hat9 hlt9 hbx9 hpb f8 b80 b81
            have d1 : ¬ jb = w1.heap.size := by have := HG.out.size; omega
            have HRK2 := shade HRK.out
            obtain ⟨jv, hjk⟩ : ∃ jv, J (lo + 3) = jv := ⟨_, rfl⟩
            rw [hjk] at cj9 HRK2
            clear hjk
            rcases jv with _ | _
            all_goals
              go_wp2_with fail
              go_roundw
              case rel => exact ⟨(lo + 3) + 1, _, _, by omega, by go_num, (by rw [HRK2.out]; simp), HP9.out, fun e => by omega⟩
              case measure => simp [intOf]; omega
          exact AllReadyH.nil
        exact AllReadyH.nil
      · obtain rfl : lo = 0 := by omega
        obtain rfl : nn = k := by omega
        have HS1 := shade (fun W (hW : w.grownBy W none) => show Code W (some ⟨b, off, none⟩) nn (fun j => F (0 + j)) from by
          have h := HSB.out W hW
          rwa [Nat.zero_mul, Nat.add_zero] at h)
        have s2 : (nn : Int) ≤ (c : Int) := by omega
        have s3 : (nn : Int) ≤ (c2 : Int) := by omega
        rcases nn with _ | q
        · obtain ⟨e1, e2⟩ := hnil rfl
          injection e1 with e1a e1b e1c
          injection e2 with e2a e2b e2c
          subst e1a e1c e2a e2c
          have HS2 := shade (fun (W : World) => show Nums W none 0 (fun j => if 0 + j < 300 then f (0 + j) else 0) from .inl rfl)
          clear hln hnn hlo hnil HSB
          rw [Nat.zero_mul, Nat.add_zero] at q0 q1 q2 q3 q4
          go_wp2_with fail
          refine wp_region_held_drew (S := fun w' => w'.cell? ⟨w1.heap.size, 1, none⟩ = some (.slice none 0 0) ∧ w'.cell? ⟨wr.heap.size, 0, none⟩ = some (.string op) ∧ w'.cell? ⟨wr.heap.size, 1, none⟩ = some (.int .i64 d) ∧ w'.cell? ⟨wr.heap.size, 2, none⟩ = some (.int .i64 a) ∧ w'.cell? ⟨wr.heap.size, 3, none⟩ = some (.int .i64 b') ∧ w'.cell? ⟨wr.heap.size, 4, none⟩ = some (.int .i64 kk)) (by kernel_rfl) (HCC.out) (fun hHeld => ?_)
          refine wpAnyH_take (i := 0) (oi := { dst := some 29, op := Op.load 53 (Operand.tmp 11), type := 53, pos := "c8_pipe.go:96", after := #[], guard := none }) (v := ?_) rfl (by kernel_rfl) (by kernel_rfl) (by kernel_rfl) (fun _ _ _ h => h) (Or.inl ⟨by rfl, ?_⟩) (by assumption) ?_
          rotate_left
          · intro w' hSw
            (try dsimp only at hSw); obtain ⟨v0', v1', v2', v3', v4', v5'⟩ := hSw
            go_simp
            try with_reducible rfl
          try simp only [Act.put, List.setIfInBounds_toArray, List.set_cons_zero, List.set_cons_succ]
          refine wpAnyH_take (i := 1) (oi := { dst := some 30, op := Op.move (Operand.tmp 9), type := 3, pos := "c8_pipe.go:96", after := #[], guard := none }) (v := ?_) rfl (by kernel_rfl) (by kernel_rfl) (by kernel_rfl) (fun _ _ _ h => h) (Or.inl ⟨by rfl, ?_⟩) (by assumption) ?_
          rotate_left
          · intro w' hSw
            (try dsimp only at hSw); obtain ⟨v0', v1', v2', v3', v4', v5'⟩ := hSw
            go_simp
            try with_reducible rfl
          try simp only [Act.put, List.setIfInBounds_toArray, List.set_cons_zero, List.set_cons_succ]
          refine wpAnyH_take (i := 2) (oi := { dst := some 31, op := Op.binOp BinOp.add 3 (Operand.tmp 30) (Operand.const (Value.int IntKind.i64 1)) 3, type := 3, pos := "c8_pipe.go:96", after := #[{ on := 1, ground := Ground.data }], guard := none }) (v := ?_) rfl (by kernel_rfl) (by kernel_rfl) (by kernel_rfl) (fun _ _ _ h => h) (Or.inl ⟨by rfl, ?_⟩) (by assumption) ?_
          rotate_left
          · intro w' hSw
            (try dsimp only at hSw); obtain ⟨v0', v1', v2', v3', v4', v5'⟩ := hSw
            go_simp
            try with_reducible rfl
          try simp only [Act.put, List.setIfInBounds_toArray, List.set_cons_zero, List.set_cons_succ]
          refine wpAnyH_take (i := 3) (oi := { dst := some 32, op := Op.move (Operand.tmp 0), type := 27, pos := "c8_pipe.go:96", after := #[], guard := none }) (v := ?_) rfl (by kernel_rfl) (by kernel_rfl) (by kernel_rfl) (fun _ _ _ h => h) (Or.inl ⟨by rfl, ?_⟩) (by assumption) ?_
          rotate_left
          · intro w' hSw
            (try dsimp only at hSw); obtain ⟨v0', v1', v2', v3', v4', v5'⟩ := hSw
            go_simp
            try with_reducible rfl
          try simp only [Act.put, List.setIfInBounds_toArray, List.set_cons_zero, List.set_cons_succ]
          refine wpAnyH_take (i := 4) (oi := { dst := some 33, op := Op.move (Operand.tmp 12), type := 3, pos := "c8_pipe.go:96", after := #[], guard := none }) (v := ?_) rfl (by kernel_rfl) (by kernel_rfl) (by kernel_rfl) (fun _ _ _ h => h) (Or.inl ⟨by rfl, ?_⟩) (by assumption) ?_
          rotate_left
          · intro w' hSw
            (try dsimp only at hSw); obtain ⟨v0', v1', v2', v3', v4', v5'⟩ := hSw
            go_simp
            try with_reducible rfl
          try simp only [Act.put, List.setIfInBounds_toArray, List.set_cons_zero, List.set_cons_succ]
          refine wpAnyH_take (i := 5) (oi := { dst := some 34, op := Op.move (Operand.tmp 10), type := 3, pos := "c8_pipe.go:96", after := #[], guard := none }) (v := ?_) rfl (by kernel_rfl) (by kernel_rfl) (by kernel_rfl) (fun _ _ _ h => h) (Or.inl ⟨by rfl, ?_⟩) (by assumption) ?_
          rotate_left
          · intro w' hSw
            (try dsimp only at hSw); obtain ⟨v0', v1', v2', v3', v4', v5'⟩ := hSw
            go_simp
            try with_reducible rfl
          try simp only [Act.put, List.setIfInBounds_toArray, List.set_cons_zero, List.set_cons_succ]
          refine wpAnyH_take (i := 6) (oi := { dst := some 35, op := Op.move (Operand.tmp 10), type := 3, pos := "c8_pipe.go:96", after := #[], guard := none }) (v := ?_) rfl (by kernel_rfl) (by kernel_rfl) (by kernel_rfl) (fun _ _ _ h => h) (Or.inl ⟨by rfl, ?_⟩) (by assumption) ?_
          rotate_left
          · intro w' hSw
            (try dsimp only at hSw); obtain ⟨v0', v1', v2', v3', v4', v5'⟩ := hSw
            go_simp
            try with_reducible rfl
          try simp only [Act.put, List.setIfInBounds_toArray, List.set_cons_zero, List.set_cons_succ]
          refine wpAnyH_take (i := 7) (oi := { dst := some 36, op := Op.slice 27 (Operand.tmp 32) (some (Operand.tmp 33)) (some (Operand.tmp 34)) (some (Operand.tmp 35)), type := 27, pos := "c8_pipe.go:96", after := #[{ on := 3, ground := Ground.data }, { on := 4, ground := Ground.data }, { on := 5, ground := Ground.data }, { on := 6, ground := Ground.data }], guard := none }) (v := ?_) rfl (by kernel_rfl) (by kernel_rfl) (by kernel_rfl) (fun _ _ _ h => h) (Or.inl ⟨by rfl, ?_⟩) (by assumption) ?_
          rotate_left
          · intro w' hSw
            (try dsimp only at hSw); obtain ⟨v0', v1', v2', v3', v4', v5'⟩ := hSw
            go_simp
            try with_reducible rfl
          try simp only [Act.put, List.setIfInBounds_toArray, List.set_cons_zero, List.set_cons_succ]
          refine wpAnyH_take (i := 8) (oi := { dst := some 37, op := Op.fieldAddr 56 (Operand.tmp 8) 1, type := 0, pos := "c8_pipe.go:96", after := #[], guard := none }) (v := ?_) rfl (by kernel_rfl) (by kernel_rfl) (by kernel_rfl) (fun _ _ _ h => h) (Or.inl ⟨by rfl, ?_⟩) (by assumption) ?_
          rotate_left
          · intro w' hSw
            (try dsimp only at hSw); obtain ⟨v0', v1', v2', v3', v4', v5'⟩ := hSw
            go_simp
            try with_reducible rfl
          try simp only [Act.put, List.setIfInBounds_toArray, List.set_cons_zero, List.set_cons_succ]
          refine wpAnyH_take (i := 9) (oi := { dst := some 38, op := Op.load 25 (Operand.tmp 37), type := 25, pos := "c8_pipe.go:96", after := #[{ on := 8, ground := Ground.data }], guard := none }) (v := ?_) rfl (by kernel_rfl) (by kernel_rfl) (by kernel_rfl) (fun _ _ _ h => h) (Or.inl ⟨by rfl, ?_⟩) (by assumption) ?_
          rotate_left
          · intro w' hSw
            (try dsimp only at hSw); obtain ⟨v0', v1', v2', v3', v4', v5'⟩ := hSw
            go_simp
            try with_reducible rfl
          try simp only [Act.put, List.setIfInBounds_toArray, List.set_cons_zero, List.set_cons_succ]
          refine wpAnyH_take (i := 10) (oi := { dst := some 39, op := Op.move (Operand.tmp 12), type := 3, pos := "c8_pipe.go:96", after := #[], guard := none }) (v := ?_) rfl (by kernel_rfl) (by kernel_rfl) (by kernel_rfl) (fun _ _ _ h => h) (Or.inl ⟨by rfl, ?_⟩) (by assumption) ?_
          rotate_left
          · intro w' hSw
            (try dsimp only at hSw); obtain ⟨v0', v1', v2', v3', v4', v5'⟩ := hSw
            go_simp
            try with_reducible rfl
          try simp only [Act.put, List.setIfInBounds_toArray, List.set_cons_zero, List.set_cons_succ]
          refine wpAnyH_take (i := 11) (oi := { dst := some 40, op := Op.move (Operand.tmp 10), type := 3, pos := "c8_pipe.go:96", after := #[], guard := none }) (v := ?_) rfl (by kernel_rfl) (by kernel_rfl) (by kernel_rfl) (fun _ _ _ h => h) (Or.inl ⟨by rfl, ?_⟩) (by assumption) ?_
          rotate_left
          · intro w' hSw
            (try dsimp only at hSw); obtain ⟨v0', v1', v2', v3', v4', v5'⟩ := hSw
            go_simp
            try with_reducible rfl
          try simp only [Act.put, List.setIfInBounds_toArray, List.set_cons_zero, List.set_cons_succ]
          refine wpAnyH_take (i := 12) (oi := { dst := some 41, op := Op.move (Operand.tmp 10), type := 3, pos := "c8_pipe.go:96", after := #[], guard := none }) (v := ?_) rfl (by kernel_rfl) (by kernel_rfl) (by kernel_rfl) (fun _ _ _ h => h) (Or.inl ⟨by rfl, ?_⟩) (by assumption) ?_
          rotate_left
          · intro w' hSw
            (try dsimp only at hSw); obtain ⟨v0', v1', v2', v3', v4', v5'⟩ := hSw
            go_simp
            try with_reducible rfl
          try simp only [Act.put, List.setIfInBounds_toArray, List.set_cons_zero, List.set_cons_succ]
          refine wpAnyH_take (i := 13) (oi := { dst := some 42, op := Op.slice 25 (Operand.tmp 38) (some (Operand.tmp 39)) (some (Operand.tmp 40)) (some (Operand.tmp 41)), type := 25, pos := "c8_pipe.go:96", after := #[{ on := 9, ground := Ground.data }, { on := 10, ground := Ground.data }, { on := 11, ground := Ground.data }, { on := 12, ground := Ground.data }], guard := none }) (v := ?_) rfl (by kernel_rfl) (by kernel_rfl) (by kernel_rfl) (fun _ _ _ h => h) (Or.inl ⟨by rfl, ?_⟩) (by assumption) ?_
          rotate_left
          · intro w' hSw
            (try dsimp only at hSw); obtain ⟨v0', v1', v2', v3', v4', v5'⟩ := hSw
            go_simp
            try with_reducible rfl
          try simp only [Act.put, List.setIfInBounds_toArray, List.set_cons_zero, List.set_cons_succ]
          refine wpAnyH_take (i := 14) (oi := { dst := some 43, op := Op.move (Operand.tmp 2), type := 4, pos := "c8_pipe.go:96", after := #[], guard := none }) (v := ?_) rfl (by kernel_rfl) (by kernel_rfl) (by kernel_rfl) (fun _ _ _ h => h) (Or.inl ⟨by rfl, ?_⟩) (by assumption) ?_
          rotate_left
          · intro w' hSw
            (try dsimp only at hSw); obtain ⟨v0', v1', v2', v3', v4', v5'⟩ := hSw
            go_simp
            try with_reducible rfl
          try simp only [Act.put, List.setIfInBounds_toArray, List.set_cons_zero, List.set_cons_succ]
          refine wpAnyH_ready (rs := [15]) (by kernel_rfl) (by simp) ?_
          refine AllReadyH.cons (o := { dst := some 44, op := Op.call { callee := Callee.value (Operand.func 56), args := #[Operand.tmp 29, Operand.tmp 31, Operand.tmp 36, Operand.tmp 42, Operand.tmp 43], argTypes := #[53, 3, 27, 25, 4] }, type := 3, pos := "c8_pipe.go:96", after := #[{ on := 0, ground := Ground.data }, { on := 2, ground := Ground.data }, { on := 7, ground := Ground.data }, { on := 13, ground := Ground.data }, { on := 14, ground := Ground.data }], guard := none }) rfl (fun K hK => ?_) ?_
          · go_simp
            go_at_call 56
            (try simp only [hwz])
            refine (HWH.out _ (grown_same HPA.out.low (grown_drew1 _)) _ (HS1.out _ (grown_same HPA.out.low (grown_drew1 _))) _ _ (HS2.out _)).mono ?_
            rintro e w3 ⟨rfl, hg3⟩
            obtain ⟨h0, h1, h2, h3, h4, h5⟩ := HCC.out
            have HCC3 := shade (And.intro (hg3.cell h0 (by intro e; cases e)) (And.intro (hg3.cell h1 (by intro e; cases e)) (And.intro (hg3.cell h2 (by intro e; cases e)) (And.intro (hg3.cell h3 (by intro e; cases e)) (And.intro (hg3.cell h4 (by intro e; cases e)) (hg3.cell h5 (by intro e; cases e)))))))
            have HP3 := shade (HPA.out.grown (grown_same (grown_drew1 _) hg3))
            clear hg3 h0 h1 h2 h3 h4 h5
            refine hK.out _ _ ?_ (fun hHeld => ?_)
            · (try dsimp only)
              first | exact HCC3.out | exact HCC.out
            clear hK K
            try simp only [Act.put, List.setIfInBounds_toArray, List.set_cons_zero, List.set_cons_succ]
            refine wpAnyH_ready (rs := [16]) (by kernel_rfl) (by simp) ?_
            refine AllReadyH.cons (o := { dst := some 13, op := Op.assign (Operand.tmp 44), type := 3, pos := "c8_pipe.go:96", after := #[{ on := 15, ground := Ground.data }, { on := 15, ground := Ground.chain }, { on := 0, ground := Ground.phase }, { on := 1, ground := Ground.phase }, { on := 2, ground := Ground.phase }, { on := 3, ground := Ground.phase }, { on := 4, ground := Ground.phase }, { on := 5, ground := Ground.phase }, { on := 6, ground := Ground.phase }, { on := 7, ground := Ground.phase }, { on := 8, ground := Ground.phase }, { on := 9, ground := Ground.phase }, { on := 10, ground := Ground.phase }, { on := 11, ground := Ground.phase }, { on := 12, ground := Ground.phase }, { on := 13, ground := Ground.phase }, { on := 14, ground := Ground.phase }, { on := 15, ground := Ground.phase }], guard := none }) rfl (fun K hK => ?_) ?_
            · go_simp
              refine hK.out _ _ ?_ (fun hHeld => ?_)
              · (try dsimp only)
                first | exact HCC3.out | exact HCC.out
              clear hK K
              try simp only [Act.put, List.setIfInBounds_toArray, List.set_cons_zero, List.set_cons_succ]
              refine wpAnyH_done (by kernel_rfl) ?_ _
              clear hHeld
              have b0 := HP3.out.box.look 0
              simp at b0
              go_wp2_with (first
                | (at_builtin; refine wpList_append_lies _ rfl _ _ 25 rfl w.heap.size 3 i1 (.int .i64 0) 1 8 Tryd.underlying25 HJ.out.1 HJ.out.2.1 HJ.out.2.2.1 HJ.out.2.2.2 rfl (by decide) _ _ _ rfl (World.ownsRow.alloc HP3.out.r _) ⟨w3.heap.size, 0, none⟩ 1 1 [.int .i64 z] rfl rfl (int_new _ _ _) (int_one _) (by omega) (by unfold maxLen; omega) (by omega) (by have := HP3.out.low.size; simp at this ⊢; omega) _ rfl ?_)
                | go_in)
              intro g8 c8 w8 hown8 hgr8 hat8 hlt8
              rw [numL_snoc' _ rd _ HZ.out] at hown8
              have hpa := HP3.out.grown (World.grownBy_alloc w3 (.cells #[.int .i64 z] 3) none)
              have hbx8 := hpa.box.grown hgr8 (fun e => own_not_held hpa.r hpa.box (by decide) e.symm)
              have f8 := hbx8.free 0
              have b80 := hbx8.look 0
              have b81 := hbx8.look 1
              simp at b80 b81
              have HP8 := shade (hpa.app0 hown8 hgr8 (by simpa using hat8))
              clear hown8 hgr8 hat8 hlt8 hbx8 hpa b0
              have HNEW := shade (int_new (w8.setCell ⟨w1.heap.size, 0, none⟩ (.slice (some ⟨g8, 0, none⟩) (0 + 1) c8)) 3 y)
              rw [show (w8.setCell ⟨w1.heap.size, 0, none⟩ (.slice (some ⟨g8, 0, none⟩) (0 + 1) c8)).heap.size = w8.heap.size by simp] at HNEW
              go_wp2_with (first
                | (at_builtin; refine wpList_append_lies _ rfl _ _ 25 rfl w.heap.size 3 i1 (.int .i64 0) 1 8 Tryd.underlying25 HJ.out.1 HJ.out.2.1 HJ.out.2.2.1 HJ.out.2.2.2 rfl (by decide) _ _ _ rfl (World.ownsRow.alloc HP8.out.wk _) ⟨w8.heap.size, 0, none⟩ 1 1 [.int .i64 y] rfl rfl (HNEW.out) (int_one _) (by omega) (by unfold maxLen; omega) (by omega) (by have := HP8.out.low.size; simp at this ⊢; omega) _ rfl ?_)
                | go_in)
              intro g9 c9 w9 hown9 hgr9 hat9 hlt9
              rw [numL_snoc' _ f _ HY.out] at hown9
              have hpb := HP8.out.grown (World.grownBy_alloc _ (.cells #[.int .i64 y] 3) none)
              have hbx9 := hpb.box.grown hgr9 (fun e => own_not_held hpb.wk hpb.box (by decide) e.symm)
              have f9 := hbx9.free 1
              have b90 := hbx9.look 0
              have b91 := hbx9.look 1
              simp at b90 b91
              have cj9 := (bols_on HBJ.out (grown_row' hpb.low hgr9 (fun r e => (World.ownsRow.lt hpb.wk r e).1))).cell hkm
              have HP9 := shade (hpb.app1 hown9 hgr9 (by simpa using hat9))
              clear hown9 hgr9 hat9 hlt9 hbx9 hpb f8 b80 b81
              have d1 : ¬ jb = w1.heap.size := by have := HG.out.size; omega
              have HRK2 := shade HRK.out
              obtain ⟨jv, hjk⟩ : ∃ jv, J 0 = jv := ⟨_, rfl⟩
              rw [hjk] at cj9 HRK2
              rw [Nat.add_zero] at cj9
              rcases jv with _ | _
              all_goals
                go_wp2_with fail
                go_roundw
                case rel => exact ⟨0 + 1, _, _, by omega, by go_num, (by rw [HRK2.out]; simp), HP9.out, fun e => by omega⟩
                case measure => simp [intOf]; omega
            exact AllReadyH.nil
          exact AllReadyH.nil
        · obtain ⟨A2', c2', e2, hN2⟩ := HNW.out _ (grown_drew1 _)
          injection e2 with e2 _ e3
          subst e2 e3
          obtain ⟨g2, o2, rfl, -⟩ := hN2.resolve_left (by omega)
          have HS2 := shade (show Nums _ (some ⟨g2, o2, none⟩) (q + 1) (fun j => if 0 + j < 300 then f (0 + j) else 0) from by
            have h := hN2.sub 0 (q + 1) (by omega) (f' := fun j => if 0 + j < 300 then f (0 + j) else 0) (fun j hj => if_pos (by omega))
            rwa [Nat.add_zero] at h)
          clear hN2 hln hnn hlo hnil HSB
          have s4 : ((q : Int) + 1).toNat = q + 1 := by omega
          have s5 : ¬ q + 1 = 0 := by omega
          have s6 : (q : Int) + 1 ≤ (c : Int) := by omega
          have s7 : (q : Int) + 1 ≤ (c2 : Int) := by omega
          have s8 : (0 : Int) ≤ (q : Int) + 1 := by omega
          go_wp2_with fail
          refine wp_region_held_drew (S := fun w' => w'.cell? ⟨w1.heap.size, 1, none⟩ = some (.slice (some ⟨g2, o2, none⟩) (q + 1) c2) ∧ w'.cell? ⟨wr.heap.size, 0, none⟩ = some (.string op) ∧ w'.cell? ⟨wr.heap.size, 1, none⟩ = some (.int .i64 d) ∧ w'.cell? ⟨wr.heap.size, 2, none⟩ = some (.int .i64 a) ∧ w'.cell? ⟨wr.heap.size, 3, none⟩ = some (.int .i64 b') ∧ w'.cell? ⟨wr.heap.size, 4, none⟩ = some (.int .i64 kk)) (by kernel_rfl) (HCC.out) (fun hHeld => ?_)
          refine wpAnyH_take (i := 0) (oi := { dst := some 29, op := Op.load 53 (Operand.tmp 11), type := 53, pos := "c8_pipe.go:96", after := #[], guard := none }) (v := ?_) rfl (by kernel_rfl) (by kernel_rfl) (by kernel_rfl) (fun _ _ _ h => h) (Or.inl ⟨by rfl, ?_⟩) (by assumption) ?_
          rotate_left
          · intro w' hSw
            (try dsimp only at hSw); obtain ⟨v0', v1', v2', v3', v4', v5'⟩ := hSw
            go_simp
            try with_reducible rfl
          try simp only [Act.put, List.setIfInBounds_toArray, List.set_cons_zero, List.set_cons_succ]
          refine wpAnyH_take (i := 1) (oi := { dst := some 30, op := Op.move (Operand.tmp 9), type := 3, pos := "c8_pipe.go:96", after := #[], guard := none }) (v := ?_) rfl (by kernel_rfl) (by kernel_rfl) (by kernel_rfl) (fun _ _ _ h => h) (Or.inl ⟨by rfl, ?_⟩) (by assumption) ?_
          rotate_left
          · intro w' hSw
            (try dsimp only at hSw); obtain ⟨v0', v1', v2', v3', v4', v5'⟩ := hSw
            go_simp
            try with_reducible rfl
          try simp only [Act.put, List.setIfInBounds_toArray, List.set_cons_zero, List.set_cons_succ]
          refine wpAnyH_take (i := 2) (oi := { dst := some 31, op := Op.binOp BinOp.add 3 (Operand.tmp 30) (Operand.const (Value.int IntKind.i64 1)) 3, type := 3, pos := "c8_pipe.go:96", after := #[{ on := 1, ground := Ground.data }], guard := none }) (v := ?_) rfl (by kernel_rfl) (by kernel_rfl) (by kernel_rfl) (fun _ _ _ h => h) (Or.inl ⟨by rfl, ?_⟩) (by assumption) ?_
          rotate_left
          · intro w' hSw
            (try dsimp only at hSw); obtain ⟨v0', v1', v2', v3', v4', v5'⟩ := hSw
            go_simp
            try with_reducible rfl
          try simp only [Act.put, List.setIfInBounds_toArray, List.set_cons_zero, List.set_cons_succ]
          refine wpAnyH_take (i := 3) (oi := { dst := some 32, op := Op.move (Operand.tmp 0), type := 27, pos := "c8_pipe.go:96", after := #[], guard := none }) (v := ?_) rfl (by kernel_rfl) (by kernel_rfl) (by kernel_rfl) (fun _ _ _ h => h) (Or.inl ⟨by rfl, ?_⟩) (by assumption) ?_
          rotate_left
          · intro w' hSw
            (try dsimp only at hSw); obtain ⟨v0', v1', v2', v3', v4', v5'⟩ := hSw
            go_simp
            try with_reducible rfl
          try simp only [Act.put, List.setIfInBounds_toArray, List.set_cons_zero, List.set_cons_succ]
          refine wpAnyH_take (i := 4) (oi := { dst := some 33, op := Op.move (Operand.tmp 12), type := 3, pos := "c8_pipe.go:96", after := #[], guard := none }) (v := ?_) rfl (by kernel_rfl) (by kernel_rfl) (by kernel_rfl) (fun _ _ _ h => h) (Or.inl ⟨by rfl, ?_⟩) (by assumption) ?_
          rotate_left
          · intro w' hSw
            (try dsimp only at hSw); obtain ⟨v0', v1', v2', v3', v4', v5'⟩ := hSw
            go_simp
            try with_reducible rfl
          try simp only [Act.put, List.setIfInBounds_toArray, List.set_cons_zero, List.set_cons_succ]
          refine wpAnyH_take (i := 5) (oi := { dst := some 34, op := Op.move (Operand.tmp 10), type := 3, pos := "c8_pipe.go:96", after := #[], guard := none }) (v := ?_) rfl (by kernel_rfl) (by kernel_rfl) (by kernel_rfl) (fun _ _ _ h => h) (Or.inl ⟨by rfl, ?_⟩) (by assumption) ?_
          rotate_left
          · intro w' hSw
            (try dsimp only at hSw); obtain ⟨v0', v1', v2', v3', v4', v5'⟩ := hSw
            go_simp
            try with_reducible rfl
          try simp only [Act.put, List.setIfInBounds_toArray, List.set_cons_zero, List.set_cons_succ]
          refine wpAnyH_take (i := 6) (oi := { dst := some 35, op := Op.move (Operand.tmp 10), type := 3, pos := "c8_pipe.go:96", after := #[], guard := none }) (v := ?_) rfl (by kernel_rfl) (by kernel_rfl) (by kernel_rfl) (fun _ _ _ h => h) (Or.inl ⟨by rfl, ?_⟩) (by assumption) ?_
          rotate_left
          · intro w' hSw
            (try dsimp only at hSw); obtain ⟨v0', v1', v2', v3', v4', v5'⟩ := hSw
            go_simp
            try with_reducible rfl
          try simp only [Act.put, List.setIfInBounds_toArray, List.set_cons_zero, List.set_cons_succ]
          refine wpAnyH_take (i := 7) (oi := { dst := some 36, op := Op.slice 27 (Operand.tmp 32) (some (Operand.tmp 33)) (some (Operand.tmp 34)) (some (Operand.tmp 35)), type := 27, pos := "c8_pipe.go:96", after := #[{ on := 3, ground := Ground.data }, { on := 4, ground := Ground.data }, { on := 5, ground := Ground.data }, { on := 6, ground := Ground.data }], guard := none }) (v := ?_) rfl (by kernel_rfl) (by kernel_rfl) (by kernel_rfl) (fun _ _ _ h => h) (Or.inl ⟨by rfl, ?_⟩) (by assumption) ?_
          rotate_left
          · intro w' hSw
            (try dsimp only at hSw); obtain ⟨v0', v1', v2', v3', v4', v5'⟩ := hSw
            go_simp
            try with_reducible rfl
          try simp only [Act.put, List.setIfInBounds_toArray, List.set_cons_zero, List.set_cons_succ]
          refine wpAnyH_take (i := 8) (oi := { dst := some 37, op := Op.fieldAddr 56 (Operand.tmp 8) 1, type := 0, pos := "c8_pipe.go:96", after := #[], guard := none }) (v := ?_) rfl (by kernel_rfl) (by kernel_rfl) (by kernel_rfl) (fun _ _ _ h => h) (Or.inl ⟨by rfl, ?_⟩) (by assumption) ?_
          rotate_left
          · intro w' hSw
            (try dsimp only at hSw); obtain ⟨v0', v1', v2', v3', v4', v5'⟩ := hSw
            go_simp
            try with_reducible rfl
          try simp only [Act.put, List.setIfInBounds_toArray, List.set_cons_zero, List.set_cons_succ]
          refine wpAnyH_take (i := 9) (oi := { dst := some 38, op := Op.load 25 (Operand.tmp 37), type := 25, pos := "c8_pipe.go:96", after := #[{ on := 8, ground := Ground.data }], guard := none }) (v := ?_) rfl (by kernel_rfl) (by kernel_rfl) (by kernel_rfl) (fun _ _ _ h => h) (Or.inl ⟨by rfl, ?_⟩) (by assumption) ?_
          rotate_left
          · intro w' hSw
            (try dsimp only at hSw); obtain ⟨v0', v1', v2', v3', v4', v5'⟩ := hSw
            go_simp
            try with_reducible rfl
          try simp only [Act.put, List.setIfInBounds_toArray, List.set_cons_zero, List.set_cons_succ]
          refine wpAnyH_take (i := 10) (oi := { dst := some 39, op := Op.move (Operand.tmp 12), type := 3, pos := "c8_pipe.go:96", after := #[], guard := none }) (v := ?_) rfl (by kernel_rfl) (by kernel_rfl) (by kernel_rfl) (fun _ _ _ h => h) (Or.inl ⟨by rfl, ?_⟩) (by assumption) ?_
          rotate_left
          · intro w' hSw
            (try dsimp only at hSw); obtain ⟨v0', v1', v2', v3', v4', v5'⟩ := hSw
            go_simp
            try with_reducible rfl
          try simp only [Act.put, List.setIfInBounds_toArray, List.set_cons_zero, List.set_cons_succ]
          refine wpAnyH_take (i := 11) (oi := { dst := some 40, op := Op.move (Operand.tmp 10), type := 3, pos := "c8_pipe.go:96", after := #[], guard := none }) (v := ?_) rfl (by kernel_rfl) (by kernel_rfl) (by kernel_rfl) (fun _ _ _ h => h) (Or.inl ⟨by rfl, ?_⟩) (by assumption) ?_
          rotate_left
          · intro w' hSw
            (try dsimp only at hSw); obtain ⟨v0', v1', v2', v3', v4', v5'⟩ := hSw
            go_simp
            try with_reducible rfl
          try simp only [Act.put, List.setIfInBounds_toArray, List.set_cons_zero, List.set_cons_succ]
          refine wpAnyH_take (i := 12) (oi := { dst := some 41, op := Op.move (Operand.tmp 10), type := 3, pos := "c8_pipe.go:96", after := #[], guard := none }) (v := ?_) rfl (by kernel_rfl) (by kernel_rfl) (by kernel_rfl) (fun _ _ _ h => h) (Or.inl ⟨by rfl, ?_⟩) (by assumption) ?_
          rotate_left
          · intro w' hSw
            (try dsimp only at hSw); obtain ⟨v0', v1', v2', v3', v4', v5'⟩ := hSw
            go_simp
            try with_reducible rfl
          try simp only [Act.put, List.setIfInBounds_toArray, List.set_cons_zero, List.set_cons_succ]
          refine wpAnyH_take (i := 13) (oi := { dst := some 42, op := Op.slice 25 (Operand.tmp 38) (some (Operand.tmp 39)) (some (Operand.tmp 40)) (some (Operand.tmp 41)), type := 25, pos := "c8_pipe.go:96", after := #[{ on := 9, ground := Ground.data }, { on := 10, ground := Ground.data }, { on := 11, ground := Ground.data }, { on := 12, ground := Ground.data }], guard := none }) (v := ?_) rfl (by kernel_rfl) (by kernel_rfl) (by kernel_rfl) (fun _ _ _ h => h) (Or.inl ⟨by rfl, ?_⟩) (by assumption) ?_
          rotate_left
          · intro w' hSw
            (try dsimp only at hSw); obtain ⟨v0', v1', v2', v3', v4', v5'⟩ := hSw
            go_simp
            try with_reducible rfl
          try simp only [Act.put, List.setIfInBounds_toArray, List.set_cons_zero, List.set_cons_succ]
          refine wpAnyH_take (i := 14) (oi := { dst := some 43, op := Op.move (Operand.tmp 2), type := 4, pos := "c8_pipe.go:96", after := #[], guard := none }) (v := ?_) rfl (by kernel_rfl) (by kernel_rfl) (by kernel_rfl) (fun _ _ _ h => h) (Or.inl ⟨by rfl, ?_⟩) (by assumption) ?_
          rotate_left
          · intro w' hSw
            (try dsimp only at hSw); obtain ⟨v0', v1', v2', v3', v4', v5'⟩ := hSw
            go_simp
            try with_reducible rfl
          try simp only [Act.put, List.setIfInBounds_toArray, List.set_cons_zero, List.set_cons_succ]
          refine wpAnyH_ready (rs := [15]) (by kernel_rfl) (by simp) ?_
          refine AllReadyH.cons (o := { dst := some 44, op := Op.call { callee := Callee.value (Operand.func 56), args := #[Operand.tmp 29, Operand.tmp 31, Operand.tmp 36, Operand.tmp 42, Operand.tmp 43], argTypes := #[53, 3, 27, 25, 4] }, type := 3, pos := "c8_pipe.go:96", after := #[{ on := 0, ground := Ground.data }, { on := 2, ground := Ground.data }, { on := 7, ground := Ground.data }, { on := 13, ground := Ground.data }, { on := 14, ground := Ground.data }], guard := none }) rfl (fun K hK => ?_) ?_
          · go_simp
            go_at_call 56
            (try simp only [hwz])
            refine (HWH.out _ (grown_same HPA.out.low (grown_drew1 _)) _ (HS1.out _ (grown_same HPA.out.low (grown_drew1 _))) _ _ HS2.out).mono ?_
            rintro e w3 ⟨rfl, hg3⟩
            obtain ⟨h0, h1, h2, h3, h4, h5⟩ := HCC.out
            have HCC3 := shade (And.intro (hg3.cell h0 (by intro e; cases e)) (And.intro (hg3.cell h1 (by intro e; cases e)) (And.intro (hg3.cell h2 (by intro e; cases e)) (And.intro (hg3.cell h3 (by intro e; cases e)) (And.intro (hg3.cell h4 (by intro e; cases e)) (hg3.cell h5 (by intro e; cases e)))))))
            have HP3 := shade (HPA.out.grown (grown_same (grown_drew1 _) hg3))
            clear hg3 h0 h1 h2 h3 h4 h5
            refine hK.out _ _ ?_ (fun hHeld => ?_)
            · (try dsimp only)
              first | exact HCC3.out | exact HCC.out
            clear hK K
            try simp only [Act.put, List.setIfInBounds_toArray, List.set_cons_zero, List.set_cons_succ]
            refine wpAnyH_ready (rs := [16]) (by kernel_rfl) (by simp) ?_
            refine AllReadyH.cons (o := { dst := some 13, op := Op.assign (Operand.tmp 44), type := 3, pos := "c8_pipe.go:96", after := #[{ on := 15, ground := Ground.data }, { on := 15, ground := Ground.chain }, { on := 0, ground := Ground.phase }, { on := 1, ground := Ground.phase }, { on := 2, ground := Ground.phase }, { on := 3, ground := Ground.phase }, { on := 4, ground := Ground.phase }, { on := 5, ground := Ground.phase }, { on := 6, ground := Ground.phase }, { on := 7, ground := Ground.phase }, { on := 8, ground := Ground.phase }, { on := 9, ground := Ground.phase }, { on := 10, ground := Ground.phase }, { on := 11, ground := Ground.phase }, { on := 12, ground := Ground.phase }, { on := 13, ground := Ground.phase }, { on := 14, ground := Ground.phase }, { on := 15, ground := Ground.phase }], guard := none }) rfl (fun K hK => ?_) ?_
            · go_simp
              refine hK.out _ _ ?_ (fun hHeld => ?_)
              · (try dsimp only)
                first | exact HCC3.out | exact HCC.out
              clear hK K
              try simp only [Act.put, List.setIfInBounds_toArray, List.set_cons_zero, List.set_cons_succ]
              refine wpAnyH_done (by kernel_rfl) ?_ _
              clear hHeld
              have b0 := HP3.out.box.look 0
              simp at b0
              go_wp2_with (first
                | (at_builtin; refine wpList_append_lies _ rfl _ _ 25 rfl w.heap.size 3 i1 (.int .i64 0) 1 8 Tryd.underlying25 HJ.out.1 HJ.out.2.1 HJ.out.2.2.1 HJ.out.2.2.2 rfl (by decide) _ _ _ rfl (World.ownsRow.alloc HP3.out.r _) ⟨w3.heap.size, 0, none⟩ 1 1 [.int .i64 z] rfl rfl (int_new _ _ _) (int_one _) (by omega) (by unfold maxLen; omega) (by omega) (by have := HP3.out.low.size; simp at this ⊢; omega) _ rfl ?_)
                | go_in)
              intro g8 c8 w8 hown8 hgr8 hat8 hlt8
              rw [numL_snoc' _ rd _ HZ.out] at hown8
              have hpa := HP3.out.grown (World.grownBy_alloc w3 (.cells #[.int .i64 z] 3) none)
              have hbx8 := hpa.box.grown hgr8 (fun e => own_not_held hpa.r hpa.box (by decide) e.symm)
              have f8 := hbx8.free 0
              have b80 := hbx8.look 0
              have b81 := hbx8.look 1
              simp at b80 b81
              have HP8 := shade (hpa.app0 hown8 hgr8 (by simpa using hat8))
              clear hown8 hgr8 hat8 hlt8 hbx8 hpa b0
              have HNEW := shade (int_new (w8.setCell ⟨w1.heap.size, 0, none⟩ (.slice (some ⟨g8, 0, none⟩) ((q + 1) + 1) c8)) 3 y)
              rw [show (w8.setCell ⟨w1.heap.size, 0, none⟩ (.slice (some ⟨g8, 0, none⟩) ((q + 1) + 1) c8)).heap.size = w8.heap.size by simp] at HNEW
              go_wp2_with (first
                | (at_builtin; refine wpList_append_lies _ rfl _ _ 25 rfl w.heap.size 3 i1 (.int .i64 0) 1 8 Tryd.underlying25 HJ.out.1 HJ.out.2.1 HJ.out.2.2.1 HJ.out.2.2.2 rfl (by decide) _ _ _ rfl (World.ownsRow.alloc HP8.out.wk _) ⟨w8.heap.size, 0, none⟩ 1 1 [.int .i64 y] rfl rfl (HNEW.out) (int_one _) (by omega) (by unfold maxLen; omega) (by omega) (by have := HP8.out.low.size; simp at this ⊢; omega) _ rfl ?_)
                | go_in)
              intro g9 c9 w9 hown9 hgr9 hat9 hlt9
              rw [numL_snoc' _ f _ HY.out] at hown9
              have hpb := HP8.out.grown (World.grownBy_alloc _ (.cells #[.int .i64 y] 3) none)
              have hbx9 := hpb.box.grown hgr9 (fun e => own_not_held hpb.wk hpb.box (by decide) e.symm)
              have f9 := hbx9.free 1
              have b90 := hbx9.look 0
              have b91 := hbx9.look 1
              simp at b90 b91
              have cj9 := (bols_on HBJ.out (grown_row' hpb.low hgr9 (fun r e => (World.ownsRow.lt hpb.wk r e).1))).cell hkm
              have HP9 := shade (hpb.app1 hown9 hgr9 (by simpa using hat9))
              clear hown9 hgr9 hat9 hlt9 hbx9 hpb f8 b80 b81
              have d1 : ¬ jb = w1.heap.size := by have := HG.out.size; omega
              have HRK2 := shade HRK.out
              obtain ⟨jv, hjk⟩ : ∃ jv, J (q + 1) = jv := ⟨_, rfl⟩
              rw [hjk] at cj9 HRK2
              clear hjk
              rcases jv with _ | _
              all_goals
                go_wp2_with fail
                go_roundw
                case rel => exact ⟨(q + 1) + 1, _, _, by omega, by go_num, (by rw [HRK2.out]; simp), HP9.out, fun e => by omega⟩
                case measure => simp [intOf]; omega
            exact AllReadyH.nil
          exact AllReadyH.nil
    · obtain rfl : k = m := by omega
      have b0 := HP.out.box.look 0; have b1 := HP.out.box.look 1
      have x0 := HP.out.res.look 0; have x1 := HP.out.res.look 1
      have f0 := HP.out.res.free 0; have f1 := HP.out.res.free 1
      simp at b0 b1 x0 x1
      have hx2 := (HP.out.res.put 0 (.slice A1 k c1)).put 1 (.slice A2 k c2)
      simp at hx2
      have g1 : wr.grownBy ((wr.setCell ⟨w.heap.size, 0, none⟩ (.slice A1 k c1)).setCell ⟨w.heap.size, 1, none⟩ (.slice A2 k c2)) (some w.heap.size) := grown_same (grown_set w.heap.size 0 (.slice A1 k c1)) (grown_set w.heap.size 1 (.slice A2 k c2))
      have HG9 := shade (grown_then HP.out.low g1 (Nat.le_refl _))
      have HT9 := shade (World.ownsRow.kept HP.out.r g1 (.inr (own_not_held HP.out.r HP.out.res (by decide))))
      have HR9 := shade (World.ownsRow.kept HP.out.wk g1 (.inr (own_not_held HP.out.wk HP.out.res (by decide))))
      have HX9 := shade hx2
      clear hx2 g1
      go_wp2_with fail
      obtain ⟨W2, hW2⟩ : ∃ W2, (wr.setCell ⟨w.heap.size, 0, none⟩ (.slice A1 k c1)).setCell ⟨w.heap.size, 1, none⟩ (.slice A2 k c2) = W2 := ⟨_, rfl⟩
      rw [hW2] at HG9 HT9 HR9 HX9 ⊢
      clear hW2 b0 b1 x0 x1 f0 f1
      have x0 := HX9.out.look 0; have x1 := HX9.out.look 1
      simp at x0 x1
      refine bodyPost_ret (by simp [results, Tryd.results43, go_sem, x0, x1]; try rfl) rfl ?_
      exact ⟨_, _, rfl, HT9.out, HR9.out, HG9.out⟩
end Go.Proofs.YtlmjbflnfpccdaaDoor
