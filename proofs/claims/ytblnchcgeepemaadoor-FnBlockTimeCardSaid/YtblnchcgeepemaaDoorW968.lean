/- When instructions begin and when all are done, by the model. -/
import Derived.Test.YtblnchcgeepemaaDoorW967
import Derived.Test.YtblnchcgeepemaaDoorW962
namespace Go.Proofs.YtblnchcgeepemaaDoor
open Go.RowKit
set_option linter.unusedSimpArgs false
theorem sBegins_zero (A : Option Addr) (c : Nat) (f : Nat → Int) (w : World) : Calls Tryd.prog 27 #[.slice A 0 c] w (NumRes 0 f w) := by
  have L0 := shade (show (w.alloc (.cells #[] 3)).ownsRow w.heap.size 3 1 (.slice (some ⟨w.heap.size, 0, none⟩) 0 0) 0 [] from World.ownsRow_lit (base := w.heap.size) (e := 3) (size := 1) w #[] 0 (by omega) (by decide) rfl)
  go_enter Tryd.func27, Tryd.ntmps27
  go_wp2_with fail
  refine wp_loop_rounds 1 ?_
  rw [rounds_succ]
  go_wp2_with fail
  go_ret
  exact ⟨_, rfl, L0.out, World.grownBy_alloc _ _ _⟩
theorem sBegins_any (A : Option Addr) (m c : Nat) (G : Nat → Ins) (f : Nat → Int) (w : World) (hm : m ≤ 6) (hv : ∀ j, j < m → vI (G j) = true) (hf : Bgs G f m) (h : Code w A m G) :
    Calls Tryd.prog 27 #[.slice A m c] w (NumRes m f w) := by
  by_cases h0 : m = 0
  · subst h0
    exact sBegins_zero A c f w
  · obtain ⟨b, off, rfl, _⟩ := h.resolve_left h0
    exact sBegins_at b off m c G f w hm hv hf h
theorem dn_succ (f l : Nat → Int) (i : Nat) : dn f l (i + 1) = max (dn f l i) (f i + l i) := rfl
theorem dn_small {f l : Nat → Int} {m : Nat} (hf : ∀ k, k < m → 0 ≤ f k ∧ f k ≤ 18) (hl : ∀ k, k < m → 1 ≤ l k ∧ l k ≤ 3) : ∀ {i : Nat}, i ≤ m → 0 ≤ dn f l i ∧ dn f l i ≤ 21 := by
  intro i hi
  refine ⟨(mx_ge 0 _ i).1, mx_le.2 ⟨by omega, fun j hj => ?_⟩⟩
  have h1 := hf j (by omega)
  have h2 := hl j (by omega)
  show f j + l j ≤ 21
  omega
set_option maxRecDepth 100000 in
set_option maxHeartbeats 8000000 in
theorem sLength_any (A : Option Addr) (m c : Nat) (G : Nat → Ins) (f : Nat → Int) (w : World) (hm : m ≤ 6) (hv : ∀ j, j < m → vI (G j) = true) (hf : Bgs G f m) (h : Code w A m G) :
    Calls Tryd.prog 28 #[.slice A m c] w fun e w' => e = .returned (.int .i64 (dn f (latF G) m)) ∧ w.grownBy w' none := by
  have HB := shade (sBegins_any A m c G f w hm hv hf h)
  have HR := shade hf.rng
  have H := shade h
  clear h hv hf
  go_enter Tryd.func28, Tryd.ntmps28
  go_wp2_with fail
  refine HB.out.mono ?_
  rintro e w1 h1
  obtain ⟨v, rfl, hR, hg⟩ := NumRes.row h1
  obtain ⟨A1, c1, rfl, hN⟩ := hR.nums
  have HN := shade hN; have HG := shade hg
  clear h1 hR hN hg HB
  go_wp2_with fail
  go_loopw [4, 5] (fun v i wr => ∃ ii : Nat, ii ≤ m ∧ i = .int .i64 ii ∧ v = .int .i64 (dn f (latF G) ii) ∧ w1.grownBy wr none) (fun _ i _ => m - (intOf i).toNat)
  case atStart => exact ⟨0, Nat.zero_le _, rfl, rfl, grown_refl _ _⟩
  case round =>
    obtain ⟨i, hi, rfl, rfl, hgq⟩ := hrel
    have HGQ := shade hgq
    clear hgq
    by_cases him : i < m
    · obtain ⟨cb, co, rfl, -⟩ := H.out.resolve_left (by omega)
      obtain ⟨q0, -, -, -, -⟩ := (H.out.on (grown_same HG.out HGQ.out)).five him
      obtain ⟨ob, oo, rfl, -⟩ := HN.out.resolve_left (by omega)
      have r0 := (HN.out.grown HGQ.out (by intro _ _ _ e; cases e)).cell him
      have HLA := shade (fun W => latency_any (G i).op W)
      have hs := dn_succ f (latF G) i
      have hl := lat_rng (G i).op.toList
      have hd := dn_small HR.out (fun k _ => lat_rng (G k).op.toList) (show i ≤ m by omega)
      have hfi := HR.out i him
      have hlf : latF G i = lat (G i).op.toList := rfl
      change 0 ≤ dn f (latF G) i ∧ dn f (latF G) i ≤ 21 at hd
      rw [hlf] at hs
      obtain ⟨x, hx⟩ : ∃ x, lat (G i).op.toList = x := ⟨_, rfl⟩
      rw [hx] at hs HLA hl
      obtain ⟨y, hy⟩ : ∃ y, dn f (latF G) i = y := ⟨_, rfl⟩
      rw [hy] at hs hd ⊢
      obtain ⟨z, hz⟩ : ∃ z, f i = z := ⟨_, rfl⟩
      rw [hz] at hs hfi r0
      generalize (G i).op = op at *
      have HS := shade hs
      have hwz : IntKind.i64.wrap (z + x) = z + x := by rw [IntKind.wrap_i64]; omega
      have iq : (i : Int) < (m : Int) := by omega
      have iq0 : (0 : Int) ≤ (i : Int) := by omega
      clear hs hx hy hz hlf
      go_wp2_with fail
      go_region_held3 (fun w' => w'.cell? ⟨cb, co + i * 5, none⟩ = some (.string op) ∧ w'.cell? ⟨ob, oo + i, none⟩ = some (.int .i64 z))
        (exact ⟨q0, r0⟩)
        ((go_at_call 39; refine (HLA.out _).mono ?_; rintro e w3 ⟨rfl, rfl⟩))
      rename_i hHeld
      clear hHeld
      have HGD := shade (grown_same HGQ.out (grown_drew1 _))
      go_wp2_with fail
      go_roundw
      case rel => exact ⟨i + 1, by omega, by go_num, (by rw [HS.out]; congr 1; (try rw [hwz]); split <;> omega), HGD.out⟩
      case measure => simp [intOf]; omega
    · obtain rfl : i = m := by omega
      go_wp2_with fail
      go_ret
      exact ⟨rfl, grown_same HG.out HGQ.out⟩

/-- What is left by a function that answers a row of numbers and a number. -/
def NumRes2 (k : Nat) (f : Nat → Int) (z : Int) (w : World) (e : Ending) (w' : World) : Prop :=
  ∃ v, e = .returned (.tuple #[v, .int .i64 z]) ∧ RowO w' w.heap.size w'.heap.size 3 v k (numL k f) ∧ w.grownBy w' none
theorem NumRes2.row {k : Nat} {f : Nat → Int} {z : Int} {w w' : World} {e : Ending} (h : NumRes2 k f z w e w') : ∃ v, e = .returned (.tuple #[v, .int .i64 z]) ∧ RowO w' w.heap.size w'.heap.size 3 v k (numL k f) ∧ w.grownBy w' none := h
theorem bgs_of {F : Nat → Ins} {o : Nat → Nat} {m : Nat} (h : Topo F o m) (hm : m ≤ 6) : Bgs (fun j => F (o j)) (bg F o) m :=
  ⟨fun k hk => bg_spec h hk, fun k hk => ⟨bg_pos F o k, by have := bg_le F o k; omega⟩⟩
/-- When all of a block as it stands are done, -1 if it is none. -/
def btB (n : Nat) (F : Nat → Ins) : Int := if blB n F = true then eF F (fun i => i) n else -1
theorem btB_yes {n : Nat} {F : Nat → Ins} (h : blB n F = true) : btB n F = eF F (fun i => i) n := if_pos h
theorem btB_no {n : Nat} {F : Nat → Ins} (h : blB n F = false) : btB n F = -1 := if_neg (by rw [h]; simp)
set_option maxHeartbeats 1000000 in
theorem SBlockTime_any (A : Option Addr) (n c : Nat) (F : Nat → Ins) (w : World) (hn : n ≤ 9223372036854775807) (h : Code w A n F) :
    Calls Tryd.prog 13 #[.slice A n c] w (NumRes2 (nB n F) (bg F (fun i => i)) (btB n F) w) := by
  have HV := shade (validBlock_any A n c F w hn h)
  rcases hv : blB n F with _ | _
  · rw [nB_no hv, btB_no hv]
    rw [hv] at HV
    clear h hv
    go_enter Tryd.func13, Tryd.ntmps13
    go_wp2_with fail
    refine HV.out.mono ?_
    rintro e w1 ⟨rfl, hg⟩
    have HG := shade hg
    clear hg
    go_wp2_with fail
    go_ret2
    exact ⟨_, rfl, ⟨World.ownsRow_nil _ _ _ _, fun _ h => (by cases h)⟩, HG.out⟩
  · rw [nB_yes hv, btB_yes hv]
    rw [hv] at HV
    have h6 := blB_6 hv
    have HC := shade h
    have HBG := shade (fun W (hC : Code W A n F) => sBegins_any A n c F (bg F (fun i => i)) W h6 (fun j hj => blI_v (blB_at hv hj)) (bgs_of (topo_id F n) h6) hC)
    have HLN := shade (fun W (hC : Code W A n F) => sLength_any A n c F (bg F (fun i => i)) W h6 (fun j hj => blI_v (blB_at hv hj)) (bgs_of (topo_id F n) h6) hC)
    clear h hv
    have he : dn (bg F (fun i => i)) (latF F) n = eF F (fun i => i) n := rfl
    rw [he] at HLN
    go_enter Tryd.func13, Tryd.ntmps13
    go_wp2_with fail
    refine HV.out.mono ?_
    rintro e w1 ⟨rfl, hg⟩
    have HG := shade hg
    clear hg
    go_wp2_with fail
    refine (HBG.out _ (HC.out.on HG.out)).mono ?_
    rintro e w2 h2
    obtain ⟨v, rfl, hR, hg2⟩ := NumRes.row h2
    obtain ⟨A1, c1, rfl, -⟩ := hR.nums
    have HG2 := shade (grown_same HG.out hg2)
    have HR := shade hR
    have HGL := shade HG.out.size
    clear h2 hR hg2
    go_wp2_with fail
    refine (HLN.out _ (HC.out.on HG2.out)).mono ?_
    rintro e w3 ⟨rfl, hg3⟩
    have HG3 := shade (grown_same HG2.out hg3)
    have HR3 := shade (HR.out.grown hg3)
    have HS3 := shade hg3.size
    clear hg3
    go_wp2_with fail
    go_ret2
    exact ⟨_, rfl, ⟨World.ownsRow.mono HR3.out.own HGL.out, fun b hb => Nat.lt_of_lt_of_le (HR3.out.hib b hb) HS3.out⟩, HG3.out⟩

end Go.Proofs.YtblnchcgeepemaaDoor
