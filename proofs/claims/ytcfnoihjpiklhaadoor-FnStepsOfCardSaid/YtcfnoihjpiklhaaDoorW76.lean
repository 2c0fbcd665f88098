/- The model's StepMachine: it answers as stepB, stAt, stRegs and stMem say. -/
import Derived.Test.YtcfnoihjpiklhaaDoorW72
import Derived.Test.YtcfnoihjpiklhaaDoorG73
namespace Go.Proofs.YtcfnoihjpiklhaaDoor
open Go.RowKit
set_option linter.unusedSimpArgs false
theorem specStep_any (n : Nat) (hn : n ≤ 8) (b off len cap m rd ra rb : Nat) (k : Int) (F : Nat → Ins) (b1 o1 c1 b2 o2 c2 : Nat) (f1 f2 : Nat → Int) (w : World) (hC : Code w (some ⟨b, off, none⟩) len F) (hm : m < len) (hlen : len ≤ 40) (hF : F m = ⟨wT n, rd, ra, rb, k⟩)
    (hd : rd < 4) (ha : ra < 4) (hb : rb < 4) (k0 : 0 ≤ k) (k1 : k ≤ 255) (ok1 : ∀ j, j < 4 → 0 ≤ f1 j ∧ f1 j ≤ 255) (h1 : Nums w (some ⟨b1, o1, none⟩) 4 f1) (h2 : Nums w (some ⟨b2, o2, none⟩) 8 f2) :
    Calls Tryd.prog 53 #[.slice (some ⟨b, off, none⟩) len cap, MV m (some ⟨b1, o1, none⟩) 4 c1 (some ⟨b2, o2, none⟩) 8 c2] w (MachOk w (stepAt n m ra k f1) 4 8 (stepRegs n rd ra rb k f1 f2) (stepMem n rd ra k f1 f2)) := by
  match n, hn, hF with
  | 0, _, hF => exact specStep_0 b off len cap m rd ra rb k F b1 o1 c1 b2 o2 c2 f1 f2 w hC hm hlen hF hd ha hb k0 k1 ok1 h1 h2
  | 1, _, hF => exact specStep_1 b off len cap m rd ra rb k F b1 o1 c1 b2 o2 c2 f1 f2 w hC hm hlen hF hd ha hb k0 k1 ok1 h1 h2
  | 2, _, hF => exact specStep_2 b off len cap m rd ra rb k F b1 o1 c1 b2 o2 c2 f1 f2 w hC hm hlen hF hd ha hb k0 k1 ok1 h1 h2
  | 3, _, hF => exact specStep_3 b off len cap m rd ra rb k F b1 o1 c1 b2 o2 c2 f1 f2 w hC hm hlen hF hd ha hb k0 k1 ok1 h1 h2
  | 4, _, hF => exact specStep_4 b off len cap m rd ra rb k F b1 o1 c1 b2 o2 c2 f1 f2 w hC hm hlen hF hd ha hb k0 k1 ok1 h1 h2
  | 5, _, hF => exact specStep_5 b off len cap m rd ra rb k F b1 o1 c1 b2 o2 c2 f1 f2 w hC hm hlen hF hd ha hb k0 k1 ok1 h1 h2
  | 6, _, hF => exact specStep_6 b off len cap m rd ra rb k F b1 o1 c1 b2 o2 c2 f1 f2 w hC hm hlen hF hd ha hb k0 k1 ok1 h1 h2
  | 7, _, hF => exact specStep_7 b off len cap m rd ra rb k F b1 o1 c1 b2 o2 c2 f1 f2 w hC hm hlen hF hd ha hb k0 k1 ok1 h1 h2
  | 8, _, hF => exact specStep_8 b off len cap m rd ra rb k F b1 o1 c1 b2 o2 c2 f1 f2 w hC hm hlen hF hd ha hb k0 k1 ok1 h1 h2
theorem halted_any (A : Option Addr) (len cap m : Nat) (F : Nat → Ins) (w : World) (hC : Code w A len F) (hl : len ≤ 40) :
    Calls Tryd.prog 52 #[.slice A len cap, .int .i64 m] w fun e w' => e = .returned (.bool (haltB len F m)) ∧ w = w' := by
  by_cases h : len ≤ m
  · rw [show haltB len F m = true by simp [haltB, h]]
    exact halted_end A len cap m w h
  · obtain ⟨b, off, rfl, _⟩ := hC.resolve_left (by omega)
    rw [show haltB len F m = ((F m).op.toList == [104, 108, 116]) by simp [haltB, h]]
    exact halted_in b off len cap m F w hC (by omega) hl


end Go.Proofs.YtcfnoihjpiklhaaDoor
