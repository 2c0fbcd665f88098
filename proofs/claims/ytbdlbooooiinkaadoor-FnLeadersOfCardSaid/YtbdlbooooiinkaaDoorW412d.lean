/- Where blocks begin, by the model. -/
import Derived.Test.YtbdlbooooiinkaaDoorW411d
namespace Go.Proofs.YtbdlbooooiinkaaDoor
open Go.RowKit
set_option linter.unusedSimpArgs false
set_option maxRecDepth 100000 in
set_option maxHeartbeats 32000000 in
theorem leaders_at (b off n c : Nat) (F : Nat → Ins) (w : World) (hn : n ≤ 40) (hn0 : 0 < n) (h : Code w (some ⟨b, off, none⟩) n F) :
    Calls Tryd.prog 54 #[.slice (some ⟨b, off, none⟩) n c] w (IntRes (ldL F n) w) := by
  have H := shade h
  clear h
  obtain ⟨i0, hi0, hz0, hz1, hz2⟩ := info_parts info3
  go_enter Tryd.func54, Tryd.ntmps54
  go_wp2
  have HO0 := shade (World.ownsRow_lit (base := w.heap.size) (e := 3) (size := 1) w #[] 0 (by omega) (by decide) rfl)
  go_loopw [3, 4] (fun v q wr => ∃ i : Nat, i ≤ n ∧ q = .int .i64 i ∧ w.grownBy wr none ∧ wr.ownsRow w.heap.size 3 1 v (pickL (ldB F n) i).length (valI (pickL (ldB F n) i))) (fun _ q _ => n - (intOf q).toNat)
  case atStart => exact ⟨0, Nat.zero_le _, rfl, World.grownBy_alloc _ _ _, HO0.out⟩
  case round =>
    obtain ⟨i, hi, rfl, hgr, hown⟩ := hrel
    obtain ⟨A4, c4, rfl, -⟩ := ownsRow_slice hown
    have HR := shade hgr
    have HO := shade hown
    clear hgr hown HO0
    by_cases hin : i < n
    · by_cases hz : i = 0
      · have hhd : hdB F i = true := by rw [hz]; rfl
        have e0 : ((i : Int) == 0) = true := by rw [hz]; rfl
        clear hz
        have HHD := shade hhd
        clear hhd
        obtain ⟨wo, rfl⟩ : ∃ wo : World, wo = wr := ⟨_, rfl⟩
        go_wp2_with fail
        go_loopw [5, 6] (fun ld q w2 => ∃ k m : Nat, k ≤ n ∧ q = .int .i64 k ∧ ld = .bool (hdB F i || jkB F k i) ∧ w2 = wo.drewN m) (fun _ q _ => n - (intOf q).toNat)
        case atStart => exact ⟨0, 0, Nat.zero_le _, rfl, by rw [HHD.out]; rfl, rfl⟩
        case round =>
          obtain ⟨k, m, hk, rfl, rfl, rfl⟩ := hrel
          by_cases hkn : k < n
          · obtain ⟨q0, q1, q2, q3, q4⟩ := (H.out.on HR.out).five hkn
            have HJ := shade (show jkB F (k + 1) i = (jkB F k i || (jmpB (F k).op.toList && ((F k).k == (i : Int)))) from rfl)
            obtain ⟨cur, hc⟩ : ∃ cur, (hdB F i || jkB F k i) = cur := ⟨_, rfl⟩
            rw [hc]
            have HC := shade hc
            clear hc
            generalize F k = cc at *
            obtain ⟨op, d, a, b', kk⟩ := cc
            simp only [] at q0 q1 q2 q3 q4
            have HJ := shade (show jkB F (k + 1) i = (jkB F k i || (jmpB op.toList && (kk == (i : Int)))) from HJ.out)
            rcases cur with _ | _
            · rcases e7 : (op.toList == [98, 122]) with _ | _
              · rcases e8 : (op.toList == [106, 109, 112]) with _ | _
                · have HX := shade (show (hdB F i || jkB F (k + 1) i) = false by rw [HJ.out, ← Bool.or_assoc, HC.out]; unfold jmpB; rw [e7, e8]; rfl)
                  go_wp2_with fail
                  try (go_quiet (fail); go_wp2)
                  go_roundw
                  case rel => exact ⟨k + 1, _, by omega, by go_num, by rw [HX.out], rfl⟩
                  case measure => simp [intOf]; omega
                · rcases ek : (kk == (i : Int)) with _ | _
                  · have HX := shade (show (hdB F i || jkB F (k + 1) i) = false by rw [HJ.out, ← Bool.or_assoc, HC.out]; unfold jmpB; rw [e7, e8, ek]; rfl)
                    go_wp2_with fail
                    try (go_quiet (fail); go_wp2)
                    go_roundw
                    case rel => exact ⟨k + 1, _, by omega, by go_num, by rw [HX.out], rfl⟩
                    case measure => simp [intOf]; omega
                  · have HX := shade (show (hdB F i || jkB F (k + 1) i) = true by rw [HJ.out, ← Bool.or_assoc, HC.out]; unfold jmpB; rw [e7, e8, ek]; rfl)
                    go_wp2_with fail
                    try (go_quiet (fail); go_wp2)
                    go_roundw
                    case rel => exact ⟨k + 1, _, by omega, by go_num, by rw [HX.out], rfl⟩
                    case measure => simp [intOf]; omega
              · rcases ek : (kk == (i : Int)) with _ | _
                · have HX := shade (show (hdB F i || jkB F (k + 1) i) = false by rw [HJ.out, ← Bool.or_assoc, HC.out]; unfold jmpB; rw [e7, ek]; rfl)
                  go_wp2_with fail
                  try (go_quiet (fail); go_wp2)
                  go_roundw
                  case rel => exact ⟨k + 1, _, by omega, by go_num, by rw [HX.out], rfl⟩
                  case measure => simp [intOf]; omega
                · have HX := shade (show (hdB F i || jkB F (k + 1) i) = true by rw [HJ.out, ← Bool.or_assoc, HC.out]; unfold jmpB; rw [e7, ek]; rfl)
                  go_wp2_with fail
                  try (go_quiet (fail); go_wp2)
                  go_roundw
                  case rel => exact ⟨k + 1, _, by omega, by go_num, by rw [HX.out], rfl⟩
                  case measure => simp [intOf]; omega
            · have HX := shade (show (hdB F i || jkB F (k + 1) i) = true by rw [HJ.out, ← Bool.or_assoc, HC.out]; rfl)
              clear q0 q1 q2 q3 q4
              go_wp2_with fail
              try (go_quiet (fail); go_wp2)
              go_roundw
              case rel => exact ⟨k + 1, _, by omega, by go_num, by rw [HX.out], rfl⟩
              case measure => simp [intOf]; omega
          · have hkn2 : k = n := by omega
            subst hkn2
            have hown := World.ownsRow.kept HO.out (grown_drewN (grown_refl wo none) m) (Classical.em _)
            have HO2 := shade hown
            have HR2 := shade (grown_drewN HR.out m)
            clear hown
            obtain ⟨cur, hc⟩ : ∃ cur, (hdB F i || jkB F k i) = cur := ⟨_, rfl⟩
            rw [hc]
            have hl := pickL_le (ldB F k) i
            rcases cur with _ | _
            · have HB := shade (show ldB F k i = false from hc)
              clear hc
              go_wp2
              go_roundw
              case rel => exact ⟨i + 1, by omega, by go_num, HR2.out, by rw [pickL_no _ _ HB.out]; exact HO2.out⟩
              case measure => simp [intOf]; omega
            · have HB := shade (show ldB F k i = true from hc)
              clear hc
              have hi40 : i < 40 := by omega
              have hwz := HR2.out.size
              go_wp2_with (first
                | (at_builtin; refine wpList_append_own _ rfl _ _ 24 rfl w.heap.size 3 i0 (.int .i64 0) 1 8 Tryd.underlying24 hi0 hz0 hz1 hz2 rfl (by decide) _ _ _ rfl (World.ownsRow.alloc HO2.out _) ⟨wo.heap.size, 0, none⟩ 1 1 [.int .i64 (i : Int)] rfl rfl (int_new _ _ _) (int_one _) (by unfold maxLen; omega) (by omega) (by simp at hwz ⊢; omega) ?_)
                | go_in)
              intro v' w8 hown8 hgr8 hnil8
              rw [valI_snoc, ← pickL_yes _ _ HB.out] at hown8
              have hlen8 : (pickL (ldB F k) i).length + 1 = (pickL (ldB F k) (i + 1)).length := by rw [pickL_yes _ _ HB.out, List.length_append]; rfl
              rw [hlen8] at hown8
              have HO8 := shade hown8
              have HZ8 := shade (grown_row (grown_same HR2.out (World.grownBy_alloc _ (.cells #[.int .i64 (i : Int)] 3) none)) hgr8 (fun j e => (World.ownsRow.lt HO2.out j e).1))
              clear hown8 hgr8 hnil8 hlen8
              go_wp2
              go_roundw
              case rel => exact ⟨i + 1, by omega, by go_num, HZ8.out, HO8.out⟩
              case measure => simp [intOf]; omega
      · have e0 : ((i : Int) == 0) = false := beq_eq_false_iff_ne.2 (by omega)
        obtain ⟨p0, -, -, -, -⟩ := (H.out.on HR.out).five (show i - 1 < n by omega)
        have hhd0 : hdB F i = ((((F (i - 1)).op.toList == [98, 122]) || ((F (i - 1)).op.toList == [106, 109, 112])) || ((F (i - 1)).op.toList == [104, 108, 116])) := by
          obtain ⟨i', rfl⟩ : ∃ i', i = i' + 1 := ⟨i - 1, by omega⟩
          rfl
        have i1 : 1 ≤ i := by omega
        generalize (F (i - 1)).op = op0 at *
        rcases x7 : (op0.toList == [98, 122]) with _ | _
        · rcases x8 : (op0.toList == [106, 109, 112]) with _ | _
          · rcases x9 : (op0.toList == [104, 108, 116]) with _ | _
            · have hhd : hdB F i = false := by rw [hhd0, x7, x8, x9]; rfl
              clear hhd0
              have HHD := shade hhd
              clear hhd
              obtain ⟨wo, rfl⟩ : ∃ wo : World, wo = wr := ⟨_, rfl⟩
              go_wp2_with fail
              go_loopw [5, 6] (fun ld q w2 => ∃ k m : Nat, k ≤ n ∧ q = .int .i64 k ∧ ld = .bool (hdB F i || jkB F k i) ∧ w2 = wo.drewN m) (fun _ q _ => n - (intOf q).toNat)
              case atStart => exact ⟨0, 0, Nat.zero_le _, rfl, by rw [HHD.out]; rfl, rfl⟩
              case round =>
                obtain ⟨k, m, hk, rfl, rfl, rfl⟩ := hrel
                by_cases hkn : k < n
                · obtain ⟨q0, q1, q2, q3, q4⟩ := (H.out.on HR.out).five hkn
                  have HJ := shade (show jkB F (k + 1) i = (jkB F k i || (jmpB (F k).op.toList && ((F k).k == (i : Int)))) from rfl)
                  obtain ⟨cur, hc⟩ : ∃ cur, (hdB F i || jkB F k i) = cur := ⟨_, rfl⟩
                  rw [hc]
                  have HC := shade hc
                  clear hc
                  generalize F k = cc at *
                  obtain ⟨op, d, a, b', kk⟩ := cc
                  simp only [] at q0 q1 q2 q3 q4
                  have HJ := shade (show jkB F (k + 1) i = (jkB F k i || (jmpB op.toList && (kk == (i : Int)))) from HJ.out)
                  rcases cur with _ | _
                  · rcases e7 : (op.toList == [98, 122]) with _ | _
                    · rcases e8 : (op.toList == [106, 109, 112]) with _ | _
                      · have HX := shade (show (hdB F i || jkB F (k + 1) i) = false by rw [HJ.out, ← Bool.or_assoc, HC.out]; unfold jmpB; rw [e7, e8]; rfl)
                        go_wp2_with fail
                        try (go_quiet (fail); go_wp2)
                        go_roundw
                        case rel => exact ⟨k + 1, _, by omega, by go_num, by rw [HX.out], rfl⟩
                        case measure => simp [intOf]; omega
                      · rcases ek : (kk == (i : Int)) with _ | _
                        · have HX := shade (show (hdB F i || jkB F (k + 1) i) = false by rw [HJ.out, ← Bool.or_assoc, HC.out]; unfold jmpB; rw [e7, e8, ek]; rfl)
                          go_wp2_with fail
                          try (go_quiet (fail); go_wp2)
                          go_roundw
                          case rel => exact ⟨k + 1, _, by omega, by go_num, by rw [HX.out], rfl⟩
                          case measure => simp [intOf]; omega
                        · have HX := shade (show (hdB F i || jkB F (k + 1) i) = true by rw [HJ.out, ← Bool.or_assoc, HC.out]; unfold jmpB; rw [e7, e8, ek]; rfl)
                          go_wp2_with fail
                          try (go_quiet (fail); go_wp2)
                          go_roundw
                          case rel => exact ⟨k + 1, _, by omega, by go_num, by rw [HX.out], rfl⟩
                          case measure => simp [intOf]; omega
                    · rcases ek : (kk == (i : Int)) with _ | _
                      · have HX := shade (show (hdB F i || jkB F (k + 1) i) = false by rw [HJ.out, ← Bool.or_assoc, HC.out]; unfold jmpB; rw [e7, ek]; rfl)
                        go_wp2_with fail
                        try (go_quiet (fail); go_wp2)
                        go_roundw
                        case rel => exact ⟨k + 1, _, by omega, by go_num, by rw [HX.out], rfl⟩
                        case measure => simp [intOf]; omega
                      · have HX := shade (show (hdB F i || jkB F (k + 1) i) = true by rw [HJ.out, ← Bool.or_assoc, HC.out]; unfold jmpB; rw [e7, ek]; rfl)
                        go_wp2_with fail
                        try (go_quiet (fail); go_wp2)
                        go_roundw
                        case rel => exact ⟨k + 1, _, by omega, by go_num, by rw [HX.out], rfl⟩
                        case measure => simp [intOf]; omega
                  · have HX := shade (show (hdB F i || jkB F (k + 1) i) = true by rw [HJ.out, ← Bool.or_assoc, HC.out]; rfl)
                    clear q0 q1 q2 q3 q4
                    go_wp2_with fail
                    try (go_quiet (fail); go_wp2)
                    go_roundw
                    case rel => exact ⟨k + 1, _, by omega, by go_num, by rw [HX.out], rfl⟩
                    case measure => simp [intOf]; omega
                · have hkn2 : k = n := by omega
                  subst hkn2
                  have hown := World.ownsRow.kept HO.out (grown_drewN (grown_refl wo none) m) (Classical.em _)
                  have HO2 := shade hown
                  have HR2 := shade (grown_drewN HR.out m)
                  clear hown
                  obtain ⟨cur, hc⟩ : ∃ cur, (hdB F i || jkB F k i) = cur := ⟨_, rfl⟩
                  rw [hc]
                  have hl := pickL_le (ldB F k) i
                  rcases cur with _ | _
                  · have HB := shade (show ldB F k i = false from hc)
                    clear hc
                    go_wp2
                    go_roundw
                    case rel => exact ⟨i + 1, by omega, by go_num, HR2.out, by rw [pickL_no _ _ HB.out]; exact HO2.out⟩
                    case measure => simp [intOf]; omega
                  · have HB := shade (show ldB F k i = true from hc)
                    clear hc
                    have hi40 : i < 40 := by omega
                    have hwz := HR2.out.size
                    go_wp2_with (first
                      | (at_builtin; refine wpList_append_own _ rfl _ _ 24 rfl w.heap.size 3 i0 (.int .i64 0) 1 8 Tryd.underlying24 hi0 hz0 hz1 hz2 rfl (by decide) _ _ _ rfl (World.ownsRow.alloc HO2.out _) ⟨wo.heap.size, 0, none⟩ 1 1 [.int .i64 (i : Int)] rfl rfl (int_new _ _ _) (int_one _) (by unfold maxLen; omega) (by omega) (by simp at hwz ⊢; omega) ?_)
                      | go_in)
                    intro v' w8 hown8 hgr8 hnil8
                    rw [valI_snoc, ← pickL_yes _ _ HB.out] at hown8
                    have hlen8 : (pickL (ldB F k) i).length + 1 = (pickL (ldB F k) (i + 1)).length := by rw [pickL_yes _ _ HB.out, List.length_append]; rfl
                    rw [hlen8] at hown8
                    have HO8 := shade hown8
                    have HZ8 := shade (grown_row (grown_same HR2.out (World.grownBy_alloc _ (.cells #[.int .i64 (i : Int)] 3) none)) hgr8 (fun j e => (World.ownsRow.lt HO2.out j e).1))
                    clear hown8 hgr8 hnil8 hlen8
                    go_wp2
                    go_roundw
                    case rel => exact ⟨i + 1, by omega, by go_num, HZ8.out, HO8.out⟩
                    case measure => simp [intOf]; omega
            · have hhd : hdB F i = true := by rw [hhd0, x7, x8, x9]; rfl
              clear hhd0
              have HHD := shade hhd
              clear hhd
              obtain ⟨wo, rfl⟩ : ∃ wo : World, wo = wr := ⟨_, rfl⟩
              go_wp2_with fail
              go_loopw [5, 6] (fun ld q w2 => ∃ k m : Nat, k ≤ n ∧ q = .int .i64 k ∧ ld = .bool (hdB F i || jkB F k i) ∧ w2 = wo.drewN m) (fun _ q _ => n - (intOf q).toNat)
              case atStart => exact ⟨0, 0, Nat.zero_le _, rfl, by rw [HHD.out]; rfl, rfl⟩
              case round =>
                obtain ⟨k, m, hk, rfl, rfl, rfl⟩ := hrel
                by_cases hkn : k < n
                · obtain ⟨q0, q1, q2, q3, q4⟩ := (H.out.on HR.out).five hkn
                  have HJ := shade (show jkB F (k + 1) i = (jkB F k i || (jmpB (F k).op.toList && ((F k).k == (i : Int)))) from rfl)
                  obtain ⟨cur, hc⟩ : ∃ cur, (hdB F i || jkB F k i) = cur := ⟨_, rfl⟩
                  rw [hc]
                  have HC := shade hc
                  clear hc
                  generalize F k = cc at *
                  obtain ⟨op, d, a, b', kk⟩ := cc
                  simp only [] at q0 q1 q2 q3 q4
                  have HJ := shade (show jkB F (k + 1) i = (jkB F k i || (jmpB op.toList && (kk == (i : Int)))) from HJ.out)
                  rcases cur with _ | _
                  · rcases e7 : (op.toList == [98, 122]) with _ | _
                    · rcases e8 : (op.toList == [106, 109, 112]) with _ | _
                      · have HX := shade (show (hdB F i || jkB F (k + 1) i) = false by rw [HJ.out, ← Bool.or_assoc, HC.out]; unfold jmpB; rw [e7, e8]; rfl)
                        go_wp2_with fail
                        try (go_quiet (fail); go_wp2)
                        go_roundw
                        case rel => exact ⟨k + 1, _, by omega, by go_num, by rw [HX.out], rfl⟩
                        case measure => simp [intOf]; omega
                      · rcases ek : (kk == (i : Int)) with _ | _
                        · have HX := shade (show (hdB F i || jkB F (k + 1) i) = false by rw [HJ.out, ← Bool.or_assoc, HC.out]; unfold jmpB; rw [e7, e8, ek]; rfl)
                          go_wp2_with fail
                          try (go_quiet (fail); go_wp2)
                          go_roundw
                          case rel => exact ⟨k + 1, _, by omega, by go_num, by rw [HX.out], rfl⟩
                          case measure => simp [intOf]; omega
                        · have HX := shade (show (hdB F i || jkB F (k + 1) i) = true by rw [HJ.out, ← Bool.or_assoc, HC.out]; unfold jmpB; rw [e7, e8, ek]; rfl)
                          go_wp2_with fail
                          try (go_quiet (fail); go_wp2)
                          go_roundw
                          case rel => exact ⟨k + 1, _, by omega, by go_num, by rw [HX.out], rfl⟩
                          case measure => simp [intOf]; omega
                    · rcases ek : (kk == (i : Int)) with _ | _
                      · have HX := shade (show (hdB F i || jkB F (k + 1) i) = false by rw [HJ.out, ← Bool.or_assoc, HC.out]; unfold jmpB; rw [e7, ek]; rfl)
                        go_wp2_with fail
                        try (go_quiet (fail); go_wp2)
                        go_roundw
                        case rel => exact ⟨k + 1, _, by omega, by go_num, by rw [HX.out], rfl⟩
                        case measure => simp [intOf]; omega
                      · have HX := shade (show (hdB F i || jkB F (k + 1) i) = true by rw [HJ.out, ← Bool.or_assoc, HC.out]; unfold jmpB; rw [e7, ek]; rfl)
                        go_wp2_with fail
                        try (go_quiet (fail); go_wp2)
                        go_roundw
                        case rel => exact ⟨k + 1, _, by omega, by go_num, by rw [HX.out], rfl⟩
                        case measure => simp [intOf]; omega
                  · have HX := shade (show (hdB F i || jkB F (k + 1) i) = true by rw [HJ.out, ← Bool.or_assoc, HC.out]; rfl)
                    clear q0 q1 q2 q3 q4
                    go_wp2_with fail
                    try (go_quiet (fail); go_wp2)
                    go_roundw
                    case rel => exact ⟨k + 1, _, by omega, by go_num, by rw [HX.out], rfl⟩
                    case measure => simp [intOf]; omega
                · have hkn2 : k = n := by omega
                  subst hkn2
                  have hown := World.ownsRow.kept HO.out (grown_drewN (grown_refl wo none) m) (Classical.em _)
                  have HO2 := shade hown
                  have HR2 := shade (grown_drewN HR.out m)
                  clear hown
                  obtain ⟨cur, hc⟩ : ∃ cur, (hdB F i || jkB F k i) = cur := ⟨_, rfl⟩
                  rw [hc]
                  have hl := pickL_le (ldB F k) i
                  rcases cur with _ | _
                  · have HB := shade (show ldB F k i = false from hc)
                    clear hc
                    go_wp2
                    go_roundw
                    case rel => exact ⟨i + 1, by omega, by go_num, HR2.out, by rw [pickL_no _ _ HB.out]; exact HO2.out⟩
                    case measure => simp [intOf]; omega
                  · have HB := shade (show ldB F k i = true from hc)
                    clear hc
                    have hi40 : i < 40 := by omega
                    have hwz := HR2.out.size
                    go_wp2_with (first
                      | (at_builtin; refine wpList_append_own _ rfl _ _ 24 rfl w.heap.size 3 i0 (.int .i64 0) 1 8 Tryd.underlying24 hi0 hz0 hz1 hz2 rfl (by decide) _ _ _ rfl (World.ownsRow.alloc HO2.out _) ⟨wo.heap.size, 0, none⟩ 1 1 [.int .i64 (i : Int)] rfl rfl (int_new _ _ _) (int_one _) (by unfold maxLen; omega) (by omega) (by simp at hwz ⊢; omega) ?_)
                      | go_in)
                    intro v' w8 hown8 hgr8 hnil8
                    rw [valI_snoc, ← pickL_yes _ _ HB.out] at hown8
                    have hlen8 : (pickL (ldB F k) i).length + 1 = (pickL (ldB F k) (i + 1)).length := by rw [pickL_yes _ _ HB.out, List.length_append]; rfl
                    rw [hlen8] at hown8
                    have HO8 := shade hown8
                    have HZ8 := shade (grown_row (grown_same HR2.out (World.grownBy_alloc _ (.cells #[.int .i64 (i : Int)] 3) none)) hgr8 (fun j e => (World.ownsRow.lt HO2.out j e).1))
                    clear hown8 hgr8 hnil8 hlen8
                    go_wp2
                    go_roundw
                    case rel => exact ⟨i + 1, by omega, by go_num, HZ8.out, HO8.out⟩
                    case measure => simp [intOf]; omega
          · have hhd : hdB F i = true := by rw [hhd0, x7, x8]; rfl
            clear hhd0
            have HHD := shade hhd
            clear hhd
            obtain ⟨wo, rfl⟩ : ∃ wo : World, wo = wr := ⟨_, rfl⟩
            go_wp2_with fail
            go_loopw [5, 6] (fun ld q w2 => ∃ k m : Nat, k ≤ n ∧ q = .int .i64 k ∧ ld = .bool (hdB F i || jkB F k i) ∧ w2 = wo.drewN m) (fun _ q _ => n - (intOf q).toNat)
            case atStart => exact ⟨0, 0, Nat.zero_le _, rfl, by rw [HHD.out]; rfl, rfl⟩
            case round =>
              obtain ⟨k, m, hk, rfl, rfl, rfl⟩ := hrel
              by_cases hkn : k < n
              · obtain ⟨q0, q1, q2, q3, q4⟩ := (H.out.on HR.out).five hkn
                have HJ := shade (show jkB F (k + 1) i = (jkB F k i || (jmpB (F k).op.toList && ((F k).k == (i : Int)))) from rfl)
                obtain ⟨cur, hc⟩ : ∃ cur, (hdB F i || jkB F k i) = cur := ⟨_, rfl⟩
                rw [hc]
                have HC := shade hc
                clear hc
                generalize F k = cc at *
                obtain ⟨op, d, a, b', kk⟩ := cc
                simp only [] at q0 q1 q2 q3 q4
                have HJ := shade (show jkB F (k + 1) i = (jkB F k i || (jmpB op.toList && (kk == (i : Int)))) from HJ.out)
                rcases cur with _ | _
                · rcases e7 : (op.toList == [98, 122]) with _ | _
                  · rcases e8 : (op.toList == [106, 109, 112]) with _ | _
                    · have HX := shade (show (hdB F i || jkB F (k + 1) i) = false by rw [HJ.out, ← Bool.or_assoc, HC.out]; unfold jmpB; rw [e7, e8]; rfl)
                      go_wp2_with fail
                      try (go_quiet (fail); go_wp2)
                      go_roundw
                      case rel => exact ⟨k + 1, _, by omega, by go_num, by rw [HX.out], rfl⟩
                      case measure => simp [intOf]; omega
                    · rcases ek : (kk == (i : Int)) with _ | _
                      · have HX := shade (show (hdB F i || jkB F (k + 1) i) = false by rw [HJ.out, ← Bool.or_assoc, HC.out]; unfold jmpB; rw [e7, e8, ek]; rfl)
                        go_wp2_with fail
                        try (go_quiet (fail); go_wp2)
                        go_roundw
                        case rel => exact ⟨k + 1, _, by omega, by go_num, by rw [HX.out], rfl⟩
                        case measure => simp [intOf]; omega
                      · have HX := shade (show (hdB F i || jkB F (k + 1) i) = true by rw [HJ.out, ← Bool.or_assoc, HC.out]; unfold jmpB; rw [e7, e8, ek]; rfl)
                        go_wp2_with fail
                        try (go_quiet (fail); go_wp2)
                        go_roundw
                        case rel => exact ⟨k + 1, _, by omega, by go_num, by rw [HX.out], rfl⟩
                        case measure => simp [intOf]; omega
                  · rcases ek : (kk == (i : Int)) with _ | _
                    · have HX := shade (show (hdB F i || jkB F (k + 1) i) = false by rw [HJ.out, ← Bool.or_assoc, HC.out]; unfold jmpB; rw [e7, ek]; rfl)
                      go_wp2_with fail
                      try (go_quiet (fail); go_wp2)
                      go_roundw
                      case rel => exact ⟨k + 1, _, by omega, by go_num, by rw [HX.out], rfl⟩
                      case measure => simp [intOf]; omega
                    · have HX := shade (show (hdB F i || jkB F (k + 1) i) = true by rw [HJ.out, ← Bool.or_assoc, HC.out]; unfold jmpB; rw [e7, ek]; rfl)
                      go_wp2_with fail
                      try (go_quiet (fail); go_wp2)
                      go_roundw
                      case rel => exact ⟨k + 1, _, by omega, by go_num, by rw [HX.out], rfl⟩
                      case measure => simp [intOf]; omega
                · have HX := shade (show (hdB F i || jkB F (k + 1) i) = true by rw [HJ.out, ← Bool.or_assoc, HC.out]; rfl)
                  clear q0 q1 q2 q3 q4
                  go_wp2_with fail
                  try (go_quiet (fail); go_wp2)
                  go_roundw
                  case rel => exact ⟨k + 1, _, by omega, by go_num, by rw [HX.out], rfl⟩
                  case measure => simp [intOf]; omega
              · have hkn2 : k = n := by omega
                subst hkn2
                have hown := World.ownsRow.kept HO.out (grown_drewN (grown_refl wo none) m) (Classical.em _)
                have HO2 := shade hown
                have HR2 := shade (grown_drewN HR.out m)
                clear hown
                obtain ⟨cur, hc⟩ : ∃ cur, (hdB F i || jkB F k i) = cur := ⟨_, rfl⟩
                rw [hc]
                have hl := pickL_le (ldB F k) i
                rcases cur with _ | _
                · have HB := shade (show ldB F k i = false from hc)
                  clear hc
                  go_wp2
                  go_roundw
                  case rel => exact ⟨i + 1, by omega, by go_num, HR2.out, by rw [pickL_no _ _ HB.out]; exact HO2.out⟩
                  case measure => simp [intOf]; omega
                · have HB := shade (show ldB F k i = true from hc)
                  clear hc
                  have hi40 : i < 40 := by omega
                  have hwz := HR2.out.size
                  go_wp2_with (first
                    | (at_builtin; refine wpList_append_own _ rfl _ _ 24 rfl w.heap.size 3 i0 (.int .i64 0) 1 8 Tryd.underlying24 hi0 hz0 hz1 hz2 rfl (by decide) _ _ _ rfl (World.ownsRow.alloc HO2.out _) ⟨wo.heap.size, 0, none⟩ 1 1 [.int .i64 (i : Int)] rfl rfl (int_new _ _ _) (int_one _) (by unfold maxLen; omega) (by omega) (by simp at hwz ⊢; omega) ?_)
                    | go_in)
                  intro v' w8 hown8 hgr8 hnil8
                  rw [valI_snoc, ← pickL_yes _ _ HB.out] at hown8
                  have hlen8 : (pickL (ldB F k) i).length + 1 = (pickL (ldB F k) (i + 1)).length := by rw [pickL_yes _ _ HB.out, List.length_append]; rfl
                  rw [hlen8] at hown8
                  have HO8 := shade hown8
                  have HZ8 := shade (grown_row (grown_same HR2.out (World.grownBy_alloc _ (.cells #[.int .i64 (i : Int)] 3) none)) hgr8 (fun j e => (World.ownsRow.lt HO2.out j e).1))
                  clear hown8 hgr8 hnil8 hlen8
                  go_wp2
                  go_roundw
                  case rel => exact ⟨i + 1, by omega, by go_num, HZ8.out, HO8.out⟩
                  case measure => simp [intOf]; omega
        · have hhd : hdB F i = true := by rw [hhd0, x7]; rfl
          clear hhd0
          have HHD := shade hhd
          clear hhd
          obtain ⟨wo, rfl⟩ : ∃ wo : World, wo = wr := ⟨_, rfl⟩
          go_wp2_with fail
          go_loopw [5, 6] (fun ld q w2 => ∃ k m : Nat, k ≤ n ∧ q = .int .i64 k ∧ ld = .bool (hdB F i || jkB F k i) ∧ w2 = wo.drewN m) (fun _ q _ => n - (intOf q).toNat)
          case atStart => exact ⟨0, 0, Nat.zero_le _, rfl, by rw [HHD.out]; rfl, rfl⟩
          case round =>
            obtain ⟨k, m, hk, rfl, rfl, rfl⟩ := hrel
            by_cases hkn : k < n
            · obtain ⟨q0, q1, q2, q3, q4⟩ := (H.out.on HR.out).five hkn
              have HJ := shade (show jkB F (k + 1) i = (jkB F k i || (jmpB (F k).op.toList && ((F k).k == (i : Int)))) from rfl)
              obtain ⟨cur, hc⟩ : ∃ cur, (hdB F i || jkB F k i) = cur := ⟨_, rfl⟩
              rw [hc]
              have HC := shade hc
              clear hc
              generalize F k = cc at *
              obtain ⟨op, d, a, b', kk⟩ := cc
              simp only [] at q0 q1 q2 q3 q4
              have HJ := shade (show jkB F (k + 1) i = (jkB F k i || (jmpB op.toList && (kk == (i : Int)))) from HJ.out)
              rcases cur with _ | _
              · rcases e7 : (op.toList == [98, 122]) with _ | _
                · rcases e8 : (op.toList == [106, 109, 112]) with _ | _
                  · have HX := shade (show (hdB F i || jkB F (k + 1) i) = false by rw [HJ.out, ← Bool.or_assoc, HC.out]; unfold jmpB; rw [e7, e8]; rfl)
                    go_wp2_with fail
                    try (go_quiet (fail); go_wp2)
                    go_roundw
                    case rel => exact ⟨k + 1, _, by omega, by go_num, by rw [HX.out], rfl⟩
                    case measure => simp [intOf]; omega
                  · rcases ek : (kk == (i : Int)) with _ | _
                    · have HX := shade (show (hdB F i || jkB F (k + 1) i) = false by rw [HJ.out, ← Bool.or_assoc, HC.out]; unfold jmpB; rw [e7, e8, ek]; rfl)
                      go_wp2_with fail
                      try (go_quiet (fail); go_wp2)
                      go_roundw
                      case rel => exact ⟨k + 1, _, by omega, by go_num, by rw [HX.out], rfl⟩
                      case measure => simp [intOf]; omega
                    · have HX := shade (show (hdB F i || jkB F (k + 1) i) = true by rw [HJ.out, ← Bool.or_assoc, HC.out]; unfold jmpB; rw [e7, e8, ek]; rfl)
                      go_wp2_with fail
                      try (go_quiet (fail); go_wp2)
                      go_roundw
                      case rel => exact ⟨k + 1, _, by omega, by go_num, by rw [HX.out], rfl⟩
                      case measure => simp [intOf]; omega
                · rcases ek : (kk == (i : Int)) with _ | _
                  · have HX := shade (show (hdB F i || jkB F (k + 1) i) = false by rw [HJ.out, ← Bool.or_assoc, HC.out]; unfold jmpB; rw [e7, ek]; rfl)
                    go_wp2_with fail
                    try (go_quiet (fail); go_wp2)
                    go_roundw
                    case rel => exact ⟨k + 1, _, by omega, by go_num, by rw [HX.out], rfl⟩
                    case measure => simp [intOf]; omega
                  · have HX := shade (show (hdB F i || jkB F (k + 1) i) = true by rw [HJ.out, ← Bool.or_assoc, HC.out]; unfold jmpB; rw [e7, ek]; rfl)
                    go_wp2_with fail
                    try (go_quiet (fail); go_wp2)
                    go_roundw
                    case rel => exact ⟨k + 1, _, by omega, by go_num, by rw [HX.out], rfl⟩
                    case measure => simp [intOf]; omega
              · have HX := shade (show (hdB F i || jkB F (k + 1) i) = true by rw [HJ.out, ← Bool.or_assoc, HC.out]; rfl)
                clear q0 q1 q2 q3 q4
                go_wp2_with fail
                try (go_quiet (fail); go_wp2)
                go_roundw
                case rel => exact ⟨k + 1, _, by omega, by go_num, by rw [HX.out], rfl⟩
                case measure => simp [intOf]; omega
            · have hkn2 : k = n := by omega
              subst hkn2
              have hown := World.ownsRow.kept HO.out (grown_drewN (grown_refl wo none) m) (Classical.em _)
              have HO2 := shade hown
              have HR2 := shade (grown_drewN HR.out m)
              clear hown
              obtain ⟨cur, hc⟩ : ∃ cur, (hdB F i || jkB F k i) = cur := ⟨_, rfl⟩
              rw [hc]
              have hl := pickL_le (ldB F k) i
              rcases cur with _ | _
              · have HB := shade (show ldB F k i = false from hc)
                clear hc
                go_wp2
                go_roundw
                case rel => exact ⟨i + 1, by omega, by go_num, HR2.out, by rw [pickL_no _ _ HB.out]; exact HO2.out⟩
                case measure => simp [intOf]; omega
              · have HB := shade (show ldB F k i = true from hc)
                clear hc
                have hi40 : i < 40 := by omega
                have hwz := HR2.out.size
                go_wp2_with (first
                  | (at_builtin; refine wpList_append_own _ rfl _ _ 24 rfl w.heap.size 3 i0 (.int .i64 0) 1 8 Tryd.underlying24 hi0 hz0 hz1 hz2 rfl (by decide) _ _ _ rfl (World.ownsRow.alloc HO2.out _) ⟨wo.heap.size, 0, none⟩ 1 1 [.int .i64 (i : Int)] rfl rfl (int_new _ _ _) (int_one _) (by unfold maxLen; omega) (by omega) (by simp at hwz ⊢; omega) ?_)
                  | go_in)
                intro v' w8 hown8 hgr8 hnil8
                rw [valI_snoc, ← pickL_yes _ _ HB.out] at hown8
                have hlen8 : (pickL (ldB F k) i).length + 1 = (pickL (ldB F k) (i + 1)).length := by rw [pickL_yes _ _ HB.out, List.length_append]; rfl
                rw [hlen8] at hown8
                have HO8 := shade hown8
                have HZ8 := shade (grown_row (grown_same HR2.out (World.grownBy_alloc _ (.cells #[.int .i64 (i : Int)] 3) none)) hgr8 (fun j e => (World.ownsRow.lt HO2.out j e).1))
                clear hown8 hgr8 hnil8 hlen8
                go_wp2
                go_roundw
                case rel => exact ⟨i + 1, by omega, by go_num, HZ8.out, HO8.out⟩
                case measure => simp [intOf]; omega
    · have hin2 : i = n := by omega
      subst hin2
      go_wp2
      go_ret
      exact ⟨_, rfl, HO.out, HR.out⟩
end Go.Proofs.YtbdlbooooiinkaaDoor
