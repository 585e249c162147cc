/- The examples of chapter 4 hold. -/
import Derived.Test.YtbfgeinneglpdaaSm
import Derived.Lib.QuietBelow
import Derived.BigQuiet
namespace Go.Proofs.Ytbfgeinneglpdaa
open Go.RowKit Go.Sort
set_option linter.unusedVariables false
attribute [local go_sem] run_eq4 run_eqU_same

theorem idx_top (w : World) : (Instr.index 24 (I4 18446744073709551615 18446744073709551615 18446744073709551615 18446744073709551615) (.int .i64 3)).run Try.prog w = .ok (.int .u64 18446744073709551615) w := by
  simp [Instr.index, asIntOf, run_underlying Try.underlying24]
  exact run_part_plain (e := 22) (w := w) (by kernel_rfl) (v := .int .u64 18446744073709551615) rfl

set_option maxRecDepth 100000 in
set_option maxHeartbeats 4000000 in
theorem minus_raw (n x : Nat)
    (hn : Hid (∀ w, Calls Try.prog 9 #[I4 n 0 0 0] w fun e w' => e = .returned (U x) ∧ Below w.heap.size w w')) (w : World) :
    Calls Try.prog 42 #[B n] w fun e w' => e = .returned (U x) ∧ Below w.heap.size w w' := by
  go_enter Try.func42, Try.ntmps42
  go_wp2_with fail
  refine (hn.out _).mono ?_
  rintro e w1 ⟨rfl, hb1⟩
  have R0_1 : Hid (HasRow w1 (w.heap.size) #[.int .u64 0, .int .u64 0, .int .u64 0, .int .u64 0]) := (HasRow.last (by simp)).below hb1
  have B1 : Hid (Below w.heap.size w w1) := bel_call (bel_alloc (Below.refl _ _) _) hb1
  clear hb1
  have q0_1 := R0_1.out.lt
  have c0_0_1 : w1.cell? ⟨w.heap.size, 0, none⟩ = some (.int .u64 0) := R0_1.out.cell 0
  have c0_1_1 : w1.cell? ⟨w.heap.size, 1, none⟩ = some (.int .u64 0) := R0_1.out.cell 1
  have c0_2_1 : w1.cell? ⟨w.heap.size, 2, none⟩ = some (.int .u64 0) := R0_1.out.cell 2
  have c0_3_1 : w1.cell? ⟨w.heap.size, 3, none⟩ = some (.int .u64 0) := R0_1.out.cell 3
  have z0_0_1 := R0_1.out.frozen 0
  have z0_1_1 := R0_1.out.frozen 1
  have z0_2_1 := R0_1.out.frozen 2
  have z0_3_1 := R0_1.out.frozen 3
  go_wp2
  rw [set4 R0_1.out rfl]
  exact bodyPost_ret (v := U x) (results_cell1 (p := 2) (ty := 24) rfl (g := w.heap.size) rfl (R0_1.out.set_same _) rfl Try.underlying24 (by kernel_rfl)) rfl ⟨rfl, (below_setRow B1.out (by omega) _)⟩

set_option maxRecDepth 100000 in
set_option maxHeartbeats 4000000 in
theorem awake4_gen (x7 x3 x8 x4 : Nat)
    (m7 : Hid (∀ w, Calls Try.prog 42 #[B 7] w fun e w' => e = .returned (U x7) ∧ Below w.heap.size w w'))
    (hd : Hid (∀ w, Calls Try.prog 7 #[U x7, I4 2 0 0 0] w fun e w' => e = .returned (.tuple #[U x3, I4 18446744073709551615 18446744073709551615 18446744073709551615 18446744073709551615]) ∧ Below w.heap.size w w'))
    (m3 : Hid (∀ w, Calls Try.prog 42 #[B 3] w fun e w' => e = .returned (U x3) ∧ Below w.heap.size w w'))
    (m1 : Hid (∀ w, Calls Try.prog 42 #[B 1] w fun e w' => e = .returned (I4 18446744073709551615 18446744073709551615 18446744073709551615 18446744073709551615) ∧ Below w.heap.size w w'))
    (hl : Hid (∀ w, Calls Try.prog 11 #[I4 18446744073709551615 18446744073709551615 18446744073709551615 18446744073709551615, I4 0 0 0 0] w fun e w' => e = .returned (.bool true) ∧ Below w.heap.size w w'))
    (m8 : Hid (∀ w, Calls Try.prog 42 #[B 8] w fun e w' => e = .returned (U x8) ∧ Below w.heap.size w w'))
    (hs : Hid (∀ w, Calls Try.prog 13 #[U x8, B 1] w fun e w' => e = .returned (U x4) ∧ Below w.heap.size w w'))
    (m4 : Hid (∀ w, Calls Try.prog 42 #[B 4] w fun e w' => e = .returned (U x4) ∧ Below w.heap.size w w'))
    (he : Hid (∀ w, Calls Try.prog 15 #[I4 0 0 0 0, I4 255 0 0 0] w fun e w' => e = .returned (I4 18446744073709551615 18446744073709551615 18446744073709551615 18446744073709551615) ∧ Below w.heap.size w w')) (w : World) :
    Calls Try.prog 19 #[] w fun e w' => e = .returned (.bool true) ∧ Below w.heap.size w w' := by
  go_enter Try.func19, Try.ntmps19
  have hmf : ∀ (fn : Fn) (first cap : Array Value) (w : World), (Instr.makeFunc fn first cap).run Try.prog w = .ok (.func fn first cap) w := fun _ _ _ _ => rfl
  have hix := idx_top
  go_wp2_with fail
  refine (m7.out _).mono ?_
  rintro e w1 ⟨rfl, hb1⟩
  have B1 : Hid (Below w.heap.size w w1) := bel_call (Below.refl _ _) hb1
  clear hb1
  go_wp2_with fail
  refine (hd.out _).mono ?_
  rintro e w2 ⟨rfl, hb2⟩
  have B2 : Hid (Below w.heap.size w w2) := bel_call B1.out hb2
  clear hb2
  go_wp2_with fail
  refine name_world _ ?_
  intro wF hF
  have RF0 : Hid (HasRow wF (w2.heap.size) #[B (l0 x3), B (l1 x3), B (l2 x3), B (l3 x3)]) := by rw [hF]; exact (HasRow.old (HasRow.last (by simp)))
  have RF1 : Hid (HasRow wF (w2.heap.size + 1) #[.int .u64 18446744073709551615, .int .u64 18446744073709551615, .int .u64 18446744073709551615, .int .u64 18446744073709551615]) := by rw [hF]; exact (HasRow.last (by simp))
  have BF : Hid (Below w.heap.size w wF) := by rw [hF]; exact (bel_alloc (bel_alloc B2.out _) _)
  clear hF
  clear B2 
  have d0_0 : wF.cell? ⟨w2.heap.size, 0, none⟩ = some (B (l0 x3)) := RF0.out.cell 0
  replace d0_0 := cell_regrown d0_0
  have d0_1 : wF.cell? ⟨w2.heap.size, 1, none⟩ = some (B (l1 x3)) := RF0.out.cell 1
  replace d0_1 := cell_regrown d0_1
  have d0_2 : wF.cell? ⟨w2.heap.size, 2, none⟩ = some (B (l2 x3)) := RF0.out.cell 2
  replace d0_2 := cell_regrown d0_2
  have d0_3 : wF.cell? ⟨w2.heap.size, 3, none⟩ = some (B (l3 x3)) := RF0.out.cell 3
  replace d0_3 := cell_regrown d0_3
  have d1_0 : wF.cell? ⟨w2.heap.size + 1, 0, none⟩ = some (.int .u64 18446744073709551615) := RF1.out.cell 0
  replace d1_0 := cell_regrown d1_0
  have d1_1 : wF.cell? ⟨w2.heap.size + 1, 1, none⟩ = some (.int .u64 18446744073709551615) := RF1.out.cell 1
  replace d1_1 := cell_regrown d1_1
  have d1_2 : wF.cell? ⟨w2.heap.size + 1, 2, none⟩ = some (.int .u64 18446744073709551615) := RF1.out.cell 2
  replace d1_2 := cell_regrown d1_2
  have d1_3 : wF.cell? ⟨w2.heap.size + 1, 3, none⟩ = some (.int .u64 18446744073709551615) := RF1.out.cell 3
  replace d1_3 := cell_regrown d1_3
  refine wp_region_quiet_below (by kernel_rfl) (by kernel_rfl) ?_
  repeat (go_big_quiet_step (fail))
  go_big_quiet_step ((exact Calls.regrown_of (m3.out _)))
  repeat (go_big_quiet_step (fail))
  go_big_quiet_step ((exact Calls.regrown_of (m1.out _)))
  repeat (go_big_quiet_step (fail))
  go_big_quiet_step ((exact Calls.regrown_of (m1.out _)))
  repeat (go_big_quiet_step (fail))
  go_big_quiet_step ((exact Calls.regrown_of (hl.out _)))
  repeat (go_big_quiet_step (fail))
  go_big_quiet_step ((exact Calls.regrown_of (m8.out _)))
  repeat (go_big_quiet_step (fail))
  go_big_quiet_step ((exact Calls.regrown_of (hs.out _)))
  repeat (go_big_quiet_step (fail))
  go_big_quiet_step ((exact Calls.regrown_of (m4.out _)))
  repeat (go_big_quiet_step (fail))
  go_big_quiet_step ((exact Calls.regrown_of (he.out _)))
  repeat (go_big_quiet_step (fail))
  go_big_quiet_step ((exact Calls.regrown_of (m1.out _)))
  repeat (go_big_quiet_step (fail))
  go_big_quiet_step ((exact Calls.regrown_of (m1.out _)))
  repeat (go_big_quiet_step (fail))
  refine wpQuiet_nil ?_
  intro w3 hw'
  have hb3 : Below wF.heap.size wF w3 := by obtain ⟨p, rfl⟩ := hw'; exact below_regrown _ _ _
  clear hw'
  clear d0_0 d0_1 d0_2 d0_3
  clear d1_0 d1_1 d1_2 d1_3
  have R0_3 : Hid (HasRow w3 (w2.heap.size) #[B (l0 x3), B (l1 x3), B (l2 x3), B (l3 x3)]) := RF0.out.below hb3
  have R1_3 : Hid (HasRow w3 (w2.heap.size + 1) #[.int .u64 18446744073709551615, .int .u64 18446744073709551615, .int .u64 18446744073709551615, .int .u64 18446744073709551615]) := RF1.out.below hb3
  have B3 : Hid (Below w.heap.size w w3) := bel_call BF.out hb3
  clear hb3 BF RF0 RF1
  clear wF
  have q0_3 := R0_3.out.lt
  have q1_3 := R1_3.out.lt
  go_wp2
  go_ret
  exact ⟨rfl, B3.out⟩

theorem minus_any (n : Nat) (h : n < 256) (w : World) : Calls Try.prog 42 #[B n] w fun e w' => e = .returned (U (negW n)) ∧ Below w.heap.size w w' := by
  exact minus_raw n _ (fun w => by have q := neg_any n (Nat.lt_trans h (by decide +kernel)) w; rw [U_small n h] at q; exact q) w
theorem U_ones : U 115792089237316195423570985008687907853269984665640564039457584007913129639935 = I4 18446744073709551615 18446744073709551615 18446744073709551615 18446744073709551615 := by kernel_rfl
theorem awake4_any (w : World) : Calls Try.prog 19 #[] w fun e w' => e = .returned (.bool true) ∧ Below w.heap.size w w' := by
  refine awake4_gen (negW 7) (negW 3) (negW 8) (negW 4) (minus_any 7 (by decide)) (fun w => ?_) (minus_any 3 (by decide)) (fun w => ?_) (fun w => ?_) (minus_any 8 (by decide)) (fun w => ?_) (minus_any 4 (by decide)) (fun w => ?_) w
  · have h := sdiv_any (negW 7) 2 (negW_lt 7) (by decide +kernel) w
    rw [show sq (negW 7) 2 = negW 3 by decide +kernel, show sr (negW 7) 2 = 115792089237316195423570985008687907853269984665640564039457584007913129639935 by decide +kernel, U_ones, U_small 2 (by decide)] at h
    exact h
  · have h := minus_any 1 (by decide) w
    rw [show negW 1 = 115792089237316195423570985008687907853269984665640564039457584007913129639935 by decide +kernel, U_ones] at h
    exact h
  · have h := less_any 115792089237316195423570985008687907853269984665640564039457584007913129639935 0 (by decide +kernel) W_pos w
    rw [show ls 115792089237316195423570985008687907853269984665640564039457584007913129639935 0 = true by decide +kernel, U_ones, U_zero] at h
    exact h
  · have h := sar_any (negW 8) 1 (negW_lt 8) w
    rw [show sar (negW 8) 1 = negW 4 by decide +kernel] at h
    exact h
  · have h := ext_any 0 255 W_pos (by decide +kernel) w
    rw [show exW 0 255 = 115792089237316195423570985008687907853269984665640564039457584007913129639935 by decide +kernel, U_ones, U_zero, U_small 255 (by decide)] at h
    exact h
end Go.Proofs.Ytbfgeinneglpdaa
