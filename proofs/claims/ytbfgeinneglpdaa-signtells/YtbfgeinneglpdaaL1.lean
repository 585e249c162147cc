/- The law SignTells, walked. -/
import Derived.Test.YtbfgeinneglpdaaSm
import Derived.Lib.QuietBelow
import Derived.BigQuiet
namespace Go.Proofs.Ytbfgeinneglpdaa
open Go.RowKit Go.Sort
set_option linter.unusedVariables false
attribute [local go_sem] run_eq4 run_eqU_same

set_option maxRecDepth 100000 in
set_option maxHeartbeats 4000000 in
theorem tells4_gen (a b n m q r x1 x3 x4 x5 x6 x7 : Nat) (x2 : Bool)
    (hd1 : Hid (∀ w, Calls Try.prog 7 #[U a, U b] w fun e w' => e = .returned (.tuple #[U q, U r]) ∧ Below w.heap.size w w'))
    (hd2 : Hid (∀ w, Calls Try.prog 8 #[U a, U b] w fun e w' => e = .returned (.tuple #[U q, U r]) ∧ Below w.heap.size w w'))
    (k0 : Hid (∀ w, Calls Try.prog 9 #[U a] w fun e w' => e = .returned (U x1) ∧ Below w.heap.size w w'))
    (r0 : Hid (∀ w, Calls Try.prog 10 #[U a] w fun e w' => e = .returned (U x1) ∧ Below w.heap.size w w'))
    (k1 : Hid (∀ w, Calls Try.prog 11 #[U a, U b] w fun e w' => e = .returned (.bool x2) ∧ Below w.heap.size w w'))
    (r1 : Hid (∀ w, Calls Try.prog 12 #[U a, U b] w fun e w' => e = .returned (.bool x2) ∧ Below w.heap.size w w'))
    (k2 : Hid (∀ w, Calls Try.prog 13 #[U a, B n] w fun e w' => e = .returned (U x3) ∧ Below w.heap.size w w'))
    (r2 : Hid (∀ w, Calls Try.prog 14 #[U a, B n] w fun e w' => e = .returned (U x3) ∧ Below w.heap.size w w'))
    (k3 : Hid (∀ w, Calls Try.prog 15 #[U b, U a] w fun e w' => e = .returned (U x4) ∧ Below w.heap.size w w'))
    (r3 : Hid (∀ w, Calls Try.prog 16 #[U b, U a] w fun e w' => e = .returned (U x4) ∧ Below w.heap.size w w'))
    (k4 : Hid (∀ w, Calls Try.prog 15 #[I4 m 0 0 0, U a] w fun e w' => e = .returned (U x5) ∧ Below w.heap.size w w'))
    (r4 : Hid (∀ w, Calls Try.prog 16 #[I4 m 0 0 0, U a] w fun e w' => e = .returned (U x5) ∧ Below w.heap.size w w'))
    (k5 : Hid (∀ w, Calls Try.prog 17 #[U b, U a] w fun e w' => e = .returned (U x6) ∧ Below w.heap.size w w'))
    (r5 : Hid (∀ w, Calls Try.prog 18 #[U b, U a] w fun e w' => e = .returned (U x6) ∧ Below w.heap.size w w'))
    (k6 : Hid (∀ w, Calls Try.prog 17 #[I4 m 0 0 0, U a] w fun e w' => e = .returned (U x7) ∧ Below w.heap.size w w'))
    (r6 : Hid (∀ w, Calls Try.prog 18 #[I4 m 0 0 0, U a] w fun e w' => e = .returned (U x7) ∧ Below w.heap.size w w'))
    (ha : Hid (∀ w, Calls Try.prog 19 #[] w fun e w' => e = .returned (.bool true) ∧ Below w.heap.size w w'))
    (hm : (n : Int).tmod 40 = (m : Int)) (w : World) :
    Calls Try.prog 3 #[U a, U b, B n] w fun e w' => e = .returned (.bool true) ∧ Below w.heap.size w w' := by
  go_enter Try.func3, Try.ntmps3
  go_wp2_with fail
  refine (hd1.out _).mono ?_
  rintro e w1 ⟨rfl, hb1⟩
  have R0_1 : Hid (HasRow w1 (w.heap.size) #[B (l0 a), B (l1 a), B (l2 a), B (l3 a)]) := (HasRow.old (HasRow.last (by simp))).below hb1
  have R1_1 : Hid (HasRow w1 (w.heap.size + 1) #[B (l0 b), B (l1 b), B (l2 b), B (l3 b)]) := (HasRow.last (by simp)).below hb1
  have B1 : Hid (Below w.heap.size w w1) := bel_call (bel_alloc (bel_alloc (Below.refl _ _) _) _) hb1
  clear hb1
  have q0_1 := R0_1.out.lt
  have q1_1 := R1_1.out.lt
  have c0_0_1 : w1.cell? ⟨w.heap.size, 0, none⟩ = some (B (l0 a)) := R0_1.out.cell 0
  have c0_1_1 : w1.cell? ⟨w.heap.size, 1, none⟩ = some (B (l1 a)) := R0_1.out.cell 1
  have c0_2_1 : w1.cell? ⟨w.heap.size, 2, none⟩ = some (B (l2 a)) := R0_1.out.cell 2
  have c0_3_1 : w1.cell? ⟨w.heap.size, 3, none⟩ = some (B (l3 a)) := R0_1.out.cell 3
  have c1_0_1 : w1.cell? ⟨w.heap.size + 1, 0, none⟩ = some (B (l0 b)) := R1_1.out.cell 0
  have c1_1_1 : w1.cell? ⟨w.heap.size + 1, 1, none⟩ = some (B (l1 b)) := R1_1.out.cell 1
  have c1_2_1 : w1.cell? ⟨w.heap.size + 1, 2, none⟩ = some (B (l2 b)) := R1_1.out.cell 2
  have c1_3_1 : w1.cell? ⟨w.heap.size + 1, 3, none⟩ = some (B (l3 b)) := R1_1.out.cell 3
  go_wp2_with fail
  refine (hd2.out _).mono ?_
  rintro e w2 ⟨rfl, hb2⟩
  have R0_2 : Hid (HasRow w2 (w.heap.size) #[B (l0 a), B (l1 a), B (l2 a), B (l3 a)]) := (HasRow.old (HasRow.old R0_1.out)).below hb2
  have R1_2 : Hid (HasRow w2 (w.heap.size + 1) #[B (l0 b), B (l1 b), B (l2 b), B (l3 b)]) := (HasRow.old (HasRow.old R1_1.out)).below hb2
  have R2_2 : Hid (HasRow w2 (w1.heap.size) #[B (l0 q), B (l1 q), B (l2 q), B (l3 q)]) := (HasRow.old (HasRow.last (by simp))).below hb2
  have R3_2 : Hid (HasRow w2 (w1.heap.size + 1) #[B (l0 r), B (l1 r), B (l2 r), B (l3 r)]) := (HasRow.last (by simp)).below hb2
  have B2 : Hid (Below w.heap.size w w2) := bel_call (bel_alloc (bel_alloc B1.out _) _) hb2
  clear hb2
  clear q0_1 q1_1 c0_0_1 c0_1_1 c0_2_1 c0_3_1 c1_0_1 c1_1_1 c1_2_1 c1_3_1
  have q0_2 := R0_2.out.lt
  have q1_2 := R1_2.out.lt
  have q2_2 := R2_2.out.lt
  have q3_2 := R3_2.out.lt
  go_wp2_with fail
  refine name_world _ ?_
  intro wF hF
  have RF0 : Hid (HasRow wF (w.heap.size) #[B (l0 a), B (l1 a), B (l2 a), B (l3 a)]) := by rw [hF]; exact (HasRow.old (HasRow.old (HasRow.old R0_2.out)))
  have RF1 : Hid (HasRow wF (w.heap.size + 1) #[B (l0 b), B (l1 b), B (l2 b), B (l3 b)]) := by rw [hF]; exact (HasRow.old (HasRow.old (HasRow.old R1_2.out)))
  have RF2 : Hid (HasRow wF (w1.heap.size) #[B (l0 q), B (l1 q), B (l2 q), B (l3 q)]) := by rw [hF]; exact (HasRow.old (HasRow.old (HasRow.old R2_2.out)))
  have RF3 : Hid (HasRow wF (w1.heap.size + 1) #[B (l0 r), B (l1 r), B (l2 r), B (l3 r)]) := by rw [hF]; exact (HasRow.old (HasRow.old (HasRow.old R3_2.out)))
  have RF4 : Hid (HasRow wF (w2.heap.size) #[B (l0 q), B (l1 q), B (l2 q), B (l3 q)]) := by rw [hF]; exact (HasRow.old (HasRow.old (HasRow.last (by simp))))
  have RF5 : Hid (HasRow wF (w2.heap.size + 1) #[B (l0 r), B (l1 r), B (l2 r), B (l3 r)]) := by rw [hF]; exact (HasRow.old (HasRow.last (by simp)))
  have RF6 : Hid (HasRow wF (w2.heap.size + 1 + 1) #[.int .u64 (m : Int), .int .u64 0, .int .u64 0, .int .u64 0]) := by rw [hF]; exact (HasRow.last (by simp))
  have BF : Hid (Below w.heap.size w wF) := by rw [hF]; exact (bel_alloc (bel_alloc (bel_alloc B2.out _) _) _)
  clear hF
  clear q0_2 q1_2 q2_2 q3_2
  clear B2 R0_2 R1_2 R2_2 R3_2
  have d0_0 : wF.cell? ⟨w.heap.size, 0, none⟩ = some (B (l0 a)) := RF0.out.cell 0
  replace d0_0 := cell_regrown d0_0
  have d0_1 : wF.cell? ⟨w.heap.size, 1, none⟩ = some (B (l1 a)) := RF0.out.cell 1
  replace d0_1 := cell_regrown d0_1
  have d0_2 : wF.cell? ⟨w.heap.size, 2, none⟩ = some (B (l2 a)) := RF0.out.cell 2
  replace d0_2 := cell_regrown d0_2
  have d0_3 : wF.cell? ⟨w.heap.size, 3, none⟩ = some (B (l3 a)) := RF0.out.cell 3
  replace d0_3 := cell_regrown d0_3
  have d1_0 : wF.cell? ⟨w.heap.size + 1, 0, none⟩ = some (B (l0 b)) := RF1.out.cell 0
  replace d1_0 := cell_regrown d1_0
  have d1_1 : wF.cell? ⟨w.heap.size + 1, 1, none⟩ = some (B (l1 b)) := RF1.out.cell 1
  replace d1_1 := cell_regrown d1_1
  have d1_2 : wF.cell? ⟨w.heap.size + 1, 2, none⟩ = some (B (l2 b)) := RF1.out.cell 2
  replace d1_2 := cell_regrown d1_2
  have d1_3 : wF.cell? ⟨w.heap.size + 1, 3, none⟩ = some (B (l3 b)) := RF1.out.cell 3
  replace d1_3 := cell_regrown d1_3
  have d2_0 : wF.cell? ⟨w1.heap.size, 0, none⟩ = some (B (l0 q)) := RF2.out.cell 0
  replace d2_0 := cell_regrown d2_0
  have d2_1 : wF.cell? ⟨w1.heap.size, 1, none⟩ = some (B (l1 q)) := RF2.out.cell 1
  replace d2_1 := cell_regrown d2_1
  have d2_2 : wF.cell? ⟨w1.heap.size, 2, none⟩ = some (B (l2 q)) := RF2.out.cell 2
  replace d2_2 := cell_regrown d2_2
  have d2_3 : wF.cell? ⟨w1.heap.size, 3, none⟩ = some (B (l3 q)) := RF2.out.cell 3
  replace d2_3 := cell_regrown d2_3
  have d3_0 : wF.cell? ⟨w1.heap.size + 1, 0, none⟩ = some (B (l0 r)) := RF3.out.cell 0
  replace d3_0 := cell_regrown d3_0
  have d3_1 : wF.cell? ⟨w1.heap.size + 1, 1, none⟩ = some (B (l1 r)) := RF3.out.cell 1
  replace d3_1 := cell_regrown d3_1
  have d3_2 : wF.cell? ⟨w1.heap.size + 1, 2, none⟩ = some (B (l2 r)) := RF3.out.cell 2
  replace d3_2 := cell_regrown d3_2
  have d3_3 : wF.cell? ⟨w1.heap.size + 1, 3, none⟩ = some (B (l3 r)) := RF3.out.cell 3
  replace d3_3 := cell_regrown d3_3
  have d4_0 : wF.cell? ⟨w2.heap.size, 0, none⟩ = some (B (l0 q)) := RF4.out.cell 0
  replace d4_0 := cell_regrown d4_0
  have d4_1 : wF.cell? ⟨w2.heap.size, 1, none⟩ = some (B (l1 q)) := RF4.out.cell 1
  replace d4_1 := cell_regrown d4_1
  have d4_2 : wF.cell? ⟨w2.heap.size, 2, none⟩ = some (B (l2 q)) := RF4.out.cell 2
  replace d4_2 := cell_regrown d4_2
  have d4_3 : wF.cell? ⟨w2.heap.size, 3, none⟩ = some (B (l3 q)) := RF4.out.cell 3
  replace d4_3 := cell_regrown d4_3
  have d5_0 : wF.cell? ⟨w2.heap.size + 1, 0, none⟩ = some (B (l0 r)) := RF5.out.cell 0
  replace d5_0 := cell_regrown d5_0
  have d5_1 : wF.cell? ⟨w2.heap.size + 1, 1, none⟩ = some (B (l1 r)) := RF5.out.cell 1
  replace d5_1 := cell_regrown d5_1
  have d5_2 : wF.cell? ⟨w2.heap.size + 1, 2, none⟩ = some (B (l2 r)) := RF5.out.cell 2
  replace d5_2 := cell_regrown d5_2
  have d5_3 : wF.cell? ⟨w2.heap.size + 1, 3, none⟩ = some (B (l3 r)) := RF5.out.cell 3
  replace d5_3 := cell_regrown d5_3
  have d6_0 : wF.cell? ⟨w2.heap.size + 1 + 1, 0, none⟩ = some (.int .u64 (m : Int)) := RF6.out.cell 0
  replace d6_0 := cell_regrown d6_0
  have d6_1 : wF.cell? ⟨w2.heap.size + 1 + 1, 1, none⟩ = some (.int .u64 0) := RF6.out.cell 1
  replace d6_1 := cell_regrown d6_1
  have d6_2 : wF.cell? ⟨w2.heap.size + 1 + 1, 2, none⟩ = some (.int .u64 0) := RF6.out.cell 2
  replace d6_2 := cell_regrown d6_2
  have d6_3 : wF.cell? ⟨w2.heap.size + 1 + 1, 3, none⟩ = some (.int .u64 0) := RF6.out.cell 3
  replace d6_3 := cell_regrown d6_3
  refine wp_region_quiet_below (by kernel_rfl) (by kernel_rfl) ?_
  simp only [List.append_eq, List.cons_append, List.nil_append]
  repeat (go_big_quiet_step (fail))
  go_big_quiet_step ((exact Calls.regrown_of (k0.out _)))
  repeat (go_big_quiet_step (fail))
  go_big_quiet_step ((exact Calls.regrown_of (r0.out _)))
  repeat (go_big_quiet_step (fail))
  go_big_quiet_step ((exact Calls.regrown_of (k1.out _)))
  repeat (go_big_quiet_step (fail))
  go_big_quiet_step ((exact Calls.regrown_of (r1.out _)))
  repeat (go_big_quiet_step (fail))
  go_big_quiet_step ((exact Calls.regrown_of (k2.out _)))
  repeat (go_big_quiet_step (fail))
  go_big_quiet_step ((exact Calls.regrown_of (r2.out _)))
  repeat (go_big_quiet_step (fail))
  go_big_quiet_step ((exact Calls.regrown_of (k3.out _)))
  repeat (go_big_quiet_step (fail))
  go_big_quiet_step ((exact Calls.regrown_of (r3.out _)))
  repeat (go_big_quiet_step (fail))
  go_big_quiet_step ((exact Calls.regrown_of (k4.out _)))
  repeat (go_big_quiet_step (fail))
  go_big_quiet_step ((exact Calls.regrown_of (r4.out _)))
  repeat (go_big_quiet_step (fail))
  go_big_quiet_step ((exact Calls.regrown_of (k5.out _)))
  repeat (go_big_quiet_step (fail))
  go_big_quiet_step ((exact Calls.regrown_of (r5.out _)))
  repeat (go_big_quiet_step (fail))
  go_big_quiet_step ((exact Calls.regrown_of (k6.out _)))
  repeat (go_big_quiet_step (fail))
  go_big_quiet_step ((exact Calls.regrown_of (r6.out _)))
  repeat (go_big_quiet_step (fail))
  go_big_quiet_step ((exact Calls.regrown_of (ha.out _)))
  repeat (go_big_quiet_step (fail))
  refine wpQuiet_nil ?_
  intro w3 hw'
  have hb3 : Below wF.heap.size wF w3 := by obtain ⟨p, rfl⟩ := hw'; exact below_regrown _ _ _
  clear hw'
  clear d0_0 d0_1 d0_2 d0_3
  clear d1_0 d1_1 d1_2 d1_3
  clear d2_0 d2_1 d2_2 d2_3
  clear d3_0 d3_1 d3_2 d3_3
  clear d4_0 d4_1 d4_2 d4_3
  clear d5_0 d5_1 d5_2 d5_3
  clear d6_0 d6_1 d6_2 d6_3
  have R0_3 : Hid (HasRow w3 (w.heap.size) #[B (l0 a), B (l1 a), B (l2 a), B (l3 a)]) := RF0.out.below hb3
  have R1_3 : Hid (HasRow w3 (w.heap.size + 1) #[B (l0 b), B (l1 b), B (l2 b), B (l3 b)]) := RF1.out.below hb3
  have R2_3 : Hid (HasRow w3 (w1.heap.size) #[B (l0 q), B (l1 q), B (l2 q), B (l3 q)]) := RF2.out.below hb3
  have R3_3 : Hid (HasRow w3 (w1.heap.size + 1) #[B (l0 r), B (l1 r), B (l2 r), B (l3 r)]) := RF3.out.below hb3
  have R4_3 : Hid (HasRow w3 (w2.heap.size) #[B (l0 q), B (l1 q), B (l2 q), B (l3 q)]) := RF4.out.below hb3
  have R5_3 : Hid (HasRow w3 (w2.heap.size + 1) #[B (l0 r), B (l1 r), B (l2 r), B (l3 r)]) := RF5.out.below hb3
  have R6_3 : Hid (HasRow w3 (w2.heap.size + 1 + 1) #[.int .u64 (m : Int), .int .u64 0, .int .u64 0, .int .u64 0]) := RF6.out.below hb3
  have B3 : Hid (Below w.heap.size w w3) := bel_call BF.out hb3
  clear hb3 BF RF0 RF1 RF2 RF3 RF4 RF5 RF6
  clear wF
  have q0_3 := R0_3.out.lt
  have q1_3 := R1_3.out.lt
  have q2_3 := R2_3.out.lt
  have q3_3 := R3_3.out.lt
  have q4_3 := R4_3.out.lt
  have q5_3 := R5_3.out.lt
  have q6_3 := R6_3.out.lt
  go_wp2
  go_ret
  exact ⟨rfl, B3.out⟩

theorem tells4_walk (a b n : Nat) (ha : a < W) (hb : b < W) (hn : n < M) (hw : ∀ w, Calls Try.prog 19 #[] w fun e w' => e = .returned (.bool true) ∧ Below w.heap.size w w') (w : World) :
    Calls Try.prog 3 #[U a, U b, B n] w fun e w' => e = .returned (.bool true) ∧ Below w.heap.size w w' := by
  have hm : n % 40 < 256 := Nat.lt_trans (Nat.mod_lt _ (by decide)) (by decide)
  have hmW : n % 40 < W := Nat.lt_trans hm (by decide +kernel)
  have e := U_small (n % 40) hm
  exact tells4_gen a b n (n % 40) _ _ _ _ _ _ _ _ _ (sdiv_any a b ha hb) (rsdiv_any a b ha hb) (neg_any a ha) (rneg_any a ha) (less_any a b ha hb) (rless_any a b ha hb) (sar_any a n ha) (rsar_any a n ha)
    (ext_any b a hb ha) (rext_any b a hb ha) (by rw [← e]; exact ext_any (n % 40) a hmW ha) (by rw [← e]; exact rext_any (n % 40) a hmW ha) (byte_any b a hb ha) (rbyte_any b a hb ha) (by rw [← e]; exact byte_any (n % 40) a hmW ha) (by rw [← e]; exact rbyte_any (n % 40) a hmW ha) hw (by rw [Int.tmod_eq_emod_of_nonneg (Int.natCast_nonneg n)]; omega) w
end Go.Proofs.Ytbfgeinneglpdaa
