/- The law SignBytes, walked. -/
import Derived.Test.YtbfgeinneglpdaaSm
import Derived.Lib.QuietBelow
import Derived.BigQuiet
namespace Go.Proofs.Ytbfgeinneglpdaa
open Go.RowKit Go.Sort
set_option linter.unusedVariables false
attribute [local go_sem] run_eq4 run_eqU_same

set_option maxRecDepth 100000 in
set_option maxHeartbeats 4000000 in
theorem bytes4_in (a k x y up : Nat) (s : ByteArray) (b : Nat → Nat)
    (h1 : Hid (∀ w, Calls Try.prog 22 #[U a] w fun e w' => e = .returned (.string s) ∧ Below w.heap.size w w'))
    (hb : Hid (∀ t : Nat, t < 32 → ∀ w, Calls Try.prog 17 #[.agg #[.int .u64 (t : Int), .int .u64 0, .int .u64 0, .int .u64 0], U a] w fun e w' => e = .returned (.agg #[.int .u64 (b t : Int), .int .u64 0, .int .u64 0, .int .u64 0]) ∧ Below w.heap.size w w'))
    (hx : Hid (∀ t : Nat, t < 32 → ∀ w, (Instr.index 9 (.string s) (.int .i64 (t : Int))).run Try.prog w = .ok (.int .u8 (b t : Int)) w))
    (hw1 : Hid (∀ t : Nat, t < 32 → IntKind.u64.wrap (t : Int) = (t : Int)))
    (hw2 : Hid (∀ t : Nat, IntKind.u64.wrap (b t : Int) = (b t : Int)))
    (he1 : Hid (∀ w, Calls Try.prog 15 #[I4 k 0 0 0, U a] w fun e w' => e = .returned (U x) ∧ Below w.heap.size w w'))
    (he2 : Hid (∀ w, Calls Try.prog 15 #[I4 k 0 0 0, U x] w fun e w' => e = .returned (U x) ∧ Below w.heap.size w w'))
    (hwk : IntKind.u64.wrap (k : Int) = (k : Int))
    (hk : decide ((30 : Int) < (k : Int)) = false)
    (hk2 : decide ((k : Int) ≤ 30) = true)
    (hup : IntKind.u64.wrap (248 - IntKind.u64.wrap (8 * (k : Int))) = (up : Int))
    (hs1 : Hid (∀ w, Calls Try.prog 23 #[U x, B up] w fun e w' => e = .returned (U y) ∧ Below w.heap.size w w'))
    (hs2 : Hid (∀ w, Calls Try.prog 23 #[U a, B up] w fun e w' => e = .returned (U y) ∧ Below w.heap.size w w'))
    (ha : Hid (∀ w, Calls Try.prog 19 #[] w fun e w' => e = .returned (.bool true) ∧ Below w.heap.size w w')) (w : World) :
    Calls Try.prog 6 #[U a, .int .u8 (k : Int)] w fun e w' => e = .returned (.bool true) ∧ Below w.heap.size w w' := by
  go_enter Try.func6, Try.ntmps6
  go_wp2_with fail
  refine (h1.out _).mono ?_
  rintro e w1 ⟨rfl, hb1⟩
  have R0_1 : Hid (HasRow w1 (w.heap.size) #[B (l0 a), B (l1 a), B (l2 a), B (l3 a)]) := (HasRow.last (by simp)).below hb1
  have B1 : Hid (Below w.heap.size w w1) := bel_call (bel_alloc (Below.refl _ _) _) hb1
  clear hb1
  have q0_1 := R0_1.out.lt
  have c0_0_1 : w1.cell? ⟨w.heap.size, 0, none⟩ = some (B (l0 a)) := R0_1.out.cell 0
  have c0_1_1 : w1.cell? ⟨w.heap.size, 1, none⟩ = some (B (l1 a)) := R0_1.out.cell 1
  have c0_2_1 : w1.cell? ⟨w.heap.size, 2, none⟩ = some (B (l2 a)) := R0_1.out.cell 2
  have c0_3_1 : w1.cell? ⟨w.heap.size, 3, none⟩ = some (B (l3 a)) := R0_1.out.cell 3
  go_wp2_with fail
  clear c0_0_1 c0_1_1 c0_2_1 c0_3_1 q0_1
  go_loopw [11] (fun i w' => ∃ t : Nat, t ≤ 32 ∧ i = .int .i64 (t : Int) ∧ HasRow w' (w.heap.size) #[B (l0 a), B (l1 a), B (l2 a), B (l3 a)] ∧ Below w.heap.size w w') (fun i _ => 32 - (intOf i).toNat)
  case atStart => exact ⟨0, Nat.zero_le _, rfl, R0_1.out, B1.out⟩
  case round =>
    obtain ⟨t, ht, rfl, hR, hB⟩ := hrel
    obtain ⟨w10, hw10⟩ : ∃ x, x = wr := ⟨_, rfl⟩
    subst hw10
    have R0_10 : Hid (HasRow w10 (w.heap.size) #[B (l0 a), B (l1 a), B (l2 a), B (l3 a)]) := hR
    have B10 : Hid (Below w.heap.size w w10) := hB
    clear hR hB R0_1 B1
    by_cases hlt : t < 32
    · have hbt : Hid _ := hb.out t hlt
      have hxt := hx.out t hlt
      have hw1t := hw1.out t hlt
      have hw2t := hw2.out t
      have hlt' : (t : Int) < 32 := by omega
      go_wp2_with fail
      refine name_world _ ?_
      intro wF hF
      have RF0 : Hid (HasRow wF (w.heap.size) #[B (l0 a), B (l1 a), B (l2 a), B (l3 a)]) := by rw [hF]; exact R0_10.out
      have BF : Hid (Below w.heap.size w wF) := by rw [hF]; exact B10.out
      clear hF
      clear B10 R0_10
      have d0_0 : wF.cell? ⟨w.heap.size, 0, none⟩ = some (B (l0 a)) := RF0.out.cell 0
      replace d0_0 := cell_regrown d0_0
      have d0_1 : wF.cell? ⟨w.heap.size, 1, none⟩ = some (B (l1 a)) := RF0.out.cell 1
      replace d0_1 := cell_regrown d0_1
      have d0_2 : wF.cell? ⟨w.heap.size, 2, none⟩ = some (B (l2 a)) := RF0.out.cell 2
      replace d0_2 := cell_regrown d0_2
      have d0_3 : wF.cell? ⟨w.heap.size, 3, none⟩ = some (B (l3 a)) := RF0.out.cell 3
      replace d0_3 := cell_regrown d0_3
      refine wp_region_quiet_below (by kernel_rfl) (by kernel_rfl) ?_
      repeat (go_big_quiet_step (fail))
      go_big_quiet_step ((exact Calls.regrown_of (hbt.out _)))
      repeat (go_big_quiet_step (fail))
      refine wpQuiet_nil ?_
      intro w11 hw'
      have hb11 : Below wF.heap.size wF w11 := by obtain ⟨p, rfl⟩ := hw'; exact below_regrown _ _ _
      clear hw'
      clear d0_0 d0_1 d0_2 d0_3
      have R0_11 : Hid (HasRow w11 (w.heap.size) #[B (l0 a), B (l1 a), B (l2 a), B (l3 a)]) := RF0.out.below hb11
      have B11 : Hid (Below w.heap.size w w11) := bel_call BF.out hb11
      clear hb11 BF RF0
      clear wF
      have q0_11 := R0_11.out.lt
      go_wp2
      go_roundw
      case rel => exact ⟨t + 1, by omega, by go_num, R0_11.out, B11.out⟩
      case measure => simp [intOf]; omega
    · have hte : t = 32 := by omega
      subst hte
      clear hlt ht
      have q0_10 := R0_10.out.lt
      have c0_0_10 : w10.cell? ⟨w.heap.size, 0, none⟩ = some (B (l0 a)) := R0_10.out.cell 0
      have c0_1_10 : w10.cell? ⟨w.heap.size, 1, none⟩ = some (B (l1 a)) := R0_10.out.cell 1
      have c0_2_10 : w10.cell? ⟨w.heap.size, 2, none⟩ = some (B (l2 a)) := R0_10.out.cell 2
      have c0_3_10 : w10.cell? ⟨w.heap.size, 3, none⟩ = some (B (l3 a)) := R0_10.out.cell 3
      go_wp2_with fail
      refine (he1.out _).mono ?_
      rintro e w11 ⟨rfl, hb11⟩
      have R0_11 : Hid (HasRow w11 (w.heap.size) #[B (l0 a), B (l1 a), B (l2 a), B (l3 a)]) := (HasRow.old R0_10.out).below hb11
      have R1_11 : Hid (HasRow w11 (w10.heap.size) #[.int .u64 (k : Int), .int .u64 0, .int .u64 0, .int .u64 0]) := (HasRow.last (by simp)).below hb11
      have B11 : Hid (Below w.heap.size w w11) := bel_call (bel_alloc B10.out _) hb11
      clear hb11
      clear q0_10 c0_0_10 c0_1_10 c0_2_10 c0_3_10
      have q0_11 := R0_11.out.lt
      have q1_11 := R1_11.out.lt
      have c0_0_11 : w11.cell? ⟨w.heap.size, 0, none⟩ = some (B (l0 a)) := R0_11.out.cell 0
      have c0_1_11 : w11.cell? ⟨w.heap.size, 1, none⟩ = some (B (l1 a)) := R0_11.out.cell 1
      have c0_2_11 : w11.cell? ⟨w.heap.size, 2, none⟩ = some (B (l2 a)) := R0_11.out.cell 2
      have c0_3_11 : w11.cell? ⟨w.heap.size, 3, none⟩ = some (B (l3 a)) := R0_11.out.cell 3
      go_wp2_with fail
      refine name_world _ ?_
      intro wF hF
      have RF0 : Hid (HasRow wF (w.heap.size) #[B (l0 a), B (l1 a), B (l2 a), B (l3 a)]) := by rw [hF]; exact (HasRow.old R0_11.out)
      have RF1 : Hid (HasRow wF (w10.heap.size) #[.int .u64 (k : Int), .int .u64 0, .int .u64 0, .int .u64 0]) := by rw [hF]; exact (HasRow.old R1_11.out)
      have RF2 : Hid (HasRow wF (w11.heap.size) #[B (l0 x), B (l1 x), B (l2 x), B (l3 x)]) := by rw [hF]; exact (HasRow.last (by simp))
      have BF : Hid (Below w.heap.size w wF) := by rw [hF]; exact (bel_alloc B11.out _)
      clear hF
      clear q0_11 q1_11 c0_0_11 c0_1_11 c0_2_11 c0_3_11
      clear B11 R0_11 R1_11
      have d0_0 : wF.cell? ⟨w.heap.size, 0, none⟩ = some (B (l0 a)) := RF0.out.cell 0
      replace d0_0 := cell_regrown d0_0
      have d0_1 : wF.cell? ⟨w.heap.size, 1, none⟩ = some (B (l1 a)) := RF0.out.cell 1
      replace d0_1 := cell_regrown d0_1
      have d0_2 : wF.cell? ⟨w.heap.size, 2, none⟩ = some (B (l2 a)) := RF0.out.cell 2
      replace d0_2 := cell_regrown d0_2
      have d0_3 : wF.cell? ⟨w.heap.size, 3, none⟩ = some (B (l3 a)) := RF0.out.cell 3
      replace d0_3 := cell_regrown d0_3
      have d1_0 : wF.cell? ⟨w10.heap.size, 0, none⟩ = some (.int .u64 (k : Int)) := RF1.out.cell 0
      replace d1_0 := cell_regrown d1_0
      have d1_1 : wF.cell? ⟨w10.heap.size, 1, none⟩ = some (.int .u64 0) := RF1.out.cell 1
      replace d1_1 := cell_regrown d1_1
      have d1_2 : wF.cell? ⟨w10.heap.size, 2, none⟩ = some (.int .u64 0) := RF1.out.cell 2
      replace d1_2 := cell_regrown d1_2
      have d1_3 : wF.cell? ⟨w10.heap.size, 3, none⟩ = some (.int .u64 0) := RF1.out.cell 3
      replace d1_3 := cell_regrown d1_3
      have d2_0 : wF.cell? ⟨w11.heap.size, 0, none⟩ = some (B (l0 x)) := RF2.out.cell 0
      replace d2_0 := cell_regrown d2_0
      have d2_1 : wF.cell? ⟨w11.heap.size, 1, none⟩ = some (B (l1 x)) := RF2.out.cell 1
      replace d2_1 := cell_regrown d2_1
      have d2_2 : wF.cell? ⟨w11.heap.size, 2, none⟩ = some (B (l2 x)) := RF2.out.cell 2
      replace d2_2 := cell_regrown d2_2
      have d2_3 : wF.cell? ⟨w11.heap.size, 3, none⟩ = some (B (l3 x)) := RF2.out.cell 3
      replace d2_3 := cell_regrown d2_3
      refine wp_region_quiet_below (by kernel_rfl) (by kernel_rfl) ?_
      repeat (go_big_quiet_step (fail))
      go_big_quiet_step ((exact Calls.regrown_of (he2.out _)))
      repeat (go_big_quiet_step (fail))
      go_big_quiet_step ((exact Calls.regrown_of (hs1.out _)))
      repeat (go_big_quiet_step (fail))
      go_big_quiet_step ((exact Calls.regrown_of (hs2.out _)))
      repeat (go_big_quiet_step (fail))
      go_big_quiet_step ((exact Calls.regrown_of (ha.out _)))
      repeat (go_big_quiet_step (fail))
      refine wpQuiet_nil ?_
      intro w12 hw'
      have hb12 : Below wF.heap.size wF w12 := by obtain ⟨p, rfl⟩ := hw'; exact below_regrown _ _ _
      clear hw'
      clear d0_0 d0_1 d0_2 d0_3
      clear d1_0 d1_1 d1_2 d1_3
      clear d2_0 d2_1 d2_2 d2_3
      have R0_12 : Hid (HasRow w12 (w.heap.size) #[B (l0 a), B (l1 a), B (l2 a), B (l3 a)]) := RF0.out.below hb12
      have R1_12 : Hid (HasRow w12 (w10.heap.size) #[.int .u64 (k : Int), .int .u64 0, .int .u64 0, .int .u64 0]) := RF1.out.below hb12
      have R2_12 : Hid (HasRow w12 (w11.heap.size) #[B (l0 x), B (l1 x), B (l2 x), B (l3 x)]) := RF2.out.below hb12
      have B12 : Hid (Below w.heap.size w w12) := bel_call BF.out hb12
      clear hb12 BF RF0 RF1 RF2
      clear wF
      have q0_12 := R0_12.out.lt
      have q1_12 := R1_12.out.lt
      have q2_12 := R2_12.out.lt
      go_wp2
      go_ret
      exact ⟨rfl, B12.out⟩

set_option maxRecDepth 100000 in
set_option maxHeartbeats 4000000 in
theorem bytes4_out (a k : Nat) (s : ByteArray) (b : Nat → Nat)
    (h1 : Hid (∀ w, Calls Try.prog 22 #[U a] w fun e w' => e = .returned (.string s) ∧ Below w.heap.size w w'))
    (hb : Hid (∀ t : Nat, t < 32 → ∀ w, Calls Try.prog 17 #[.agg #[.int .u64 (t : Int), .int .u64 0, .int .u64 0, .int .u64 0], U a] w fun e w' => e = .returned (.agg #[.int .u64 (b t : Int), .int .u64 0, .int .u64 0, .int .u64 0]) ∧ Below w.heap.size w w'))
    (hx : Hid (∀ t : Nat, t < 32 → ∀ w, (Instr.index 9 (.string s) (.int .i64 (t : Int))).run Try.prog w = .ok (.int .u8 (b t : Int)) w))
    (hw1 : Hid (∀ t : Nat, t < 32 → IntKind.u64.wrap (t : Int) = (t : Int)))
    (hw2 : Hid (∀ t : Nat, IntKind.u64.wrap (b t : Int) = (b t : Int)))
    (he1 : Hid (∀ w, Calls Try.prog 15 #[I4 k 0 0 0, U a] w fun e w' => e = .returned (U a) ∧ Below w.heap.size w w'))
    (he2 : Hid (∀ w, Calls Try.prog 15 #[I4 k 0 0 0, U a] w fun e w' => e = .returned (U a) ∧ Below w.heap.size w w'))
    (hwk : IntKind.u64.wrap (k : Int) = (k : Int))
    (hk : decide ((30 : Int) < (k : Int)) = true)
    (ha : Hid (∀ w, Calls Try.prog 19 #[] w fun e w' => e = .returned (.bool true) ∧ Below w.heap.size w w')) (w : World) :
    Calls Try.prog 6 #[U a, .int .u8 (k : Int)] w fun e w' => e = .returned (.bool true) ∧ Below w.heap.size w w' := by
  go_enter Try.func6, Try.ntmps6
  go_wp2_with fail
  refine (h1.out _).mono ?_
  rintro e w1 ⟨rfl, hb1⟩
  have R0_1 : Hid (HasRow w1 (w.heap.size) #[B (l0 a), B (l1 a), B (l2 a), B (l3 a)]) := (HasRow.last (by simp)).below hb1
  have B1 : Hid (Below w.heap.size w w1) := bel_call (bel_alloc (Below.refl _ _) _) hb1
  clear hb1
  have q0_1 := R0_1.out.lt
  have c0_0_1 : w1.cell? ⟨w.heap.size, 0, none⟩ = some (B (l0 a)) := R0_1.out.cell 0
  have c0_1_1 : w1.cell? ⟨w.heap.size, 1, none⟩ = some (B (l1 a)) := R0_1.out.cell 1
  have c0_2_1 : w1.cell? ⟨w.heap.size, 2, none⟩ = some (B (l2 a)) := R0_1.out.cell 2
  have c0_3_1 : w1.cell? ⟨w.heap.size, 3, none⟩ = some (B (l3 a)) := R0_1.out.cell 3
  go_wp2_with fail
  clear c0_0_1 c0_1_1 c0_2_1 c0_3_1 q0_1
  go_loopw [11] (fun i w' => ∃ t : Nat, t ≤ 32 ∧ i = .int .i64 (t : Int) ∧ HasRow w' (w.heap.size) #[B (l0 a), B (l1 a), B (l2 a), B (l3 a)] ∧ Below w.heap.size w w') (fun i _ => 32 - (intOf i).toNat)
  case atStart => exact ⟨0, Nat.zero_le _, rfl, R0_1.out, B1.out⟩
  case round =>
    obtain ⟨t, ht, rfl, hR, hB⟩ := hrel
    obtain ⟨w10, hw10⟩ : ∃ x, x = wr := ⟨_, rfl⟩
    subst hw10
    have R0_10 : Hid (HasRow w10 (w.heap.size) #[B (l0 a), B (l1 a), B (l2 a), B (l3 a)]) := hR
    have B10 : Hid (Below w.heap.size w w10) := hB
    clear hR hB R0_1 B1
    by_cases hlt : t < 32
    · have hbt : Hid _ := hb.out t hlt
      have hxt := hx.out t hlt
      have hw1t := hw1.out t hlt
      have hw2t := hw2.out t
      have hlt' : (t : Int) < 32 := by omega
      go_wp2_with fail
      refine name_world _ ?_
      intro wF hF
      have RF0 : Hid (HasRow wF (w.heap.size) #[B (l0 a), B (l1 a), B (l2 a), B (l3 a)]) := by rw [hF]; exact R0_10.out
      have BF : Hid (Below w.heap.size w wF) := by rw [hF]; exact B10.out
      clear hF
      clear B10 R0_10
      have d0_0 : wF.cell? ⟨w.heap.size, 0, none⟩ = some (B (l0 a)) := RF0.out.cell 0
      replace d0_0 := cell_regrown d0_0
      have d0_1 : wF.cell? ⟨w.heap.size, 1, none⟩ = some (B (l1 a)) := RF0.out.cell 1
      replace d0_1 := cell_regrown d0_1
      have d0_2 : wF.cell? ⟨w.heap.size, 2, none⟩ = some (B (l2 a)) := RF0.out.cell 2
      replace d0_2 := cell_regrown d0_2
      have d0_3 : wF.cell? ⟨w.heap.size, 3, none⟩ = some (B (l3 a)) := RF0.out.cell 3
      replace d0_3 := cell_regrown d0_3
      refine wp_region_quiet_below (by kernel_rfl) (by kernel_rfl) ?_
      repeat (go_big_quiet_step (fail))
      go_big_quiet_step ((exact Calls.regrown_of (hbt.out _)))
      repeat (go_big_quiet_step (fail))
      refine wpQuiet_nil ?_
      intro w11 hw'
      have hb11 : Below wF.heap.size wF w11 := by obtain ⟨p, rfl⟩ := hw'; exact below_regrown _ _ _
      clear hw'
      clear d0_0 d0_1 d0_2 d0_3
      have R0_11 : Hid (HasRow w11 (w.heap.size) #[B (l0 a), B (l1 a), B (l2 a), B (l3 a)]) := RF0.out.below hb11
      have B11 : Hid (Below w.heap.size w w11) := bel_call BF.out hb11
      clear hb11 BF RF0
      clear wF
      have q0_11 := R0_11.out.lt
      go_wp2
      go_roundw
      case rel => exact ⟨t + 1, by omega, by go_num, R0_11.out, B11.out⟩
      case measure => simp [intOf]; omega
    · have hte : t = 32 := by omega
      subst hte
      clear hlt ht
      have q0_10 := R0_10.out.lt
      have c0_0_10 : w10.cell? ⟨w.heap.size, 0, none⟩ = some (B (l0 a)) := R0_10.out.cell 0
      have c0_1_10 : w10.cell? ⟨w.heap.size, 1, none⟩ = some (B (l1 a)) := R0_10.out.cell 1
      have c0_2_10 : w10.cell? ⟨w.heap.size, 2, none⟩ = some (B (l2 a)) := R0_10.out.cell 2
      have c0_3_10 : w10.cell? ⟨w.heap.size, 3, none⟩ = some (B (l3 a)) := R0_10.out.cell 3
      go_wp2_with fail
      refine (he1.out _).mono ?_
      rintro e w11 ⟨rfl, hb11⟩
      have R0_11 : Hid (HasRow w11 (w.heap.size) #[B (l0 a), B (l1 a), B (l2 a), B (l3 a)]) := (HasRow.old R0_10.out).below hb11
      have R1_11 : Hid (HasRow w11 (w10.heap.size) #[.int .u64 (k : Int), .int .u64 0, .int .u64 0, .int .u64 0]) := (HasRow.last (by simp)).below hb11
      have B11 : Hid (Below w.heap.size w w11) := bel_call (bel_alloc B10.out _) hb11
      clear hb11
      clear q0_10 c0_0_10 c0_1_10 c0_2_10 c0_3_10
      have q0_11 := R0_11.out.lt
      have q1_11 := R1_11.out.lt
      have c0_0_11 : w11.cell? ⟨w.heap.size, 0, none⟩ = some (B (l0 a)) := R0_11.out.cell 0
      have c0_1_11 : w11.cell? ⟨w.heap.size, 1, none⟩ = some (B (l1 a)) := R0_11.out.cell 1
      have c0_2_11 : w11.cell? ⟨w.heap.size, 2, none⟩ = some (B (l2 a)) := R0_11.out.cell 2
      have c0_3_11 : w11.cell? ⟨w.heap.size, 3, none⟩ = some (B (l3 a)) := R0_11.out.cell 3
      go_wp2_with fail
      refine name_world _ ?_
      intro wF hF
      have RF0 : Hid (HasRow wF (w.heap.size) #[B (l0 a), B (l1 a), B (l2 a), B (l3 a)]) := by rw [hF]; exact (HasRow.old R0_11.out)
      have RF1 : Hid (HasRow wF (w10.heap.size) #[.int .u64 (k : Int), .int .u64 0, .int .u64 0, .int .u64 0]) := by rw [hF]; exact (HasRow.old R1_11.out)
      have RF2 : Hid (HasRow wF (w11.heap.size) #[B (l0 a), B (l1 a), B (l2 a), B (l3 a)]) := by rw [hF]; exact (HasRow.last (by simp))
      have BF : Hid (Below w.heap.size w wF) := by rw [hF]; exact (bel_alloc B11.out _)
      clear hF
      clear q0_11 q1_11 c0_0_11 c0_1_11 c0_2_11 c0_3_11
      clear B11 R0_11 R1_11
      have d0_0 : wF.cell? ⟨w.heap.size, 0, none⟩ = some (B (l0 a)) := RF0.out.cell 0
      replace d0_0 := cell_regrown d0_0
      have d0_1 : wF.cell? ⟨w.heap.size, 1, none⟩ = some (B (l1 a)) := RF0.out.cell 1
      replace d0_1 := cell_regrown d0_1
      have d0_2 : wF.cell? ⟨w.heap.size, 2, none⟩ = some (B (l2 a)) := RF0.out.cell 2
      replace d0_2 := cell_regrown d0_2
      have d0_3 : wF.cell? ⟨w.heap.size, 3, none⟩ = some (B (l3 a)) := RF0.out.cell 3
      replace d0_3 := cell_regrown d0_3
      have d1_0 : wF.cell? ⟨w10.heap.size, 0, none⟩ = some (.int .u64 (k : Int)) := RF1.out.cell 0
      replace d1_0 := cell_regrown d1_0
      have d1_1 : wF.cell? ⟨w10.heap.size, 1, none⟩ = some (.int .u64 0) := RF1.out.cell 1
      replace d1_1 := cell_regrown d1_1
      have d1_2 : wF.cell? ⟨w10.heap.size, 2, none⟩ = some (.int .u64 0) := RF1.out.cell 2
      replace d1_2 := cell_regrown d1_2
      have d1_3 : wF.cell? ⟨w10.heap.size, 3, none⟩ = some (.int .u64 0) := RF1.out.cell 3
      replace d1_3 := cell_regrown d1_3
      have d2_0 : wF.cell? ⟨w11.heap.size, 0, none⟩ = some (B (l0 a)) := RF2.out.cell 0
      replace d2_0 := cell_regrown d2_0
      have d2_1 : wF.cell? ⟨w11.heap.size, 1, none⟩ = some (B (l1 a)) := RF2.out.cell 1
      replace d2_1 := cell_regrown d2_1
      have d2_2 : wF.cell? ⟨w11.heap.size, 2, none⟩ = some (B (l2 a)) := RF2.out.cell 2
      replace d2_2 := cell_regrown d2_2
      have d2_3 : wF.cell? ⟨w11.heap.size, 3, none⟩ = some (B (l3 a)) := RF2.out.cell 3
      replace d2_3 := cell_regrown d2_3
      refine wp_region_quiet_below (by kernel_rfl) (by kernel_rfl) ?_
      repeat (go_big_quiet_step (fail))
      go_big_quiet_step ((exact Calls.regrown_of (he2.out _)))
      repeat (go_big_quiet_step (fail))
      go_big_quiet_step ((exact Calls.regrown_of (ha.out _)))
      repeat (go_big_quiet_step (fail))
      refine wpQuiet_nil ?_
      intro w12 hw'
      have hb12 : Below wF.heap.size wF w12 := by obtain ⟨p, rfl⟩ := hw'; exact below_regrown _ _ _
      clear hw'
      clear d0_0 d0_1 d0_2 d0_3
      clear d1_0 d1_1 d1_2 d1_3
      clear d2_0 d2_1 d2_2 d2_3
      have R0_12 : Hid (HasRow w12 (w.heap.size) #[B (l0 a), B (l1 a), B (l2 a), B (l3 a)]) := RF0.out.below hb12
      have R1_12 : Hid (HasRow w12 (w10.heap.size) #[.int .u64 (k : Int), .int .u64 0, .int .u64 0, .int .u64 0]) := RF1.out.below hb12
      have R2_12 : Hid (HasRow w12 (w11.heap.size) #[B (l0 a), B (l1 a), B (l2 a), B (l3 a)]) := RF2.out.below hb12
      have B12 : Hid (Below w.heap.size w w12) := bel_call BF.out hb12
      clear hb12 BF RF0 RF1 RF2
      clear wF
      have q0_12 := R0_12.out.lt
      have q1_12 := R1_12.out.lt
      have q2_12 := R2_12.out.lt
      go_wp2
      go_ret
      exact ⟨rfl, B12.out⟩

theorem bytes4_walk (a k : Nat) (ha : a < W) (hk : k < 256) (hw : ∀ w, Calls Try.prog 19 #[] w fun e w' => e = .returned (.bool true) ∧ Below w.heap.size w w') (w : World) :
    Calls Try.prog 6 #[U a, .int .u8 (k : Int)] w fun e w' => e = .returned (.bool true) ∧ Below w.heap.size w w' := by
  have hkW : k < W := Nat.lt_trans hk (by decide +kernel)
  have ek := U_small k hk
  have hb : ∀ t : Nat, t < 32 → ∀ w, Calls Try.prog 17 #[.agg #[.int .u64 (t : Int), .int .u64 0, .int .u64 0, .int .u64 0], U a] w fun e w' => e = .returned (.agg #[.int .u64 (byteFn a t : Int), .int .u64 0, .int .u64 0, .int .u64 0]) ∧ Below w.heap.size w w' := by
    intro t ht w
    have h := byte_any t a (Nat.lt_trans ht (by decide +kernel)) ha w
    rw [byW_in t a ht, U_small t (by omega), U_small _ (byteFn_lt a t)] at h
    exact h
  have hx : ∀ t : Nat, t < 32 → ∀ w, (Instr.index 9 (.string (strN a)) (.int .i64 (t : Int))).run Try.prog w = .ok (.int .u8 (byteFn a t : Int)) w := fun t ht w => idx_str a t ht .i64 w
  have hw1 : ∀ t : Nat, t < 32 → IntKind.u64.wrap (t : Int) = (t : Int) := fun t ht => by rw [IntKind.wrap_u64]; omega
  have hwk : IntKind.u64.wrap (k : Int) = (k : Int) := by rw [IntKind.wrap_u64]; omega
  have he1 := ext_any k a hkW ha
  have he2 := ext_any k (exW k a) hkW (exW_lt k a ha)
  rw [exW_twice, ek] at he2
  rw [ek] at he1
  by_cases h : k < 31
  · have hs1 := rshl_any (exW k a) (upE k) (exW_lt k a ha)
    rw [exW_up k a h] at hs1
    exact bytes4_in a k (exW k a) (shlW a (upE k)) (upE k) (strN a) (byteFn a) (rbytes_any a) hb hx hw1 (byte_wrap a) he1 he2 hwk (decide_eq_false (by omega)) (decide_eq_true (by omega)) (by rw [IntKind.wrap_u64, IntKind.wrap_u64]; unfold upE; omega) hs1 (rshl_any a (upE k) ha) hw w
  · rw [exW_whole k a h] at he1 he2
    exact bytes4_out a k (strN a) (byteFn a) (rbytes_any a) hb hx hw1 (byte_wrap a) he1 he2 hwk (decide_eq_true (by omega)) hw w
end Go.Proofs.Ytbfgeinneglpdaa
