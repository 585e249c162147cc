/- Contracts of sign, and of the document's own, over letters: what each callee hands back is a condition. -/
import Derived.Test.YtbfgeinneglpdaaCs
import Derived.Test.YtbfgeinneglpdaaDc
import Derived.Test.YtbfgeinneglpdaaLa
import Derived.Test.YtbfgeinneglpdaaRz
import Derived.Lib.QuietBelow
import Derived.BigQuiet
import Derived.Defers
namespace Go.Proofs.Ytbfgeinneglpdaa
open Go.RowKit Go.Sort
set_option linter.unusedVariables false
attribute [local go_sem] run_eq4 run_eqU_same

set_option maxRecDepth 100000 in
set_option maxHeartbeats 4000000 in
theorem neg_raw (a x : Nat) (u : Bool)
    (hc : Hid (∀ w, Calls Try.prog 28 #[I4 0 0 0 0, U a] w fun e w' => e = .returned (.tuple #[U x, .bool u]) ∧ Below w.heap.size w w')) (w : World) :
    Calls Try.prog 9 #[U a] w fun e w' => e = .returned (U x) ∧ Below w.heap.size w w' := by
  go_enter Try.func9, Try.ntmps9
  go_wp2_with fail
  refine (hc.out _).mono ?_
  rintro e w1 ⟨rfl, hb1⟩
  have R0_1 : Hid (HasRow w1 (w.heap.size) #[B (l0 a), B (l1 a), B (l2 a), B (l3 a)]) := (HasRow.old (HasRow.last (by simp))).below hb1
  have R1_1 : Hid (HasRow w1 (w.heap.size + 1) #[.int .u64 0, .int .u64 0, .int .u64 0, .int .u64 0]) := (HasRow.last (by simp)).below hb1
  have B1 : Hid (Below w.heap.size w w1) := bel_call (bel_alloc (bel_alloc (Below.refl _ _) _) _) hb1
  clear hb1
  have q0_1 := R0_1.out.lt
  have q1_1 := R1_1.out.lt
  have c1_0_1 : w1.cell? ⟨w.heap.size + 1, 0, none⟩ = some (.int .u64 0) := R1_1.out.cell 0
  have c1_1_1 : w1.cell? ⟨w.heap.size + 1, 1, none⟩ = some (.int .u64 0) := R1_1.out.cell 1
  have c1_2_1 : w1.cell? ⟨w.heap.size + 1, 2, none⟩ = some (.int .u64 0) := R1_1.out.cell 2
  have c1_3_1 : w1.cell? ⟨w.heap.size + 1, 3, none⟩ = some (.int .u64 0) := R1_1.out.cell 3
  have z1_0_1 := R1_1.out.frozen 0
  have z1_1_1 := R1_1.out.frozen 1
  have z1_2_1 := R1_1.out.frozen 2
  have z1_3_1 := R1_1.out.frozen 3
  go_wp2
  rw [set4 R1_1.out rfl]
  exact bodyPost_ret (v := U x) (results_cell1 (p := 2) (ty := 24) rfl (g := w.heap.size + 1) rfl (HasRow.old (R1_1.out.set_same _)) rfl Try.underlying24 (by kernel_rfl)) rfl ⟨rfl, (bel_alloc (below_setRow B1.out (by omega) _) _)⟩

set_option maxRecDepth 100000 in
set_option maxHeartbeats 4000000 in
theorem rneg_raw (a x : Nat) (u : Bool)
    (hc : Hid (∀ w, Calls Try.prog 29 #[I4 0 0 0 0, U a] w fun e w' => e = .returned (.tuple #[U x, .bool u]) ∧ Below w.heap.size w w')) (w : World) :
    Calls Try.prog 10 #[U a] w fun e w' => e = .returned (U x) ∧ Below w.heap.size w w' := by
  go_enter Try.func10, Try.ntmps10
  go_wp2_with fail
  refine (hc.out _).mono ?_
  rintro e w1 ⟨rfl, hb1⟩
  have R0_1 : Hid (HasRow w1 (w.heap.size) #[B (l0 a), B (l1 a), B (l2 a), B (l3 a)]) := (HasRow.old (HasRow.last (by simp))).below hb1
  have R1_1 : Hid (HasRow w1 (w.heap.size + 1) #[.int .u64 0, .int .u64 0, .int .u64 0, .int .u64 0]) := (HasRow.last (by simp)).below hb1
  have B1 : Hid (Below w.heap.size w w1) := bel_call (bel_alloc (bel_alloc (Below.refl _ _) _) _) hb1
  clear hb1
  have q0_1 := R0_1.out.lt
  have q1_1 := R1_1.out.lt
  have c1_0_1 : w1.cell? ⟨w.heap.size + 1, 0, none⟩ = some (.int .u64 0) := R1_1.out.cell 0
  have c1_1_1 : w1.cell? ⟨w.heap.size + 1, 1, none⟩ = some (.int .u64 0) := R1_1.out.cell 1
  have c1_2_1 : w1.cell? ⟨w.heap.size + 1, 2, none⟩ = some (.int .u64 0) := R1_1.out.cell 2
  have c1_3_1 : w1.cell? ⟨w.heap.size + 1, 3, none⟩ = some (.int .u64 0) := R1_1.out.cell 3
  have z1_0_1 := R1_1.out.frozen 0
  have z1_1_1 := R1_1.out.frozen 1
  have z1_2_1 := R1_1.out.frozen 2
  have z1_3_1 := R1_1.out.frozen 3
  go_wp2
  rw [set4 R1_1.out rfl]
  exact bodyPost_ret (v := U x) (results_cell1 (p := 2) (ty := 24) rfl (g := w.heap.size + 1) rfl (HasRow.old (R1_1.out.set_same _)) rfl Try.underlying24 (by kernel_rfl)) rfl ⟨rfl, (bel_alloc (below_setRow B1.out (by omega) _) _)⟩

set_option maxRecDepth 100000 in
set_option maxHeartbeats 4000000 in
theorem under_raw (a : Nat) (x : Int)
    (hc : Hid (∀ w, Calls Try.prog 54 #[U a] w fun e w' => e = .returned (.int .i64 x) ∧ Below w.heap.size w w')) (w : World) :
    Calls Try.prog 30 #[U a] w fun e w' => e = .returned (.bool (decide (x = 256))) ∧ Below w.heap.size w w' := by
  go_enter Try.func30, Try.ntmps30
  go_wp2_with fail
  refine (hc.out _).mono ?_
  rintro e w1 ⟨rfl, hb1⟩
  have R0_1 : Hid (HasRow w1 (w.heap.size) #[B (l0 a), B (l1 a), B (l2 a), B (l3 a)]) := (HasRow.last (by simp)).below hb1
  have B1 : Hid (Below w.heap.size w w1) := bel_call (bel_alloc (Below.refl _ _) _) hb1
  clear hb1
  have q0_1 := R0_1.out.lt
  go_wp2
  go_ret
  exact ⟨rfl, B1.out⟩

set_option maxRecDepth 100000 in
set_option maxHeartbeats 4000000 in
theorem below_raw (a x : Nat)
    (hc : Hid (∀ w, Calls Try.prog 45 #[U a, .int .i64 255] w fun e w' => e = .returned (B x) ∧ Below w.heap.size w w')) (w : World) :
    Calls Try.prog 27 #[U a] w fun e w' => e = .returned (.bool (decide ((x : Int) = 1))) ∧ Below w.heap.size w w' := by
  go_enter Try.func27, Try.ntmps27
  go_wp2_with fail
  refine (hc.out _).mono ?_
  rintro e w1 ⟨rfl, hb1⟩
  have R0_1 : Hid (HasRow w1 (w.heap.size) #[B (l0 a), B (l1 a), B (l2 a), B (l3 a)]) := (HasRow.last (by simp)).below hb1
  have B1 : Hid (Below w.heap.size w w1) := bel_call (bel_alloc (Below.refl _ _) _) hb1
  clear hb1
  have q0_1 := R0_1.out.lt
  go_wp2
  go_ret
  exact ⟨rfl, B1.out⟩

set_option maxRecDepth 100000 in
set_option maxHeartbeats 4000000 in
theorem turned_yes (a x : Nat)
    (hn : Hid (∀ w, Calls Try.prog 9 #[U a] w fun e w' => e = .returned (U x) ∧ Below w.heap.size w w')) (w : World) :
    Calls Try.prog 47 #[U a, .bool true] w fun e w' => e = .returned (U x) ∧ Below w.heap.size w w' := by
  go_enter Try.func47, Try.ntmps47
  go_wp2_with fail
  refine (hn.out _).mono ?_
  rintro e w1 ⟨rfl, hb1⟩
  have R0_1 : Hid (HasRow w1 (w.heap.size) #[B (l0 a), B (l1 a), B (l2 a), B (l3 a)]) := (HasRow.old (HasRow.last (by simp))).below hb1
  have R1_1 : Hid (HasRow w1 (w.heap.size + 1) #[.int .u64 0, .int .u64 0, .int .u64 0, .int .u64 0]) := (HasRow.last (by simp)).below hb1
  have B1 : Hid (Below w.heap.size w w1) := bel_call (bel_alloc (bel_alloc (Below.refl _ _) _) _) hb1
  clear hb1
  have q0_1 := R0_1.out.lt
  have q1_1 := R1_1.out.lt
  have c1_0_1 : w1.cell? ⟨w.heap.size + 1, 0, none⟩ = some (.int .u64 0) := R1_1.out.cell 0
  have c1_1_1 : w1.cell? ⟨w.heap.size + 1, 1, none⟩ = some (.int .u64 0) := R1_1.out.cell 1
  have c1_2_1 : w1.cell? ⟨w.heap.size + 1, 2, none⟩ = some (.int .u64 0) := R1_1.out.cell 2
  have c1_3_1 : w1.cell? ⟨w.heap.size + 1, 3, none⟩ = some (.int .u64 0) := R1_1.out.cell 3
  have z1_0_1 := R1_1.out.frozen 0
  have z1_1_1 := R1_1.out.frozen 1
  have z1_2_1 := R1_1.out.frozen 2
  have z1_3_1 := R1_1.out.frozen 3
  go_wp2
  rw [set4 R1_1.out rfl]
  exact bodyPost_ret (v := U x) (results_cell1 (p := 4) (ty := 24) rfl (g := w.heap.size + 1) rfl (R1_1.out.set_same _) rfl Try.underlying24 (by kernel_rfl)) rfl ⟨rfl, (below_setRow B1.out (by omega) _)⟩

set_option maxRecDepth 100000 in
set_option maxHeartbeats 4000000 in
theorem turned_no (a : Nat) (w : World) :
    Calls Try.prog 47 #[U a, .bool false] w fun e w' => e = .returned (U a) ∧ Below w.heap.size w w' := by
  go_enter Try.func47, Try.ntmps47
  go_wp2
  exact bodyPost_ret (v := U a) (results_cell1 (p := 4) (ty := 24) rfl (g := w.heap.size + 1) rfl (HasRow.last (by simp)) rfl Try.underlying24 (by kernel_rfl)) rfl ⟨rfl, by (repeat (first | exact Below.refl _ _ | apply Below.drew | refine bel_alloc ?_ _ | refine bel_set ?_ (by first | (simp; done) | (simp; omega)) _ | refine bel_call ?_ (by assumption)))⟩

set_option maxRecDepth 100000 in
set_option maxHeartbeats 4000000 in
theorem size_yes (a x : Nat)
    (hb : Hid (∀ w, Calls Try.prog 27 #[U a] w fun e w' => e = .returned (.bool true) ∧ Below w.heap.size w w'))
    (hn : Hid (∀ w, Calls Try.prog 10 #[U a] w fun e w' => e = .returned (U x) ∧ Below w.heap.size w w')) (w : World) :
    Calls Try.prog 26 #[U a] w fun e w' => e = .returned (U x) ∧ Below w.heap.size w w' := by
  go_enter Try.func26, Try.ntmps26
  go_wp2_with fail
  refine (hb.out _).mono ?_
  rintro e w1 ⟨rfl, hb1⟩
  have R0_1 : Hid (HasRow w1 (w.heap.size) #[B (l0 a), B (l1 a), B (l2 a), B (l3 a)]) := (HasRow.old (HasRow.last (by simp))).below hb1
  have R1_1 : Hid (HasRow w1 (w.heap.size + 1) #[.int .u64 0, .int .u64 0, .int .u64 0, .int .u64 0]) := (HasRow.last (by simp)).below hb1
  have B1 : Hid (Below w.heap.size w w1) := bel_call (bel_alloc (bel_alloc (Below.refl _ _) _) _) hb1
  clear hb1
  have q0_1 := R0_1.out.lt
  have q1_1 := R1_1.out.lt
  have c0_0_1 : w1.cell? ⟨w.heap.size, 0, none⟩ = some (B (l0 a)) := R0_1.out.cell 0
  have c0_1_1 : w1.cell? ⟨w.heap.size, 1, none⟩ = some (B (l1 a)) := R0_1.out.cell 1
  have c0_2_1 : w1.cell? ⟨w.heap.size, 2, none⟩ = some (B (l2 a)) := R0_1.out.cell 2
  have c0_3_1 : w1.cell? ⟨w.heap.size, 3, none⟩ = some (B (l3 a)) := R0_1.out.cell 3
  go_wp2_with fail
  refine (hn.out _).mono ?_
  rintro e w2 ⟨rfl, hb2⟩
  have R0_2 : Hid (HasRow w2 (w.heap.size) #[B (l0 a), B (l1 a), B (l2 a), B (l3 a)]) := R0_1.out.below hb2
  have R1_2 : Hid (HasRow w2 (w.heap.size + 1) #[.int .u64 0, .int .u64 0, .int .u64 0, .int .u64 0]) := R1_1.out.below hb2
  have B2 : Hid (Below w.heap.size w w2) := bel_call B1.out hb2
  clear hb2
  clear q0_1 q1_1 c0_0_1 c0_1_1 c0_2_1 c0_3_1
  have q0_2 := R0_2.out.lt
  have q1_2 := R1_2.out.lt
  have c1_0_2 : w2.cell? ⟨w.heap.size + 1, 0, none⟩ = some (.int .u64 0) := R1_2.out.cell 0
  have c1_1_2 : w2.cell? ⟨w.heap.size + 1, 1, none⟩ = some (.int .u64 0) := R1_2.out.cell 1
  have c1_2_2 : w2.cell? ⟨w.heap.size + 1, 2, none⟩ = some (.int .u64 0) := R1_2.out.cell 2
  have c1_3_2 : w2.cell? ⟨w.heap.size + 1, 3, none⟩ = some (.int .u64 0) := R1_2.out.cell 3
  have z1_0_2 := R1_2.out.frozen 0
  have z1_1_2 := R1_2.out.frozen 1
  have z1_2_2 := R1_2.out.frozen 2
  have z1_3_2 := R1_2.out.frozen 3
  go_wp2
  rw [set4 R1_2.out rfl]
  exact bodyPost_ret (v := U x) (results_cell1 (p := 2) (ty := 24) rfl (g := w.heap.size + 1) rfl (R1_2.out.set_same _) rfl Try.underlying24 (by kernel_rfl)) rfl ⟨rfl, (below_setRow B2.out (by omega) _)⟩

set_option maxRecDepth 100000 in
set_option maxHeartbeats 4000000 in
theorem size_no (a : Nat)
    (hb : Hid (∀ w, Calls Try.prog 27 #[U a] w fun e w' => e = .returned (.bool false) ∧ Below w.heap.size w w')) (w : World) :
    Calls Try.prog 26 #[U a] w fun e w' => e = .returned (U a) ∧ Below w.heap.size w w' := by
  go_enter Try.func26, Try.ntmps26
  go_wp2_with fail
  refine (hb.out _).mono ?_
  rintro e w1 ⟨rfl, hb1⟩
  have R0_1 : Hid (HasRow w1 (w.heap.size) #[B (l0 a), B (l1 a), B (l2 a), B (l3 a)]) := (HasRow.old (HasRow.last (by simp))).below hb1
  have R1_1 : Hid (HasRow w1 (w.heap.size + 1) #[.int .u64 0, .int .u64 0, .int .u64 0, .int .u64 0]) := (HasRow.last (by simp)).below hb1
  have B1 : Hid (Below w.heap.size w w1) := bel_call (bel_alloc (bel_alloc (Below.refl _ _) _) _) hb1
  clear hb1
  have q0_1 := R0_1.out.lt
  have q1_1 := R1_1.out.lt
  have c0_0_1 : w1.cell? ⟨w.heap.size, 0, none⟩ = some (B (l0 a)) := R0_1.out.cell 0
  have c0_1_1 : w1.cell? ⟨w.heap.size, 1, none⟩ = some (B (l1 a)) := R0_1.out.cell 1
  have c0_2_1 : w1.cell? ⟨w.heap.size, 2, none⟩ = some (B (l2 a)) := R0_1.out.cell 2
  have c0_3_1 : w1.cell? ⟨w.heap.size, 3, none⟩ = some (B (l3 a)) := R0_1.out.cell 3
  have c1_0_1 : w1.cell? ⟨w.heap.size + 1, 0, none⟩ = some (.int .u64 0) := R1_1.out.cell 0
  have c1_1_1 : w1.cell? ⟨w.heap.size + 1, 1, none⟩ = some (.int .u64 0) := R1_1.out.cell 1
  have c1_2_1 : w1.cell? ⟨w.heap.size + 1, 2, none⟩ = some (.int .u64 0) := R1_1.out.cell 2
  have c1_3_1 : w1.cell? ⟨w.heap.size + 1, 3, none⟩ = some (.int .u64 0) := R1_1.out.cell 3
  have z1_0_1 := R1_1.out.frozen 0
  have z1_1_1 := R1_1.out.frozen 1
  have z1_2_1 := R1_1.out.frozen 2
  have z1_3_1 := R1_1.out.frozen 3
  go_wp2
  rw [set4 R1_1.out rfl]
  exact bodyPost_ret (v := U a) (results_cell1 (p := 2) (ty := 24) rfl (g := w.heap.size + 1) rfl (R1_1.out.set_same _) rfl Try.underlying24 (by kernel_rfl)) rfl ⟨rfl, (below_setRow B1.out (by omega) _)⟩

set_option maxRecDepth 100000 in
set_option maxHeartbeats 4000000 in
theorem less_tt (a b : Nat) (c : Int)
    (hp : Hid (∀ w, Calls Try.prog 30 #[U a] w fun e w' => e = .returned (.bool true) ∧ Below w.heap.size w w'))
    (hq : Hid (∀ w, Calls Try.prog 30 #[U b] w fun e w' => e = .returned (.bool true) ∧ Below w.heap.size w w'))
    (hc : Hid (∀ w, Calls Try.prog 31 #[U a, U b] w fun e w' => e = .returned (.int .i64 c) ∧ Below w.heap.size w w')) (w : World) :
    Calls Try.prog 11 #[U a, U b] w fun e w' => e = .returned (.bool (decide (c < 0))) ∧ Below w.heap.size w w' := by
  go_enter Try.func11, Try.ntmps11
  go_wp2_with fail
  refine name_world _ ?_
  intro wF hF
  have RF0 : Hid (HasRow wF (w.heap.size) #[B (l0 a), B (l1 a), B (l2 a), B (l3 a)]) := by rw [hF]; exact (HasRow.old (HasRow.last (by simp)))
  have RF1 : Hid (HasRow wF (w.heap.size + 1) #[B (l0 b), B (l1 b), B (l2 b), B (l3 b)]) := by rw [hF]; exact (HasRow.last (by simp))
  have BF : Hid (Below w.heap.size w wF) := by rw [hF]; exact (bel_alloc (bel_alloc (Below.refl _ _) _) _)
  clear hF
  have d0_0 : wF.cell? ⟨w.heap.size, 0, none⟩ = some (B (l0 a)) := RF0.out.cell 0
  replace d0_0 := cell_regrown d0_0
  have d0_1 : wF.cell? ⟨w.heap.size, 1, none⟩ = some (B (l1 a)) := RF0.out.cell 1
  replace d0_1 := cell_regrown d0_1
  have d0_2 : wF.cell? ⟨w.heap.size, 2, none⟩ = some (B (l2 a)) := RF0.out.cell 2
  replace d0_2 := cell_regrown d0_2
  have d0_3 : wF.cell? ⟨w.heap.size, 3, none⟩ = some (B (l3 a)) := RF0.out.cell 3
  replace d0_3 := cell_regrown d0_3
  have d1_0 : wF.cell? ⟨w.heap.size + 1, 0, none⟩ = some (B (l0 b)) := RF1.out.cell 0
  replace d1_0 := cell_regrown d1_0
  have d1_1 : wF.cell? ⟨w.heap.size + 1, 1, none⟩ = some (B (l1 b)) := RF1.out.cell 1
  replace d1_1 := cell_regrown d1_1
  have d1_2 : wF.cell? ⟨w.heap.size + 1, 2, none⟩ = some (B (l2 b)) := RF1.out.cell 2
  replace d1_2 := cell_regrown d1_2
  have d1_3 : wF.cell? ⟨w.heap.size + 1, 3, none⟩ = some (B (l3 b)) := RF1.out.cell 3
  replace d1_3 := cell_regrown d1_3
  refine wp_region_quiet_below (by kernel_rfl) (by kernel_rfl) ?_
  repeat (go_big_quiet_step (fail))
  go_big_quiet_step ((exact Calls.regrown_of (hp.out _)))
  repeat (go_big_quiet_step (fail))
  go_big_quiet_step ((exact Calls.regrown_of (hq.out _)))
  repeat (go_big_quiet_step (fail))
  refine wpQuiet_nil ?_
  intro w1 hw'
  have hb1 : Below wF.heap.size wF w1 := by obtain ⟨p, rfl⟩ := hw'; exact below_regrown _ _ _
  clear hw'
  clear d0_0 d0_1 d0_2 d0_3
  clear d1_0 d1_1 d1_2 d1_3
  have R0_1 : Hid (HasRow w1 (w.heap.size) #[B (l0 a), B (l1 a), B (l2 a), B (l3 a)]) := RF0.out.below hb1
  have R1_1 : Hid (HasRow w1 (w.heap.size + 1) #[B (l0 b), B (l1 b), B (l2 b), B (l3 b)]) := RF1.out.below hb1
  have B1 : Hid (Below w.heap.size w w1) := bel_call BF.out hb1
  clear hb1 BF RF0 RF1
  clear wF
  have q0_1 := R0_1.out.lt
  have q1_1 := R1_1.out.lt
  have c0_0_1 : w1.cell? ⟨w.heap.size, 0, none⟩ = some (B (l0 a)) := R0_1.out.cell 0
  have c0_1_1 : w1.cell? ⟨w.heap.size, 1, none⟩ = some (B (l1 a)) := R0_1.out.cell 1
  have c0_2_1 : w1.cell? ⟨w.heap.size, 2, none⟩ = some (B (l2 a)) := R0_1.out.cell 2
  have c0_3_1 : w1.cell? ⟨w.heap.size, 3, none⟩ = some (B (l3 a)) := R0_1.out.cell 3
  have c1_0_1 : w1.cell? ⟨w.heap.size + 1, 0, none⟩ = some (B (l0 b)) := R1_1.out.cell 0
  have c1_1_1 : w1.cell? ⟨w.heap.size + 1, 1, none⟩ = some (B (l1 b)) := R1_1.out.cell 1
  have c1_2_1 : w1.cell? ⟨w.heap.size + 1, 2, none⟩ = some (B (l2 b)) := R1_1.out.cell 2
  have c1_3_1 : w1.cell? ⟨w.heap.size + 1, 3, none⟩ = some (B (l3 b)) := R1_1.out.cell 3
  go_wp2_with fail
  refine (hc.out _).mono ?_
  rintro e w2 ⟨rfl, hb2⟩
  have R0_2 : Hid (HasRow w2 (w.heap.size) #[B (l0 a), B (l1 a), B (l2 a), B (l3 a)]) := R0_1.out.below hb2
  have R1_2 : Hid (HasRow w2 (w.heap.size + 1) #[B (l0 b), B (l1 b), B (l2 b), B (l3 b)]) := R1_1.out.below hb2
  have B2 : Hid (Below w.heap.size w w2) := bel_call B1.out hb2
  clear hb2
  clear q0_1 q1_1 c0_0_1 c0_1_1 c0_2_1 c0_3_1 c1_0_1 c1_1_1 c1_2_1 c1_3_1
  have q0_2 := R0_2.out.lt
  have q1_2 := R1_2.out.lt
  go_wp2
  go_ret
  exact ⟨rfl, B2.out⟩

set_option maxRecDepth 100000 in
set_option maxHeartbeats 4000000 in
theorem less_tf (a b : Nat)
    (hp : Hid (∀ w, Calls Try.prog 30 #[U a] w fun e w' => e = .returned (.bool true) ∧ Below w.heap.size w w'))
    (hq : Hid (∀ w, Calls Try.prog 30 #[U b] w fun e w' => e = .returned (.bool false) ∧ Below w.heap.size w w')) (w : World) :
    Calls Try.prog 11 #[U a, U b] w fun e w' => e = .returned (.bool true) ∧ Below w.heap.size w w' := by
  go_enter Try.func11, Try.ntmps11
  go_wp2_with fail
  refine name_world _ ?_
  intro wF hF
  have RF0 : Hid (HasRow wF (w.heap.size) #[B (l0 a), B (l1 a), B (l2 a), B (l3 a)]) := by rw [hF]; exact (HasRow.old (HasRow.last (by simp)))
  have RF1 : Hid (HasRow wF (w.heap.size + 1) #[B (l0 b), B (l1 b), B (l2 b), B (l3 b)]) := by rw [hF]; exact (HasRow.last (by simp))
  have BF : Hid (Below w.heap.size w wF) := by rw [hF]; exact (bel_alloc (bel_alloc (Below.refl _ _) _) _)
  clear hF
  have d0_0 : wF.cell? ⟨w.heap.size, 0, none⟩ = some (B (l0 a)) := RF0.out.cell 0
  replace d0_0 := cell_regrown d0_0
  have d0_1 : wF.cell? ⟨w.heap.size, 1, none⟩ = some (B (l1 a)) := RF0.out.cell 1
  replace d0_1 := cell_regrown d0_1
  have d0_2 : wF.cell? ⟨w.heap.size, 2, none⟩ = some (B (l2 a)) := RF0.out.cell 2
  replace d0_2 := cell_regrown d0_2
  have d0_3 : wF.cell? ⟨w.heap.size, 3, none⟩ = some (B (l3 a)) := RF0.out.cell 3
  replace d0_3 := cell_regrown d0_3
  have d1_0 : wF.cell? ⟨w.heap.size + 1, 0, none⟩ = some (B (l0 b)) := RF1.out.cell 0
  replace d1_0 := cell_regrown d1_0
  have d1_1 : wF.cell? ⟨w.heap.size + 1, 1, none⟩ = some (B (l1 b)) := RF1.out.cell 1
  replace d1_1 := cell_regrown d1_1
  have d1_2 : wF.cell? ⟨w.heap.size + 1, 2, none⟩ = some (B (l2 b)) := RF1.out.cell 2
  replace d1_2 := cell_regrown d1_2
  have d1_3 : wF.cell? ⟨w.heap.size + 1, 3, none⟩ = some (B (l3 b)) := RF1.out.cell 3
  replace d1_3 := cell_regrown d1_3
  refine wp_region_quiet_below (by kernel_rfl) (by kernel_rfl) ?_
  repeat (go_big_quiet_step (fail))
  go_big_quiet_step ((exact Calls.regrown_of (hp.out _)))
  repeat (go_big_quiet_step (fail))
  go_big_quiet_step ((exact Calls.regrown_of (hq.out _)))
  repeat (go_big_quiet_step (fail))
  refine wpQuiet_nil ?_
  intro w1 hw'
  have hb1 : Below wF.heap.size wF w1 := by obtain ⟨p, rfl⟩ := hw'; exact below_regrown _ _ _
  clear hw'
  clear d0_0 d0_1 d0_2 d0_3
  clear d1_0 d1_1 d1_2 d1_3
  have R0_1 : Hid (HasRow w1 (w.heap.size) #[B (l0 a), B (l1 a), B (l2 a), B (l3 a)]) := RF0.out.below hb1
  have R1_1 : Hid (HasRow w1 (w.heap.size + 1) #[B (l0 b), B (l1 b), B (l2 b), B (l3 b)]) := RF1.out.below hb1
  have B1 : Hid (Below w.heap.size w w1) := bel_call BF.out hb1
  clear hb1 BF RF0 RF1
  clear wF
  have q0_1 := R0_1.out.lt
  have q1_1 := R1_1.out.lt
  have c0_0_1 : w1.cell? ⟨w.heap.size, 0, none⟩ = some (B (l0 a)) := R0_1.out.cell 0
  have c0_1_1 : w1.cell? ⟨w.heap.size, 1, none⟩ = some (B (l1 a)) := R0_1.out.cell 1
  have c0_2_1 : w1.cell? ⟨w.heap.size, 2, none⟩ = some (B (l2 a)) := R0_1.out.cell 2
  have c0_3_1 : w1.cell? ⟨w.heap.size, 3, none⟩ = some (B (l3 a)) := R0_1.out.cell 3
  have c1_0_1 : w1.cell? ⟨w.heap.size + 1, 0, none⟩ = some (B (l0 b)) := R1_1.out.cell 0
  have c1_1_1 : w1.cell? ⟨w.heap.size + 1, 1, none⟩ = some (B (l1 b)) := R1_1.out.cell 1
  have c1_2_1 : w1.cell? ⟨w.heap.size + 1, 2, none⟩ = some (B (l2 b)) := R1_1.out.cell 2
  have c1_3_1 : w1.cell? ⟨w.heap.size + 1, 3, none⟩ = some (B (l3 b)) := R1_1.out.cell 3
  go_wp2_with fail
  refine (hp.out _).mono ?_
  rintro e w2 ⟨rfl, hb2⟩
  have R0_2 : Hid (HasRow w2 (w.heap.size) #[B (l0 a), B (l1 a), B (l2 a), B (l3 a)]) := R0_1.out.below hb2
  have R1_2 : Hid (HasRow w2 (w.heap.size + 1) #[B (l0 b), B (l1 b), B (l2 b), B (l3 b)]) := R1_1.out.below hb2
  have B2 : Hid (Below w.heap.size w w2) := bel_call B1.out hb2
  clear hb2
  clear q0_1 q1_1 c0_0_1 c0_1_1 c0_2_1 c0_3_1 c1_0_1 c1_1_1 c1_2_1 c1_3_1
  have q0_2 := R0_2.out.lt
  have q1_2 := R1_2.out.lt
  go_wp2
  go_ret
  exact ⟨rfl, B2.out⟩

set_option maxRecDepth 100000 in
set_option maxHeartbeats 4000000 in
theorem less_ft (a b : Nat)
    (hp : Hid (∀ w, Calls Try.prog 30 #[U a] w fun e w' => e = .returned (.bool false) ∧ Below w.heap.size w w'))
    (hq : Hid (∀ w, Calls Try.prog 30 #[U b] w fun e w' => e = .returned (.bool true) ∧ Below w.heap.size w w')) (w : World) :
    Calls Try.prog 11 #[U a, U b] w fun e w' => e = .returned (.bool false) ∧ Below w.heap.size w w' := by
  go_enter Try.func11, Try.ntmps11
  go_wp2_with fail
  refine name_world _ ?_
  intro wF hF
  have RF0 : Hid (HasRow wF (w.heap.size) #[B (l0 a), B (l1 a), B (l2 a), B (l3 a)]) := by rw [hF]; exact (HasRow.old (HasRow.last (by simp)))
  have RF1 : Hid (HasRow wF (w.heap.size + 1) #[B (l0 b), B (l1 b), B (l2 b), B (l3 b)]) := by rw [hF]; exact (HasRow.last (by simp))
  have BF : Hid (Below w.heap.size w wF) := by rw [hF]; exact (bel_alloc (bel_alloc (Below.refl _ _) _) _)
  clear hF
  have d0_0 : wF.cell? ⟨w.heap.size, 0, none⟩ = some (B (l0 a)) := RF0.out.cell 0
  replace d0_0 := cell_regrown d0_0
  have d0_1 : wF.cell? ⟨w.heap.size, 1, none⟩ = some (B (l1 a)) := RF0.out.cell 1
  replace d0_1 := cell_regrown d0_1
  have d0_2 : wF.cell? ⟨w.heap.size, 2, none⟩ = some (B (l2 a)) := RF0.out.cell 2
  replace d0_2 := cell_regrown d0_2
  have d0_3 : wF.cell? ⟨w.heap.size, 3, none⟩ = some (B (l3 a)) := RF0.out.cell 3
  replace d0_3 := cell_regrown d0_3
  have d1_0 : wF.cell? ⟨w.heap.size + 1, 0, none⟩ = some (B (l0 b)) := RF1.out.cell 0
  replace d1_0 := cell_regrown d1_0
  have d1_1 : wF.cell? ⟨w.heap.size + 1, 1, none⟩ = some (B (l1 b)) := RF1.out.cell 1
  replace d1_1 := cell_regrown d1_1
  have d1_2 : wF.cell? ⟨w.heap.size + 1, 2, none⟩ = some (B (l2 b)) := RF1.out.cell 2
  replace d1_2 := cell_regrown d1_2
  have d1_3 : wF.cell? ⟨w.heap.size + 1, 3, none⟩ = some (B (l3 b)) := RF1.out.cell 3
  replace d1_3 := cell_regrown d1_3
  refine wp_region_quiet_below (by kernel_rfl) (by kernel_rfl) ?_
  repeat (go_big_quiet_step (fail))
  go_big_quiet_step ((exact Calls.regrown_of (hp.out _)))
  repeat (go_big_quiet_step (fail))
  go_big_quiet_step ((exact Calls.regrown_of (hq.out _)))
  repeat (go_big_quiet_step (fail))
  refine wpQuiet_nil ?_
  intro w1 hw'
  have hb1 : Below wF.heap.size wF w1 := by obtain ⟨p, rfl⟩ := hw'; exact below_regrown _ _ _
  clear hw'
  clear d0_0 d0_1 d0_2 d0_3
  clear d1_0 d1_1 d1_2 d1_3
  have R0_1 : Hid (HasRow w1 (w.heap.size) #[B (l0 a), B (l1 a), B (l2 a), B (l3 a)]) := RF0.out.below hb1
  have R1_1 : Hid (HasRow w1 (w.heap.size + 1) #[B (l0 b), B (l1 b), B (l2 b), B (l3 b)]) := RF1.out.below hb1
  have B1 : Hid (Below w.heap.size w w1) := bel_call BF.out hb1
  clear hb1 BF RF0 RF1
  clear wF
  have q0_1 := R0_1.out.lt
  have q1_1 := R1_1.out.lt
  have c0_0_1 : w1.cell? ⟨w.heap.size, 0, none⟩ = some (B (l0 a)) := R0_1.out.cell 0
  have c0_1_1 : w1.cell? ⟨w.heap.size, 1, none⟩ = some (B (l1 a)) := R0_1.out.cell 1
  have c0_2_1 : w1.cell? ⟨w.heap.size, 2, none⟩ = some (B (l2 a)) := R0_1.out.cell 2
  have c0_3_1 : w1.cell? ⟨w.heap.size, 3, none⟩ = some (B (l3 a)) := R0_1.out.cell 3
  have c1_0_1 : w1.cell? ⟨w.heap.size + 1, 0, none⟩ = some (B (l0 b)) := R1_1.out.cell 0
  have c1_1_1 : w1.cell? ⟨w.heap.size + 1, 1, none⟩ = some (B (l1 b)) := R1_1.out.cell 1
  have c1_2_1 : w1.cell? ⟨w.heap.size + 1, 2, none⟩ = some (B (l2 b)) := R1_1.out.cell 2
  have c1_3_1 : w1.cell? ⟨w.heap.size + 1, 3, none⟩ = some (B (l3 b)) := R1_1.out.cell 3
  go_wp2_with fail
  refine (hp.out _).mono ?_
  rintro e w2 ⟨rfl, hb2⟩
  have R0_2 : Hid (HasRow w2 (w.heap.size) #[B (l0 a), B (l1 a), B (l2 a), B (l3 a)]) := R0_1.out.below hb2
  have R1_2 : Hid (HasRow w2 (w.heap.size + 1) #[B (l0 b), B (l1 b), B (l2 b), B (l3 b)]) := R1_1.out.below hb2
  have B2 : Hid (Below w.heap.size w w2) := bel_call B1.out hb2
  clear hb2
  clear q0_1 q1_1 c0_0_1 c0_1_1 c0_2_1 c0_3_1 c1_0_1 c1_1_1 c1_2_1 c1_3_1
  have q0_2 := R0_2.out.lt
  have q1_2 := R1_2.out.lt
  go_wp2
  go_ret
  exact ⟨rfl, B2.out⟩

set_option maxRecDepth 100000 in
set_option maxHeartbeats 4000000 in
theorem less_ff (a b : Nat) (c : Int)
    (hp : Hid (∀ w, Calls Try.prog 30 #[U a] w fun e w' => e = .returned (.bool false) ∧ Below w.heap.size w w'))
    (hq : Hid (∀ w, Calls Try.prog 30 #[U b] w fun e w' => e = .returned (.bool false) ∧ Below w.heap.size w w'))
    (hc : Hid (∀ w, Calls Try.prog 31 #[U a, U b] w fun e w' => e = .returned (.int .i64 c) ∧ Below w.heap.size w w')) (w : World) :
    Calls Try.prog 11 #[U a, U b] w fun e w' => e = .returned (.bool (decide (c < 0))) ∧ Below w.heap.size w w' := by
  go_enter Try.func11, Try.ntmps11
  go_wp2_with fail
  refine name_world _ ?_
  intro wF hF
  have RF0 : Hid (HasRow wF (w.heap.size) #[B (l0 a), B (l1 a), B (l2 a), B (l3 a)]) := by rw [hF]; exact (HasRow.old (HasRow.last (by simp)))
  have RF1 : Hid (HasRow wF (w.heap.size + 1) #[B (l0 b), B (l1 b), B (l2 b), B (l3 b)]) := by rw [hF]; exact (HasRow.last (by simp))
  have BF : Hid (Below w.heap.size w wF) := by rw [hF]; exact (bel_alloc (bel_alloc (Below.refl _ _) _) _)
  clear hF
  have d0_0 : wF.cell? ⟨w.heap.size, 0, none⟩ = some (B (l0 a)) := RF0.out.cell 0
  replace d0_0 := cell_regrown d0_0
  have d0_1 : wF.cell? ⟨w.heap.size, 1, none⟩ = some (B (l1 a)) := RF0.out.cell 1
  replace d0_1 := cell_regrown d0_1
  have d0_2 : wF.cell? ⟨w.heap.size, 2, none⟩ = some (B (l2 a)) := RF0.out.cell 2
  replace d0_2 := cell_regrown d0_2
  have d0_3 : wF.cell? ⟨w.heap.size, 3, none⟩ = some (B (l3 a)) := RF0.out.cell 3
  replace d0_3 := cell_regrown d0_3
  have d1_0 : wF.cell? ⟨w.heap.size + 1, 0, none⟩ = some (B (l0 b)) := RF1.out.cell 0
  replace d1_0 := cell_regrown d1_0
  have d1_1 : wF.cell? ⟨w.heap.size + 1, 1, none⟩ = some (B (l1 b)) := RF1.out.cell 1
  replace d1_1 := cell_regrown d1_1
  have d1_2 : wF.cell? ⟨w.heap.size + 1, 2, none⟩ = some (B (l2 b)) := RF1.out.cell 2
  replace d1_2 := cell_regrown d1_2
  have d1_3 : wF.cell? ⟨w.heap.size + 1, 3, none⟩ = some (B (l3 b)) := RF1.out.cell 3
  replace d1_3 := cell_regrown d1_3
  refine wp_region_quiet_below (by kernel_rfl) (by kernel_rfl) ?_
  repeat (go_big_quiet_step (fail))
  go_big_quiet_step ((exact Calls.regrown_of (hp.out _)))
  repeat (go_big_quiet_step (fail))
  go_big_quiet_step ((exact Calls.regrown_of (hq.out _)))
  repeat (go_big_quiet_step (fail))
  refine wpQuiet_nil ?_
  intro w1 hw'
  have hb1 : Below wF.heap.size wF w1 := by obtain ⟨p, rfl⟩ := hw'; exact below_regrown _ _ _
  clear hw'
  clear d0_0 d0_1 d0_2 d0_3
  clear d1_0 d1_1 d1_2 d1_3
  have R0_1 : Hid (HasRow w1 (w.heap.size) #[B (l0 a), B (l1 a), B (l2 a), B (l3 a)]) := RF0.out.below hb1
  have R1_1 : Hid (HasRow w1 (w.heap.size + 1) #[B (l0 b), B (l1 b), B (l2 b), B (l3 b)]) := RF1.out.below hb1
  have B1 : Hid (Below w.heap.size w w1) := bel_call BF.out hb1
  clear hb1 BF RF0 RF1
  clear wF
  have q0_1 := R0_1.out.lt
  have q1_1 := R1_1.out.lt
  have c0_0_1 : w1.cell? ⟨w.heap.size, 0, none⟩ = some (B (l0 a)) := R0_1.out.cell 0
  have c0_1_1 : w1.cell? ⟨w.heap.size, 1, none⟩ = some (B (l1 a)) := R0_1.out.cell 1
  have c0_2_1 : w1.cell? ⟨w.heap.size, 2, none⟩ = some (B (l2 a)) := R0_1.out.cell 2
  have c0_3_1 : w1.cell? ⟨w.heap.size, 3, none⟩ = some (B (l3 a)) := R0_1.out.cell 3
  have c1_0_1 : w1.cell? ⟨w.heap.size + 1, 0, none⟩ = some (B (l0 b)) := R1_1.out.cell 0
  have c1_1_1 : w1.cell? ⟨w.heap.size + 1, 1, none⟩ = some (B (l1 b)) := R1_1.out.cell 1
  have c1_2_1 : w1.cell? ⟨w.heap.size + 1, 2, none⟩ = some (B (l2 b)) := R1_1.out.cell 2
  have c1_3_1 : w1.cell? ⟨w.heap.size + 1, 3, none⟩ = some (B (l3 b)) := R1_1.out.cell 3
  go_wp2_with fail
  refine (hc.out _).mono ?_
  rintro e w2 ⟨rfl, hb2⟩
  have R0_2 : Hid (HasRow w2 (w.heap.size) #[B (l0 a), B (l1 a), B (l2 a), B (l3 a)]) := R0_1.out.below hb2
  have R1_2 : Hid (HasRow w2 (w.heap.size + 1) #[B (l0 b), B (l1 b), B (l2 b), B (l3 b)]) := R1_1.out.below hb2
  have B2 : Hid (Below w.heap.size w w2) := bel_call B1.out hb2
  clear hb2
  clear q0_1 q1_1 c0_0_1 c0_1_1 c0_2_1 c0_3_1 c1_0_1 c1_1_1 c1_2_1 c1_3_1
  have q0_2 := R0_2.out.lt
  have q1_2 := R1_2.out.lt
  go_wp2
  go_ret
  exact ⟨rfl, B2.out⟩

set_option maxRecDepth 100000 in
set_option maxHeartbeats 4000000 in
theorem rless_tt (a b : Nat) (c : Int)
    (hp : Hid (∀ w, Calls Try.prog 27 #[U a] w fun e w' => e = .returned (.bool true) ∧ Below w.heap.size w w'))
    (hq : Hid (∀ w, Calls Try.prog 27 #[U b] w fun e w' => e = .returned (.bool true) ∧ Below w.heap.size w w'))
    (hc : Hid (∀ w, Calls Try.prog 32 #[U a, U b] w fun e w' => e = .returned (.int .i64 c) ∧ Below w.heap.size w w')) (w : World) :
    Calls Try.prog 12 #[U a, U b] w fun e w' => e = .returned (.bool (decide (c < 0))) ∧ Below w.heap.size w w' := by
  go_enter Try.func12, Try.ntmps12
  go_wp2_with fail
  refine name_world _ ?_
  intro wF hF
  have RF0 : Hid (HasRow wF (w.heap.size) #[B (l0 a), B (l1 a), B (l2 a), B (l3 a)]) := by rw [hF]; exact (HasRow.old (HasRow.last (by simp)))
  have RF1 : Hid (HasRow wF (w.heap.size + 1) #[B (l0 b), B (l1 b), B (l2 b), B (l3 b)]) := by rw [hF]; exact (HasRow.last (by simp))
  have BF : Hid (Below w.heap.size w wF) := by rw [hF]; exact (bel_alloc (bel_alloc (Below.refl _ _) _) _)
  clear hF
  have d0_0 : wF.cell? ⟨w.heap.size, 0, none⟩ = some (B (l0 a)) := RF0.out.cell 0
  replace d0_0 := cell_regrown d0_0
  have d0_1 : wF.cell? ⟨w.heap.size, 1, none⟩ = some (B (l1 a)) := RF0.out.cell 1
  replace d0_1 := cell_regrown d0_1
  have d0_2 : wF.cell? ⟨w.heap.size, 2, none⟩ = some (B (l2 a)) := RF0.out.cell 2
  replace d0_2 := cell_regrown d0_2
  have d0_3 : wF.cell? ⟨w.heap.size, 3, none⟩ = some (B (l3 a)) := RF0.out.cell 3
  replace d0_3 := cell_regrown d0_3
  have d1_0 : wF.cell? ⟨w.heap.size + 1, 0, none⟩ = some (B (l0 b)) := RF1.out.cell 0
  replace d1_0 := cell_regrown d1_0
  have d1_1 : wF.cell? ⟨w.heap.size + 1, 1, none⟩ = some (B (l1 b)) := RF1.out.cell 1
  replace d1_1 := cell_regrown d1_1
  have d1_2 : wF.cell? ⟨w.heap.size + 1, 2, none⟩ = some (B (l2 b)) := RF1.out.cell 2
  replace d1_2 := cell_regrown d1_2
  have d1_3 : wF.cell? ⟨w.heap.size + 1, 3, none⟩ = some (B (l3 b)) := RF1.out.cell 3
  replace d1_3 := cell_regrown d1_3
  refine wp_region_quiet_below (by kernel_rfl) (by kernel_rfl) ?_
  repeat (go_big_quiet_step (fail))
  go_big_quiet_step ((exact Calls.regrown_of (hp.out _)))
  repeat (go_big_quiet_step (fail))
  go_big_quiet_step ((exact Calls.regrown_of (hq.out _)))
  repeat (go_big_quiet_step (fail))
  refine wpQuiet_nil ?_
  intro w1 hw'
  have hb1 : Below wF.heap.size wF w1 := by obtain ⟨p, rfl⟩ := hw'; exact below_regrown _ _ _
  clear hw'
  clear d0_0 d0_1 d0_2 d0_3
  clear d1_0 d1_1 d1_2 d1_3
  have R0_1 : Hid (HasRow w1 (w.heap.size) #[B (l0 a), B (l1 a), B (l2 a), B (l3 a)]) := RF0.out.below hb1
  have R1_1 : Hid (HasRow w1 (w.heap.size + 1) #[B (l0 b), B (l1 b), B (l2 b), B (l3 b)]) := RF1.out.below hb1
  have B1 : Hid (Below w.heap.size w w1) := bel_call BF.out hb1
  clear hb1 BF RF0 RF1
  clear wF
  have q0_1 := R0_1.out.lt
  have q1_1 := R1_1.out.lt
  have c0_0_1 : w1.cell? ⟨w.heap.size, 0, none⟩ = some (B (l0 a)) := R0_1.out.cell 0
  have c0_1_1 : w1.cell? ⟨w.heap.size, 1, none⟩ = some (B (l1 a)) := R0_1.out.cell 1
  have c0_2_1 : w1.cell? ⟨w.heap.size, 2, none⟩ = some (B (l2 a)) := R0_1.out.cell 2
  have c0_3_1 : w1.cell? ⟨w.heap.size, 3, none⟩ = some (B (l3 a)) := R0_1.out.cell 3
  have c1_0_1 : w1.cell? ⟨w.heap.size + 1, 0, none⟩ = some (B (l0 b)) := R1_1.out.cell 0
  have c1_1_1 : w1.cell? ⟨w.heap.size + 1, 1, none⟩ = some (B (l1 b)) := R1_1.out.cell 1
  have c1_2_1 : w1.cell? ⟨w.heap.size + 1, 2, none⟩ = some (B (l2 b)) := R1_1.out.cell 2
  have c1_3_1 : w1.cell? ⟨w.heap.size + 1, 3, none⟩ = some (B (l3 b)) := R1_1.out.cell 3
  go_wp2_with fail
  refine (hc.out _).mono ?_
  rintro e w2 ⟨rfl, hb2⟩
  have R0_2 : Hid (HasRow w2 (w.heap.size) #[B (l0 a), B (l1 a), B (l2 a), B (l3 a)]) := R0_1.out.below hb2
  have R1_2 : Hid (HasRow w2 (w.heap.size + 1) #[B (l0 b), B (l1 b), B (l2 b), B (l3 b)]) := R1_1.out.below hb2
  have B2 : Hid (Below w.heap.size w w2) := bel_call B1.out hb2
  clear hb2
  clear q0_1 q1_1 c0_0_1 c0_1_1 c0_2_1 c0_3_1 c1_0_1 c1_1_1 c1_2_1 c1_3_1
  have q0_2 := R0_2.out.lt
  have q1_2 := R1_2.out.lt
  go_wp2
  go_ret
  exact ⟨rfl, B2.out⟩

set_option maxRecDepth 100000 in
set_option maxHeartbeats 4000000 in
theorem rless_tf (a b : Nat)
    (hp : Hid (∀ w, Calls Try.prog 27 #[U a] w fun e w' => e = .returned (.bool true) ∧ Below w.heap.size w w'))
    (hq : Hid (∀ w, Calls Try.prog 27 #[U b] w fun e w' => e = .returned (.bool false) ∧ Below w.heap.size w w')) (w : World) :
    Calls Try.prog 12 #[U a, U b] w fun e w' => e = .returned (.bool true) ∧ Below w.heap.size w w' := by
  go_enter Try.func12, Try.ntmps12
  go_wp2_with fail
  refine name_world _ ?_
  intro wF hF
  have RF0 : Hid (HasRow wF (w.heap.size) #[B (l0 a), B (l1 a), B (l2 a), B (l3 a)]) := by rw [hF]; exact (HasRow.old (HasRow.last (by simp)))
  have RF1 : Hid (HasRow wF (w.heap.size + 1) #[B (l0 b), B (l1 b), B (l2 b), B (l3 b)]) := by rw [hF]; exact (HasRow.last (by simp))
  have BF : Hid (Below w.heap.size w wF) := by rw [hF]; exact (bel_alloc (bel_alloc (Below.refl _ _) _) _)
  clear hF
  have d0_0 : wF.cell? ⟨w.heap.size, 0, none⟩ = some (B (l0 a)) := RF0.out.cell 0
  replace d0_0 := cell_regrown d0_0
  have d0_1 : wF.cell? ⟨w.heap.size, 1, none⟩ = some (B (l1 a)) := RF0.out.cell 1
  replace d0_1 := cell_regrown d0_1
  have d0_2 : wF.cell? ⟨w.heap.size, 2, none⟩ = some (B (l2 a)) := RF0.out.cell 2
  replace d0_2 := cell_regrown d0_2
  have d0_3 : wF.cell? ⟨w.heap.size, 3, none⟩ = some (B (l3 a)) := RF0.out.cell 3
  replace d0_3 := cell_regrown d0_3
  have d1_0 : wF.cell? ⟨w.heap.size + 1, 0, none⟩ = some (B (l0 b)) := RF1.out.cell 0
  replace d1_0 := cell_regrown d1_0
  have d1_1 : wF.cell? ⟨w.heap.size + 1, 1, none⟩ = some (B (l1 b)) := RF1.out.cell 1
  replace d1_1 := cell_regrown d1_1
  have d1_2 : wF.cell? ⟨w.heap.size + 1, 2, none⟩ = some (B (l2 b)) := RF1.out.cell 2
  replace d1_2 := cell_regrown d1_2
  have d1_3 : wF.cell? ⟨w.heap.size + 1, 3, none⟩ = some (B (l3 b)) := RF1.out.cell 3
  replace d1_3 := cell_regrown d1_3
  refine wp_region_quiet_below (by kernel_rfl) (by kernel_rfl) ?_
  repeat (go_big_quiet_step (fail))
  go_big_quiet_step ((exact Calls.regrown_of (hp.out _)))
  repeat (go_big_quiet_step (fail))
  go_big_quiet_step ((exact Calls.regrown_of (hq.out _)))
  repeat (go_big_quiet_step (fail))
  refine wpQuiet_nil ?_
  intro w1 hw'
  have hb1 : Below wF.heap.size wF w1 := by obtain ⟨p, rfl⟩ := hw'; exact below_regrown _ _ _
  clear hw'
  clear d0_0 d0_1 d0_2 d0_3
  clear d1_0 d1_1 d1_2 d1_3
  have R0_1 : Hid (HasRow w1 (w.heap.size) #[B (l0 a), B (l1 a), B (l2 a), B (l3 a)]) := RF0.out.below hb1
  have R1_1 : Hid (HasRow w1 (w.heap.size + 1) #[B (l0 b), B (l1 b), B (l2 b), B (l3 b)]) := RF1.out.below hb1
  have B1 : Hid (Below w.heap.size w w1) := bel_call BF.out hb1
  clear hb1 BF RF0 RF1
  clear wF
  have q0_1 := R0_1.out.lt
  have q1_1 := R1_1.out.lt
  have c0_0_1 : w1.cell? ⟨w.heap.size, 0, none⟩ = some (B (l0 a)) := R0_1.out.cell 0
  have c0_1_1 : w1.cell? ⟨w.heap.size, 1, none⟩ = some (B (l1 a)) := R0_1.out.cell 1
  have c0_2_1 : w1.cell? ⟨w.heap.size, 2, none⟩ = some (B (l2 a)) := R0_1.out.cell 2
  have c0_3_1 : w1.cell? ⟨w.heap.size, 3, none⟩ = some (B (l3 a)) := R0_1.out.cell 3
  have c1_0_1 : w1.cell? ⟨w.heap.size + 1, 0, none⟩ = some (B (l0 b)) := R1_1.out.cell 0
  have c1_1_1 : w1.cell? ⟨w.heap.size + 1, 1, none⟩ = some (B (l1 b)) := R1_1.out.cell 1
  have c1_2_1 : w1.cell? ⟨w.heap.size + 1, 2, none⟩ = some (B (l2 b)) := R1_1.out.cell 2
  have c1_3_1 : w1.cell? ⟨w.heap.size + 1, 3, none⟩ = some (B (l3 b)) := R1_1.out.cell 3
  go_wp2_with fail
  refine (hp.out _).mono ?_
  rintro e w2 ⟨rfl, hb2⟩
  have R0_2 : Hid (HasRow w2 (w.heap.size) #[B (l0 a), B (l1 a), B (l2 a), B (l3 a)]) := R0_1.out.below hb2
  have R1_2 : Hid (HasRow w2 (w.heap.size + 1) #[B (l0 b), B (l1 b), B (l2 b), B (l3 b)]) := R1_1.out.below hb2
  have B2 : Hid (Below w.heap.size w w2) := bel_call B1.out hb2
  clear hb2
  clear q0_1 q1_1 c0_0_1 c0_1_1 c0_2_1 c0_3_1 c1_0_1 c1_1_1 c1_2_1 c1_3_1
  have q0_2 := R0_2.out.lt
  have q1_2 := R1_2.out.lt
  go_wp2
  go_ret
  exact ⟨rfl, B2.out⟩

set_option maxRecDepth 100000 in
set_option maxHeartbeats 4000000 in
theorem rless_ft (a b : Nat)
    (hp : Hid (∀ w, Calls Try.prog 27 #[U a] w fun e w' => e = .returned (.bool false) ∧ Below w.heap.size w w'))
    (hq : Hid (∀ w, Calls Try.prog 27 #[U b] w fun e w' => e = .returned (.bool true) ∧ Below w.heap.size w w')) (w : World) :
    Calls Try.prog 12 #[U a, U b] w fun e w' => e = .returned (.bool false) ∧ Below w.heap.size w w' := by
  go_enter Try.func12, Try.ntmps12
  go_wp2_with fail
  refine name_world _ ?_
  intro wF hF
  have RF0 : Hid (HasRow wF (w.heap.size) #[B (l0 a), B (l1 a), B (l2 a), B (l3 a)]) := by rw [hF]; exact (HasRow.old (HasRow.last (by simp)))
  have RF1 : Hid (HasRow wF (w.heap.size + 1) #[B (l0 b), B (l1 b), B (l2 b), B (l3 b)]) := by rw [hF]; exact (HasRow.last (by simp))
  have BF : Hid (Below w.heap.size w wF) := by rw [hF]; exact (bel_alloc (bel_alloc (Below.refl _ _) _) _)
  clear hF
  have d0_0 : wF.cell? ⟨w.heap.size, 0, none⟩ = some (B (l0 a)) := RF0.out.cell 0
  replace d0_0 := cell_regrown d0_0
  have d0_1 : wF.cell? ⟨w.heap.size, 1, none⟩ = some (B (l1 a)) := RF0.out.cell 1
  replace d0_1 := cell_regrown d0_1
  have d0_2 : wF.cell? ⟨w.heap.size, 2, none⟩ = some (B (l2 a)) := RF0.out.cell 2
  replace d0_2 := cell_regrown d0_2
  have d0_3 : wF.cell? ⟨w.heap.size, 3, none⟩ = some (B (l3 a)) := RF0.out.cell 3
  replace d0_3 := cell_regrown d0_3
  have d1_0 : wF.cell? ⟨w.heap.size + 1, 0, none⟩ = some (B (l0 b)) := RF1.out.cell 0
  replace d1_0 := cell_regrown d1_0
  have d1_1 : wF.cell? ⟨w.heap.size + 1, 1, none⟩ = some (B (l1 b)) := RF1.out.cell 1
  replace d1_1 := cell_regrown d1_1
  have d1_2 : wF.cell? ⟨w.heap.size + 1, 2, none⟩ = some (B (l2 b)) := RF1.out.cell 2
  replace d1_2 := cell_regrown d1_2
  have d1_3 : wF.cell? ⟨w.heap.size + 1, 3, none⟩ = some (B (l3 b)) := RF1.out.cell 3
  replace d1_3 := cell_regrown d1_3
  refine wp_region_quiet_below (by kernel_rfl) (by kernel_rfl) ?_
  repeat (go_big_quiet_step (fail))
  go_big_quiet_step ((exact Calls.regrown_of (hp.out _)))
  repeat (go_big_quiet_step (fail))
  go_big_quiet_step ((exact Calls.regrown_of (hq.out _)))
  repeat (go_big_quiet_step (fail))
  refine wpQuiet_nil ?_
  intro w1 hw'
  have hb1 : Below wF.heap.size wF w1 := by obtain ⟨p, rfl⟩ := hw'; exact below_regrown _ _ _
  clear hw'
  clear d0_0 d0_1 d0_2 d0_3
  clear d1_0 d1_1 d1_2 d1_3
  have R0_1 : Hid (HasRow w1 (w.heap.size) #[B (l0 a), B (l1 a), B (l2 a), B (l3 a)]) := RF0.out.below hb1
  have R1_1 : Hid (HasRow w1 (w.heap.size + 1) #[B (l0 b), B (l1 b), B (l2 b), B (l3 b)]) := RF1.out.below hb1
  have B1 : Hid (Below w.heap.size w w1) := bel_call BF.out hb1
  clear hb1 BF RF0 RF1
  clear wF
  have q0_1 := R0_1.out.lt
  have q1_1 := R1_1.out.lt
  have c0_0_1 : w1.cell? ⟨w.heap.size, 0, none⟩ = some (B (l0 a)) := R0_1.out.cell 0
  have c0_1_1 : w1.cell? ⟨w.heap.size, 1, none⟩ = some (B (l1 a)) := R0_1.out.cell 1
  have c0_2_1 : w1.cell? ⟨w.heap.size, 2, none⟩ = some (B (l2 a)) := R0_1.out.cell 2
  have c0_3_1 : w1.cell? ⟨w.heap.size, 3, none⟩ = some (B (l3 a)) := R0_1.out.cell 3
  have c1_0_1 : w1.cell? ⟨w.heap.size + 1, 0, none⟩ = some (B (l0 b)) := R1_1.out.cell 0
  have c1_1_1 : w1.cell? ⟨w.heap.size + 1, 1, none⟩ = some (B (l1 b)) := R1_1.out.cell 1
  have c1_2_1 : w1.cell? ⟨w.heap.size + 1, 2, none⟩ = some (B (l2 b)) := R1_1.out.cell 2
  have c1_3_1 : w1.cell? ⟨w.heap.size + 1, 3, none⟩ = some (B (l3 b)) := R1_1.out.cell 3
  go_wp2_with fail
  refine (hp.out _).mono ?_
  rintro e w2 ⟨rfl, hb2⟩
  have R0_2 : Hid (HasRow w2 (w.heap.size) #[B (l0 a), B (l1 a), B (l2 a), B (l3 a)]) := R0_1.out.below hb2
  have R1_2 : Hid (HasRow w2 (w.heap.size + 1) #[B (l0 b), B (l1 b), B (l2 b), B (l3 b)]) := R1_1.out.below hb2
  have B2 : Hid (Below w.heap.size w w2) := bel_call B1.out hb2
  clear hb2
  clear q0_1 q1_1 c0_0_1 c0_1_1 c0_2_1 c0_3_1 c1_0_1 c1_1_1 c1_2_1 c1_3_1
  have q0_2 := R0_2.out.lt
  have q1_2 := R1_2.out.lt
  go_wp2
  go_ret
  exact ⟨rfl, B2.out⟩

set_option maxRecDepth 100000 in
set_option maxHeartbeats 4000000 in
theorem rless_ff (a b : Nat) (c : Int)
    (hp : Hid (∀ w, Calls Try.prog 27 #[U a] w fun e w' => e = .returned (.bool false) ∧ Below w.heap.size w w'))
    (hq : Hid (∀ w, Calls Try.prog 27 #[U b] w fun e w' => e = .returned (.bool false) ∧ Below w.heap.size w w'))
    (hc : Hid (∀ w, Calls Try.prog 32 #[U a, U b] w fun e w' => e = .returned (.int .i64 c) ∧ Below w.heap.size w w')) (w : World) :
    Calls Try.prog 12 #[U a, U b] w fun e w' => e = .returned (.bool (decide (c < 0))) ∧ Below w.heap.size w w' := by
  go_enter Try.func12, Try.ntmps12
  go_wp2_with fail
  refine name_world _ ?_
  intro wF hF
  have RF0 : Hid (HasRow wF (w.heap.size) #[B (l0 a), B (l1 a), B (l2 a), B (l3 a)]) := by rw [hF]; exact (HasRow.old (HasRow.last (by simp)))
  have RF1 : Hid (HasRow wF (w.heap.size + 1) #[B (l0 b), B (l1 b), B (l2 b), B (l3 b)]) := by rw [hF]; exact (HasRow.last (by simp))
  have BF : Hid (Below w.heap.size w wF) := by rw [hF]; exact (bel_alloc (bel_alloc (Below.refl _ _) _) _)
  clear hF
  have d0_0 : wF.cell? ⟨w.heap.size, 0, none⟩ = some (B (l0 a)) := RF0.out.cell 0
  replace d0_0 := cell_regrown d0_0
  have d0_1 : wF.cell? ⟨w.heap.size, 1, none⟩ = some (B (l1 a)) := RF0.out.cell 1
  replace d0_1 := cell_regrown d0_1
  have d0_2 : wF.cell? ⟨w.heap.size, 2, none⟩ = some (B (l2 a)) := RF0.out.cell 2
  replace d0_2 := cell_regrown d0_2
  have d0_3 : wF.cell? ⟨w.heap.size, 3, none⟩ = some (B (l3 a)) := RF0.out.cell 3
  replace d0_3 := cell_regrown d0_3
  have d1_0 : wF.cell? ⟨w.heap.size + 1, 0, none⟩ = some (B (l0 b)) := RF1.out.cell 0
  replace d1_0 := cell_regrown d1_0
  have d1_1 : wF.cell? ⟨w.heap.size + 1, 1, none⟩ = some (B (l1 b)) := RF1.out.cell 1
  replace d1_1 := cell_regrown d1_1
  have d1_2 : wF.cell? ⟨w.heap.size + 1, 2, none⟩ = some (B (l2 b)) := RF1.out.cell 2
  replace d1_2 := cell_regrown d1_2
  have d1_3 : wF.cell? ⟨w.heap.size + 1, 3, none⟩ = some (B (l3 b)) := RF1.out.cell 3
  replace d1_3 := cell_regrown d1_3
  refine wp_region_quiet_below (by kernel_rfl) (by kernel_rfl) ?_
  repeat (go_big_quiet_step (fail))
  go_big_quiet_step ((exact Calls.regrown_of (hp.out _)))
  repeat (go_big_quiet_step (fail))
  go_big_quiet_step ((exact Calls.regrown_of (hq.out _)))
  repeat (go_big_quiet_step (fail))
  refine wpQuiet_nil ?_
  intro w1 hw'
  have hb1 : Below wF.heap.size wF w1 := by obtain ⟨p, rfl⟩ := hw'; exact below_regrown _ _ _
  clear hw'
  clear d0_0 d0_1 d0_2 d0_3
  clear d1_0 d1_1 d1_2 d1_3
  have R0_1 : Hid (HasRow w1 (w.heap.size) #[B (l0 a), B (l1 a), B (l2 a), B (l3 a)]) := RF0.out.below hb1
  have R1_1 : Hid (HasRow w1 (w.heap.size + 1) #[B (l0 b), B (l1 b), B (l2 b), B (l3 b)]) := RF1.out.below hb1
  have B1 : Hid (Below w.heap.size w w1) := bel_call BF.out hb1
  clear hb1 BF RF0 RF1
  clear wF
  have q0_1 := R0_1.out.lt
  have q1_1 := R1_1.out.lt
  have c0_0_1 : w1.cell? ⟨w.heap.size, 0, none⟩ = some (B (l0 a)) := R0_1.out.cell 0
  have c0_1_1 : w1.cell? ⟨w.heap.size, 1, none⟩ = some (B (l1 a)) := R0_1.out.cell 1
  have c0_2_1 : w1.cell? ⟨w.heap.size, 2, none⟩ = some (B (l2 a)) := R0_1.out.cell 2
  have c0_3_1 : w1.cell? ⟨w.heap.size, 3, none⟩ = some (B (l3 a)) := R0_1.out.cell 3
  have c1_0_1 : w1.cell? ⟨w.heap.size + 1, 0, none⟩ = some (B (l0 b)) := R1_1.out.cell 0
  have c1_1_1 : w1.cell? ⟨w.heap.size + 1, 1, none⟩ = some (B (l1 b)) := R1_1.out.cell 1
  have c1_2_1 : w1.cell? ⟨w.heap.size + 1, 2, none⟩ = some (B (l2 b)) := R1_1.out.cell 2
  have c1_3_1 : w1.cell? ⟨w.heap.size + 1, 3, none⟩ = some (B (l3 b)) := R1_1.out.cell 3
  go_wp2_with fail
  refine (hc.out _).mono ?_
  rintro e w2 ⟨rfl, hb2⟩
  have R0_2 : Hid (HasRow w2 (w.heap.size) #[B (l0 a), B (l1 a), B (l2 a), B (l3 a)]) := R0_1.out.below hb2
  have R1_2 : Hid (HasRow w2 (w.heap.size + 1) #[B (l0 b), B (l1 b), B (l2 b), B (l3 b)]) := R1_1.out.below hb2
  have B2 : Hid (Below w.heap.size w w2) := bel_call B1.out hb2
  clear hb2
  clear q0_1 q1_1 c0_0_1 c0_1_1 c0_2_1 c0_3_1 c1_0_1 c1_1_1 c1_2_1 c1_3_1
  have q0_2 := R0_2.out.lt
  have q1_2 := R1_2.out.lt
  go_wp2
  go_ret
  exact ⟨rfl, B2.out⟩

set_option maxRecDepth 100000 in
set_option maxHeartbeats 4000000 in
theorem sar_yes (a n x y z : Nat)
    (hp : Hid (∀ w, Calls Try.prog 30 #[U a] w fun e w' => e = .returned (.bool true) ∧ Below w.heap.size w w'))
    (h1 : Hid (∀ w, Calls Try.prog 33 #[U a] w fun e w' => e = .returned (U x) ∧ Below w.heap.size w w'))
    (h2 : Hid (∀ w, Calls Try.prog 34 #[U x, B n] w fun e w' => e = .returned (U y) ∧ Below w.heap.size w w'))
    (h3 : Hid (∀ w, Calls Try.prog 33 #[U y] w fun e w' => e = .returned (U z) ∧ Below w.heap.size w w')) (w : World) :
    Calls Try.prog 13 #[U a, B n] w fun e w' => e = .returned (U z) ∧ Below w.heap.size w w' := by
  go_enter Try.func13, Try.ntmps13
  go_wp2_with fail
  refine (hp.out _).mono ?_
  rintro e w1 ⟨rfl, hb1⟩
  have R0_1 : Hid (HasRow w1 (w.heap.size) #[B (l0 a), B (l1 a), B (l2 a), B (l3 a)]) := (HasRow.old (HasRow.last (by simp))).below hb1
  have R1_1 : Hid (HasRow w1 (w.heap.size + 1) #[.int .u64 0, .int .u64 0, .int .u64 0, .int .u64 0]) := (HasRow.last (by simp)).below hb1
  have B1 : Hid (Below w.heap.size w w1) := bel_call (bel_alloc (bel_alloc (Below.refl _ _) _) _) hb1
  clear hb1
  have q0_1 := R0_1.out.lt
  have q1_1 := R1_1.out.lt
  have c0_0_1 : w1.cell? ⟨w.heap.size, 0, none⟩ = some (B (l0 a)) := R0_1.out.cell 0
  have c0_1_1 : w1.cell? ⟨w.heap.size, 1, none⟩ = some (B (l1 a)) := R0_1.out.cell 1
  have c0_2_1 : w1.cell? ⟨w.heap.size, 2, none⟩ = some (B (l2 a)) := R0_1.out.cell 2
  have c0_3_1 : w1.cell? ⟨w.heap.size, 3, none⟩ = some (B (l3 a)) := R0_1.out.cell 3
  go_wp2_with fail
  refine (h1.out _).mono ?_
  rintro e w2 ⟨rfl, hb2⟩
  have R0_2 : Hid (HasRow w2 (w.heap.size) #[B (l0 a), B (l1 a), B (l2 a), B (l3 a)]) := R0_1.out.below hb2
  have R1_2 : Hid (HasRow w2 (w.heap.size + 1) #[.int .u64 0, .int .u64 0, .int .u64 0, .int .u64 0]) := R1_1.out.below hb2
  have B2 : Hid (Below w.heap.size w w2) := bel_call B1.out hb2
  clear hb2
  clear q0_1 q1_1 c0_0_1 c0_1_1 c0_2_1 c0_3_1
  have q0_2 := R0_2.out.lt
  have q1_2 := R1_2.out.lt
  go_wp2_with fail
  refine (h2.out _).mono ?_
  rintro e w3 ⟨rfl, hb3⟩
  have R0_3 : Hid (HasRow w3 (w.heap.size) #[B (l0 a), B (l1 a), B (l2 a), B (l3 a)]) := R0_2.out.below hb3
  have R1_3 : Hid (HasRow w3 (w.heap.size + 1) #[.int .u64 0, .int .u64 0, .int .u64 0, .int .u64 0]) := R1_2.out.below hb3
  have B3 : Hid (Below w.heap.size w w3) := bel_call B2.out hb3
  clear hb3
  clear q0_2 q1_2
  have q0_3 := R0_3.out.lt
  have q1_3 := R1_3.out.lt
  go_wp2_with fail
  refine (h3.out _).mono ?_
  rintro e w4 ⟨rfl, hb4⟩
  have R0_4 : Hid (HasRow w4 (w.heap.size) #[B (l0 a), B (l1 a), B (l2 a), B (l3 a)]) := R0_3.out.below hb4
  have R1_4 : Hid (HasRow w4 (w.heap.size + 1) #[.int .u64 0, .int .u64 0, .int .u64 0, .int .u64 0]) := R1_3.out.below hb4
  have B4 : Hid (Below w.heap.size w w4) := bel_call B3.out hb4
  clear hb4
  clear q0_3 q1_3
  have q0_4 := R0_4.out.lt
  have q1_4 := R1_4.out.lt
  have c1_0_4 : w4.cell? ⟨w.heap.size + 1, 0, none⟩ = some (.int .u64 0) := R1_4.out.cell 0
  have c1_1_4 : w4.cell? ⟨w.heap.size + 1, 1, none⟩ = some (.int .u64 0) := R1_4.out.cell 1
  have c1_2_4 : w4.cell? ⟨w.heap.size + 1, 2, none⟩ = some (.int .u64 0) := R1_4.out.cell 2
  have c1_3_4 : w4.cell? ⟨w.heap.size + 1, 3, none⟩ = some (.int .u64 0) := R1_4.out.cell 3
  have z1_0_4 := R1_4.out.frozen 0
  have z1_1_4 := R1_4.out.frozen 1
  have z1_2_4 := R1_4.out.frozen 2
  have z1_3_4 := R1_4.out.frozen 3
  go_wp2
  rw [set4 R1_4.out rfl]
  exact bodyPost_ret (v := U z) (results_cell1 (p := 4) (ty := 24) rfl (g := w.heap.size + 1) rfl (R1_4.out.set_same _) rfl Try.underlying24 (by kernel_rfl)) rfl ⟨rfl, (below_setRow B4.out (by omega) _)⟩

set_option maxRecDepth 100000 in
set_option maxHeartbeats 4000000 in
theorem sar_no (a n y : Nat)
    (hp : Hid (∀ w, Calls Try.prog 30 #[U a] w fun e w' => e = .returned (.bool false) ∧ Below w.heap.size w w'))
    (h2 : Hid (∀ w, Calls Try.prog 34 #[U a, B n] w fun e w' => e = .returned (U y) ∧ Below w.heap.size w w')) (w : World) :
    Calls Try.prog 13 #[U a, B n] w fun e w' => e = .returned (U y) ∧ Below w.heap.size w w' := by
  go_enter Try.func13, Try.ntmps13
  go_wp2_with fail
  refine (hp.out _).mono ?_
  rintro e w1 ⟨rfl, hb1⟩
  have R0_1 : Hid (HasRow w1 (w.heap.size) #[B (l0 a), B (l1 a), B (l2 a), B (l3 a)]) := (HasRow.old (HasRow.last (by simp))).below hb1
  have R1_1 : Hid (HasRow w1 (w.heap.size + 1) #[.int .u64 0, .int .u64 0, .int .u64 0, .int .u64 0]) := (HasRow.last (by simp)).below hb1
  have B1 : Hid (Below w.heap.size w w1) := bel_call (bel_alloc (bel_alloc (Below.refl _ _) _) _) hb1
  clear hb1
  have q0_1 := R0_1.out.lt
  have q1_1 := R1_1.out.lt
  have c0_0_1 : w1.cell? ⟨w.heap.size, 0, none⟩ = some (B (l0 a)) := R0_1.out.cell 0
  have c0_1_1 : w1.cell? ⟨w.heap.size, 1, none⟩ = some (B (l1 a)) := R0_1.out.cell 1
  have c0_2_1 : w1.cell? ⟨w.heap.size, 2, none⟩ = some (B (l2 a)) := R0_1.out.cell 2
  have c0_3_1 : w1.cell? ⟨w.heap.size, 3, none⟩ = some (B (l3 a)) := R0_1.out.cell 3
  go_wp2_with fail
  refine (h2.out _).mono ?_
  rintro e w2 ⟨rfl, hb2⟩
  have R0_2 : Hid (HasRow w2 (w.heap.size) #[B (l0 a), B (l1 a), B (l2 a), B (l3 a)]) := R0_1.out.below hb2
  have R1_2 : Hid (HasRow w2 (w.heap.size + 1) #[.int .u64 0, .int .u64 0, .int .u64 0, .int .u64 0]) := R1_1.out.below hb2
  have B2 : Hid (Below w.heap.size w w2) := bel_call B1.out hb2
  clear hb2
  clear q0_1 q1_1 c0_0_1 c0_1_1 c0_2_1 c0_3_1
  have q0_2 := R0_2.out.lt
  have q1_2 := R1_2.out.lt
  have c1_0_2 : w2.cell? ⟨w.heap.size + 1, 0, none⟩ = some (.int .u64 0) := R1_2.out.cell 0
  have c1_1_2 : w2.cell? ⟨w.heap.size + 1, 1, none⟩ = some (.int .u64 0) := R1_2.out.cell 1
  have c1_2_2 : w2.cell? ⟨w.heap.size + 1, 2, none⟩ = some (.int .u64 0) := R1_2.out.cell 2
  have c1_3_2 : w2.cell? ⟨w.heap.size + 1, 3, none⟩ = some (.int .u64 0) := R1_2.out.cell 3
  have z1_0_2 := R1_2.out.frozen 0
  have z1_1_2 := R1_2.out.frozen 1
  have z1_2_2 := R1_2.out.frozen 2
  have z1_3_2 := R1_2.out.frozen 3
  go_wp2
  rw [set4 R1_2.out rfl]
  exact bodyPost_ret (v := U y) (results_cell1 (p := 4) (ty := 24) rfl (g := w.heap.size + 1) rfl (R1_2.out.set_same _) rfl Try.underlying24 (by kernel_rfl)) rfl ⟨rfl, (below_setRow B2.out (by omega) _)⟩

set_option maxRecDepth 100000 in
set_option maxHeartbeats 4000000 in
theorem rsar_yes (a n x y z : Nat)
    (hp : Hid (∀ w, Calls Try.prog 27 #[U a] w fun e w' => e = .returned (.bool true) ∧ Below w.heap.size w w'))
    (h1 : Hid (∀ w, Calls Try.prog 36 #[U a] w fun e w' => e = .returned (U x) ∧ Below w.heap.size w w'))
    (h2 : Hid (∀ w, Calls Try.prog 35 #[U x, B n] w fun e w' => e = .returned (U y) ∧ Below w.heap.size w w'))
    (h3 : Hid (∀ w, Calls Try.prog 36 #[U y] w fun e w' => e = .returned (U z) ∧ Below w.heap.size w w')) (w : World) :
    Calls Try.prog 14 #[U a, B n] w fun e w' => e = .returned (U z) ∧ Below w.heap.size w w' := by
  go_enter Try.func14, Try.ntmps14
  go_wp2_with fail
  refine (hp.out _).mono ?_
  rintro e w1 ⟨rfl, hb1⟩
  have R0_1 : Hid (HasRow w1 (w.heap.size) #[B (l0 a), B (l1 a), B (l2 a), B (l3 a)]) := (HasRow.old (HasRow.last (by simp))).below hb1
  have R1_1 : Hid (HasRow w1 (w.heap.size + 1) #[.int .u64 0, .int .u64 0, .int .u64 0, .int .u64 0]) := (HasRow.last (by simp)).below hb1
  have B1 : Hid (Below w.heap.size w w1) := bel_call (bel_alloc (bel_alloc (Below.refl _ _) _) _) hb1
  clear hb1
  have q0_1 := R0_1.out.lt
  have q1_1 := R1_1.out.lt
  have c0_0_1 : w1.cell? ⟨w.heap.size, 0, none⟩ = some (B (l0 a)) := R0_1.out.cell 0
  have c0_1_1 : w1.cell? ⟨w.heap.size, 1, none⟩ = some (B (l1 a)) := R0_1.out.cell 1
  have c0_2_1 : w1.cell? ⟨w.heap.size, 2, none⟩ = some (B (l2 a)) := R0_1.out.cell 2
  have c0_3_1 : w1.cell? ⟨w.heap.size, 3, none⟩ = some (B (l3 a)) := R0_1.out.cell 3
  go_wp2_with fail
  refine (h1.out _).mono ?_
  rintro e w2 ⟨rfl, hb2⟩
  have R0_2 : Hid (HasRow w2 (w.heap.size) #[B (l0 a), B (l1 a), B (l2 a), B (l3 a)]) := R0_1.out.below hb2
  have R1_2 : Hid (HasRow w2 (w.heap.size + 1) #[.int .u64 0, .int .u64 0, .int .u64 0, .int .u64 0]) := R1_1.out.below hb2
  have B2 : Hid (Below w.heap.size w w2) := bel_call B1.out hb2
  clear hb2
  clear q0_1 q1_1 c0_0_1 c0_1_1 c0_2_1 c0_3_1
  have q0_2 := R0_2.out.lt
  have q1_2 := R1_2.out.lt
  go_wp2_with fail
  refine (h2.out _).mono ?_
  rintro e w3 ⟨rfl, hb3⟩
  have R0_3 : Hid (HasRow w3 (w.heap.size) #[B (l0 a), B (l1 a), B (l2 a), B (l3 a)]) := R0_2.out.below hb3
  have R1_3 : Hid (HasRow w3 (w.heap.size + 1) #[.int .u64 0, .int .u64 0, .int .u64 0, .int .u64 0]) := R1_2.out.below hb3
  have B3 : Hid (Below w.heap.size w w3) := bel_call B2.out hb3
  clear hb3
  clear q0_2 q1_2
  have q0_3 := R0_3.out.lt
  have q1_3 := R1_3.out.lt
  go_wp2_with fail
  refine (h3.out _).mono ?_
  rintro e w4 ⟨rfl, hb4⟩
  have R0_4 : Hid (HasRow w4 (w.heap.size) #[B (l0 a), B (l1 a), B (l2 a), B (l3 a)]) := R0_3.out.below hb4
  have R1_4 : Hid (HasRow w4 (w.heap.size + 1) #[.int .u64 0, .int .u64 0, .int .u64 0, .int .u64 0]) := R1_3.out.below hb4
  have B4 : Hid (Below w.heap.size w w4) := bel_call B3.out hb4
  clear hb4
  clear q0_3 q1_3
  have q0_4 := R0_4.out.lt
  have q1_4 := R1_4.out.lt
  have c1_0_4 : w4.cell? ⟨w.heap.size + 1, 0, none⟩ = some (.int .u64 0) := R1_4.out.cell 0
  have c1_1_4 : w4.cell? ⟨w.heap.size + 1, 1, none⟩ = some (.int .u64 0) := R1_4.out.cell 1
  have c1_2_4 : w4.cell? ⟨w.heap.size + 1, 2, none⟩ = some (.int .u64 0) := R1_4.out.cell 2
  have c1_3_4 : w4.cell? ⟨w.heap.size + 1, 3, none⟩ = some (.int .u64 0) := R1_4.out.cell 3
  have z1_0_4 := R1_4.out.frozen 0
  have z1_1_4 := R1_4.out.frozen 1
  have z1_2_4 := R1_4.out.frozen 2
  have z1_3_4 := R1_4.out.frozen 3
  go_wp2
  rw [set4 R1_4.out rfl]
  exact bodyPost_ret (v := U z) (results_cell1 (p := 4) (ty := 24) rfl (g := w.heap.size + 1) rfl (R1_4.out.set_same _) rfl Try.underlying24 (by kernel_rfl)) rfl ⟨rfl, (below_setRow B4.out (by omega) _)⟩

set_option maxRecDepth 100000 in
set_option maxHeartbeats 4000000 in
theorem rsar_no (a n y : Nat)
    (hp : Hid (∀ w, Calls Try.prog 27 #[U a] w fun e w' => e = .returned (.bool false) ∧ Below w.heap.size w w'))
    (h2 : Hid (∀ w, Calls Try.prog 35 #[U a, B n] w fun e w' => e = .returned (U y) ∧ Below w.heap.size w w')) (w : World) :
    Calls Try.prog 14 #[U a, B n] w fun e w' => e = .returned (U y) ∧ Below w.heap.size w w' := by
  go_enter Try.func14, Try.ntmps14
  go_wp2_with fail
  refine (hp.out _).mono ?_
  rintro e w1 ⟨rfl, hb1⟩
  have R0_1 : Hid (HasRow w1 (w.heap.size) #[B (l0 a), B (l1 a), B (l2 a), B (l3 a)]) := (HasRow.old (HasRow.last (by simp))).below hb1
  have R1_1 : Hid (HasRow w1 (w.heap.size + 1) #[.int .u64 0, .int .u64 0, .int .u64 0, .int .u64 0]) := (HasRow.last (by simp)).below hb1
  have B1 : Hid (Below w.heap.size w w1) := bel_call (bel_alloc (bel_alloc (Below.refl _ _) _) _) hb1
  clear hb1
  have q0_1 := R0_1.out.lt
  have q1_1 := R1_1.out.lt
  have c0_0_1 : w1.cell? ⟨w.heap.size, 0, none⟩ = some (B (l0 a)) := R0_1.out.cell 0
  have c0_1_1 : w1.cell? ⟨w.heap.size, 1, none⟩ = some (B (l1 a)) := R0_1.out.cell 1
  have c0_2_1 : w1.cell? ⟨w.heap.size, 2, none⟩ = some (B (l2 a)) := R0_1.out.cell 2
  have c0_3_1 : w1.cell? ⟨w.heap.size, 3, none⟩ = some (B (l3 a)) := R0_1.out.cell 3
  go_wp2_with fail
  refine (h2.out _).mono ?_
  rintro e w2 ⟨rfl, hb2⟩
  have R0_2 : Hid (HasRow w2 (w.heap.size) #[B (l0 a), B (l1 a), B (l2 a), B (l3 a)]) := R0_1.out.below hb2
  have R1_2 : Hid (HasRow w2 (w.heap.size + 1) #[.int .u64 0, .int .u64 0, .int .u64 0, .int .u64 0]) := R1_1.out.below hb2
  have B2 : Hid (Below w.heap.size w w2) := bel_call B1.out hb2
  clear hb2
  clear q0_1 q1_1 c0_0_1 c0_1_1 c0_2_1 c0_3_1
  have q0_2 := R0_2.out.lt
  have q1_2 := R1_2.out.lt
  have c1_0_2 : w2.cell? ⟨w.heap.size + 1, 0, none⟩ = some (.int .u64 0) := R1_2.out.cell 0
  have c1_1_2 : w2.cell? ⟨w.heap.size + 1, 1, none⟩ = some (.int .u64 0) := R1_2.out.cell 1
  have c1_2_2 : w2.cell? ⟨w.heap.size + 1, 2, none⟩ = some (.int .u64 0) := R1_2.out.cell 2
  have c1_3_2 : w2.cell? ⟨w.heap.size + 1, 3, none⟩ = some (.int .u64 0) := R1_2.out.cell 3
  have z1_0_2 := R1_2.out.frozen 0
  have z1_1_2 := R1_2.out.frozen 1
  have z1_2_2 := R1_2.out.frozen 2
  have z1_3_2 := R1_2.out.frozen 3
  go_wp2
  rw [set4 R1_2.out rfl]
  exact bodyPost_ret (v := U y) (results_cell1 (p := 4) (ty := 24) rfl (g := w.heap.size + 1) rfl (R1_2.out.set_same _) rfl Try.underlying24 (by kernel_rfl)) rfl ⟨rfl, (below_setRow B2.out (by omega) _)⟩

set_option maxRecDepth 100000 in
set_option maxHeartbeats 4000000 in
theorem isb_raw (k n m : Nat) (c : Int)
    (h1 : Hid (∀ w, Calls Try.prog 40 #[B n] w fun e w' => e = .returned (U m) ∧ Below w.heap.size w w'))
    (h2 : Hid (∀ w, Calls Try.prog 31 #[U k, U m] w fun e w' => e = .returned (.int .i64 c) ∧ Below w.heap.size w w')) (w : World) :
    Calls Try.prog 37 #[U k, B n] w fun e w' => e = .returned (.bool (decide (c < 0))) ∧ Below w.heap.size w w' := by
  go_enter Try.func37, Try.ntmps37
  go_wp2_with fail
  refine name_world _ ?_
  intro wF hF
  have RF0 : Hid (HasRow wF (w.heap.size) #[B (l0 k), B (l1 k), B (l2 k), B (l3 k)]) := by rw [hF]; exact (HasRow.last (by simp))
  have BF : Hid (Below w.heap.size w wF) := by rw [hF]; exact (bel_alloc (Below.refl _ _) _)
  clear hF
  have d0_0 : wF.cell? ⟨w.heap.size, 0, none⟩ = some (B (l0 k)) := RF0.out.cell 0
  replace d0_0 := cell_regrown d0_0
  have d0_1 : wF.cell? ⟨w.heap.size, 1, none⟩ = some (B (l1 k)) := RF0.out.cell 1
  replace d0_1 := cell_regrown d0_1
  have d0_2 : wF.cell? ⟨w.heap.size, 2, none⟩ = some (B (l2 k)) := RF0.out.cell 2
  replace d0_2 := cell_regrown d0_2
  have d0_3 : wF.cell? ⟨w.heap.size, 3, none⟩ = some (B (l3 k)) := RF0.out.cell 3
  replace d0_3 := cell_regrown d0_3
  refine wp_region_quiet_below (by kernel_rfl) (by kernel_rfl) ?_
  repeat (go_big_quiet_step (fail))
  go_big_quiet_step ((exact Calls.regrown_of (h1.out _)))
  repeat (go_big_quiet_step (fail))
  go_big_quiet_step ((exact Calls.regrown_of (h2.out _)))
  repeat (go_big_quiet_step (fail))
  refine wpQuiet_nil ?_
  intro w1 hw'
  have hb1 : Below wF.heap.size wF w1 := by obtain ⟨p, rfl⟩ := hw'; exact below_regrown _ _ _
  clear hw'
  clear d0_0 d0_1 d0_2 d0_3
  have R0_1 : Hid (HasRow w1 (w.heap.size) #[B (l0 k), B (l1 k), B (l2 k), B (l3 k)]) := RF0.out.below hb1
  have B1 : Hid (Below w.heap.size w w1) := bel_call BF.out hb1
  clear hb1 BF RF0
  clear wF
  have q0_1 := R0_1.out.lt
  go_wp2
  go_ret
  exact ⟨rfl, B1.out⟩

set_option maxRecDepth 100000 in
set_option maxHeartbeats 4000000 in
theorem ext_no (k a : Nat)
    (hb : Hid (∀ w, Calls Try.prog 37 #[U k, B 31] w fun e w' => e = .returned (.bool false) ∧ Below w.heap.size w w')) (w : World) :
    Calls Try.prog 15 #[U k, U a] w fun e w' => e = .returned (U a) ∧ Below w.heap.size w w' := by
  go_enter Try.func15, Try.ntmps15
  go_wp2_with fail
  refine (hb.out _).mono ?_
  rintro e w1 ⟨rfl, hb1⟩
  have R0_1 : Hid (HasRow w1 (w.heap.size) #[B (l0 k), B (l1 k), B (l2 k), B (l3 k)]) := (HasRow.old (HasRow.old (HasRow.last (by simp)))).below hb1
  have R1_1 : Hid (HasRow w1 (w.heap.size + 1) #[B (l0 a), B (l1 a), B (l2 a), B (l3 a)]) := (HasRow.old (HasRow.last (by simp))).below hb1
  have R2_1 : Hid (HasRow w1 (w.heap.size + 1 + 1) #[.int .u64 0, .int .u64 0, .int .u64 0, .int .u64 0]) := (HasRow.last (by simp)).below hb1
  have B1 : Hid (Below w.heap.size w w1) := bel_call (bel_alloc (bel_alloc (bel_alloc (Below.refl _ _) _) _) _) hb1
  clear hb1
  have q0_1 := R0_1.out.lt
  have q1_1 := R1_1.out.lt
  have q2_1 := R2_1.out.lt
  have c1_0_1 : w1.cell? ⟨w.heap.size + 1, 0, none⟩ = some (B (l0 a)) := R1_1.out.cell 0
  have c1_1_1 : w1.cell? ⟨w.heap.size + 1, 1, none⟩ = some (B (l1 a)) := R1_1.out.cell 1
  have c1_2_1 : w1.cell? ⟨w.heap.size + 1, 2, none⟩ = some (B (l2 a)) := R1_1.out.cell 2
  have c1_3_1 : w1.cell? ⟨w.heap.size + 1, 3, none⟩ = some (B (l3 a)) := R1_1.out.cell 3
  have c2_0_1 : w1.cell? ⟨w.heap.size + 1 + 1, 0, none⟩ = some (.int .u64 0) := R2_1.out.cell 0
  have c2_1_1 : w1.cell? ⟨w.heap.size + 1 + 1, 1, none⟩ = some (.int .u64 0) := R2_1.out.cell 1
  have c2_2_1 : w1.cell? ⟨w.heap.size + 1 + 1, 2, none⟩ = some (.int .u64 0) := R2_1.out.cell 2
  have c2_3_1 : w1.cell? ⟨w.heap.size + 1 + 1, 3, none⟩ = some (.int .u64 0) := R2_1.out.cell 3
  have z2_0_1 := R2_1.out.frozen 0
  have z2_1_1 := R2_1.out.frozen 1
  have z2_2_1 := R2_1.out.frozen 2
  have z2_3_1 := R2_1.out.frozen 3
  go_wp2
  rw [set4 R2_1.out rfl]
  exact bodyPost_ret (v := U a) (results_cell1 (p := 4) (ty := 24) rfl (g := w.heap.size + 1 + 1) rfl (R2_1.out.set_same _) rfl Try.underlying24 (by kernel_rfl)) rfl ⟨rfl, (below_setRow B1.out (by omega) _)⟩

set_option maxRecDepth 100000 in
set_option maxHeartbeats 4000000 in
theorem ext_yes (k a up y z : Nat)
    (hb : Hid (∀ w, Calls Try.prog 37 #[U k, B 31] w fun e w' => e = .returned (.bool true) ∧ Below w.heap.size w w'))
    (h1 : Hid (∀ w, Calls Try.prog 38 #[U a, B up] w fun e w' => e = .returned (U y) ∧ Below w.heap.size w w'))
    (h2 : Hid (∀ w, Calls Try.prog 13 #[U y, B up] w fun e w' => e = .returned (U z) ∧ Below w.heap.size w w'))
    (he : IntKind.u64.wrap (IntKind.u64.wrap (31 - (l0 k : Int)) * 8) = (up : Int)) (w : World) :
    Calls Try.prog 15 #[U k, U a] w fun e w' => e = .returned (U z) ∧ Below w.heap.size w w' := by
  go_enter Try.func15, Try.ntmps15
  go_wp2_with fail
  refine (hb.out _).mono ?_
  rintro e w1 ⟨rfl, hb1⟩
  have R0_1 : Hid (HasRow w1 (w.heap.size) #[B (l0 k), B (l1 k), B (l2 k), B (l3 k)]) := (HasRow.old (HasRow.old (HasRow.last (by simp)))).below hb1
  have R1_1 : Hid (HasRow w1 (w.heap.size + 1) #[B (l0 a), B (l1 a), B (l2 a), B (l3 a)]) := (HasRow.old (HasRow.last (by simp))).below hb1
  have R2_1 : Hid (HasRow w1 (w.heap.size + 1 + 1) #[.int .u64 0, .int .u64 0, .int .u64 0, .int .u64 0]) := (HasRow.last (by simp)).below hb1
  have B1 : Hid (Below w.heap.size w w1) := bel_call (bel_alloc (bel_alloc (bel_alloc (Below.refl _ _) _) _) _) hb1
  clear hb1
  have q0_1 := R0_1.out.lt
  have q1_1 := R1_1.out.lt
  have q2_1 := R2_1.out.lt
  have c0_0_1 : w1.cell? ⟨w.heap.size, 0, none⟩ = some (B (l0 k)) := R0_1.out.cell 0
  have c0_1_1 : w1.cell? ⟨w.heap.size, 1, none⟩ = some (B (l1 k)) := R0_1.out.cell 1
  have c0_2_1 : w1.cell? ⟨w.heap.size, 2, none⟩ = some (B (l2 k)) := R0_1.out.cell 2
  have c0_3_1 : w1.cell? ⟨w.heap.size, 3, none⟩ = some (B (l3 k)) := R0_1.out.cell 3
  have c1_0_1 : w1.cell? ⟨w.heap.size + 1, 0, none⟩ = some (B (l0 a)) := R1_1.out.cell 0
  have c1_1_1 : w1.cell? ⟨w.heap.size + 1, 1, none⟩ = some (B (l1 a)) := R1_1.out.cell 1
  have c1_2_1 : w1.cell? ⟨w.heap.size + 1, 2, none⟩ = some (B (l2 a)) := R1_1.out.cell 2
  have c1_3_1 : w1.cell? ⟨w.heap.size + 1, 3, none⟩ = some (B (l3 a)) := R1_1.out.cell 3
  go_wp2_with fail
  refine (h1.out _).mono ?_
  rintro e w2 ⟨rfl, hb2⟩
  have R0_2 : Hid (HasRow w2 (w.heap.size) #[B (l0 k), B (l1 k), B (l2 k), B (l3 k)]) := R0_1.out.below hb2
  have R1_2 : Hid (HasRow w2 (w.heap.size + 1) #[B (l0 a), B (l1 a), B (l2 a), B (l3 a)]) := R1_1.out.below hb2
  have R2_2 : Hid (HasRow w2 (w.heap.size + 1 + 1) #[.int .u64 0, .int .u64 0, .int .u64 0, .int .u64 0]) := R2_1.out.below hb2
  have B2 : Hid (Below w.heap.size w w2) := bel_call B1.out hb2
  clear hb2
  clear q0_1 q1_1 q2_1 c0_0_1 c0_1_1 c0_2_1 c0_3_1 c1_0_1 c1_1_1 c1_2_1 c1_3_1
  have q0_2 := R0_2.out.lt
  have q1_2 := R1_2.out.lt
  have q2_2 := R2_2.out.lt
  go_wp2_with fail
  refine (h2.out _).mono ?_
  rintro e w3 ⟨rfl, hb3⟩
  have R0_3 : Hid (HasRow w3 (w.heap.size) #[B (l0 k), B (l1 k), B (l2 k), B (l3 k)]) := R0_2.out.below hb3
  have R1_3 : Hid (HasRow w3 (w.heap.size + 1) #[B (l0 a), B (l1 a), B (l2 a), B (l3 a)]) := R1_2.out.below hb3
  have R2_3 : Hid (HasRow w3 (w.heap.size + 1 + 1) #[.int .u64 0, .int .u64 0, .int .u64 0, .int .u64 0]) := R2_2.out.below hb3
  have B3 : Hid (Below w.heap.size w w3) := bel_call B2.out hb3
  clear hb3
  clear q0_2 q1_2 q2_2
  have q0_3 := R0_3.out.lt
  have q1_3 := R1_3.out.lt
  have q2_3 := R2_3.out.lt
  have c2_0_3 : w3.cell? ⟨w.heap.size + 1 + 1, 0, none⟩ = some (.int .u64 0) := R2_3.out.cell 0
  have c2_1_3 : w3.cell? ⟨w.heap.size + 1 + 1, 1, none⟩ = some (.int .u64 0) := R2_3.out.cell 1
  have c2_2_3 : w3.cell? ⟨w.heap.size + 1 + 1, 2, none⟩ = some (.int .u64 0) := R2_3.out.cell 2
  have c2_3_3 : w3.cell? ⟨w.heap.size + 1 + 1, 3, none⟩ = some (.int .u64 0) := R2_3.out.cell 3
  have z2_0_3 := R2_3.out.frozen 0
  have z2_1_3 := R2_3.out.frozen 1
  have z2_2_3 := R2_3.out.frozen 2
  have z2_3_3 := R2_3.out.frozen 3
  go_wp2
  rw [set4 R2_3.out rfl]
  exact bodyPost_ret (v := U z) (results_cell1 (p := 4) (ty := 24) rfl (g := w.heap.size + 1 + 1) rfl (R2_3.out.set_same _) rfl Try.underlying24 (by kernel_rfl)) rfl ⟨rfl, (below_setRow B3.out (by omega) _)⟩

set_option maxRecDepth 100000 in
set_option maxHeartbeats 4000000 in
theorem byte_no (k a : Nat)
    (hb : Hid (∀ w, Calls Try.prog 37 #[U k, B 32] w fun e w' => e = .returned (.bool false) ∧ Below w.heap.size w w')) (w : World) :
    Calls Try.prog 17 #[U k, U a] w fun e w' => e = .returned (I4 0 0 0 0) ∧ Below w.heap.size w w' := by
  go_enter Try.func17, Try.ntmps17
  go_wp2_with fail
  refine (hb.out _).mono ?_
  rintro e w1 ⟨rfl, hb1⟩
  have R0_1 : Hid (HasRow w1 (w.heap.size) #[B (l0 k), B (l1 k), B (l2 k), B (l3 k)]) := (HasRow.old (HasRow.old (HasRow.last (by simp)))).below hb1
  have R1_1 : Hid (HasRow w1 (w.heap.size + 1) #[B (l0 a), B (l1 a), B (l2 a), B (l3 a)]) := (HasRow.old (HasRow.last (by simp))).below hb1
  have R2_1 : Hid (HasRow w1 (w.heap.size + 1 + 1) #[.int .u64 0, .int .u64 0, .int .u64 0, .int .u64 0]) := (HasRow.last (by simp)).below hb1
  have B1 : Hid (Below w.heap.size w w1) := bel_call (bel_alloc (bel_alloc (bel_alloc (Below.refl _ _) _) _) _) hb1
  clear hb1
  have q0_1 := R0_1.out.lt
  have q1_1 := R1_1.out.lt
  have q2_1 := R2_1.out.lt
  have c1_0_1 : w1.cell? ⟨w.heap.size + 1, 0, none⟩ = some (B (l0 a)) := R1_1.out.cell 0
  have c1_1_1 : w1.cell? ⟨w.heap.size + 1, 1, none⟩ = some (B (l1 a)) := R1_1.out.cell 1
  have c1_2_1 : w1.cell? ⟨w.heap.size + 1, 2, none⟩ = some (B (l2 a)) := R1_1.out.cell 2
  have c1_3_1 : w1.cell? ⟨w.heap.size + 1, 3, none⟩ = some (B (l3 a)) := R1_1.out.cell 3
  have c2_0_1 : w1.cell? ⟨w.heap.size + 1 + 1, 0, none⟩ = some (.int .u64 0) := R2_1.out.cell 0
  have c2_1_1 : w1.cell? ⟨w.heap.size + 1 + 1, 1, none⟩ = some (.int .u64 0) := R2_1.out.cell 1
  have c2_2_1 : w1.cell? ⟨w.heap.size + 1 + 1, 2, none⟩ = some (.int .u64 0) := R2_1.out.cell 2
  have c2_3_1 : w1.cell? ⟨w.heap.size + 1 + 1, 3, none⟩ = some (.int .u64 0) := R2_1.out.cell 3
  have z2_0_1 := R2_1.out.frozen 0
  have z2_1_1 := R2_1.out.frozen 1
  have z2_2_1 := R2_1.out.frozen 2
  have z2_3_1 := R2_1.out.frozen 3
  go_wp2
  rw [set4 R2_1.out rfl]
  exact bodyPost_ret (v := I4 0 0 0 0) (results_cell1 (p := 4) (ty := 24) rfl (g := w.heap.size + 1 + 1) rfl (R2_1.out.set_same _) rfl Try.underlying24 (by kernel_rfl)) rfl ⟨rfl, (below_setRow B1.out (by omega) _)⟩

set_option maxRecDepth 100000 in
set_option maxHeartbeats 4000000 in
theorem byte_yes (k a x : Nat) (s : ByteArray)
    (hb : Hid (∀ w, Calls Try.prog 37 #[U k, B 32] w fun e w' => e = .returned (.bool true) ∧ Below w.heap.size w w'))
    (h1 : Hid (∀ w, Calls Try.prog 41 #[U a] w fun e w' => e = .returned (.string s) ∧ Below w.heap.size w w'))
    (h2 : Hid (∀ w, Calls Try.prog 40 #[B x] w fun e w' => e = .returned (U x) ∧ Below w.heap.size w w'))
    (hx : ∀ w, (Instr.index 9 (.string s) (B (l0 k))).run Try.prog w = .ok (.int .u8 (x : Int)) w)
    (hw : IntKind.u64.wrap (x : Int) = (x : Int)) (w : World) :
    Calls Try.prog 17 #[U k, U a] w fun e w' => e = .returned (U x) ∧ Below w.heap.size w w' := by
  go_enter Try.func17, Try.ntmps17
  go_wp2_with fail
  refine (hb.out _).mono ?_
  rintro e w1 ⟨rfl, hb1⟩
  have R0_1 : Hid (HasRow w1 (w.heap.size) #[B (l0 k), B (l1 k), B (l2 k), B (l3 k)]) := (HasRow.old (HasRow.old (HasRow.last (by simp)))).below hb1
  have R1_1 : Hid (HasRow w1 (w.heap.size + 1) #[B (l0 a), B (l1 a), B (l2 a), B (l3 a)]) := (HasRow.old (HasRow.last (by simp))).below hb1
  have R2_1 : Hid (HasRow w1 (w.heap.size + 1 + 1) #[.int .u64 0, .int .u64 0, .int .u64 0, .int .u64 0]) := (HasRow.last (by simp)).below hb1
  have B1 : Hid (Below w.heap.size w w1) := bel_call (bel_alloc (bel_alloc (bel_alloc (Below.refl _ _) _) _) _) hb1
  clear hb1
  have q0_1 := R0_1.out.lt
  have q1_1 := R1_1.out.lt
  have q2_1 := R2_1.out.lt
  have c0_0_1 : w1.cell? ⟨w.heap.size, 0, none⟩ = some (B (l0 k)) := R0_1.out.cell 0
  have c0_1_1 : w1.cell? ⟨w.heap.size, 1, none⟩ = some (B (l1 k)) := R0_1.out.cell 1
  have c0_2_1 : w1.cell? ⟨w.heap.size, 2, none⟩ = some (B (l2 k)) := R0_1.out.cell 2
  have c0_3_1 : w1.cell? ⟨w.heap.size, 3, none⟩ = some (B (l3 k)) := R0_1.out.cell 3
  have c1_0_1 : w1.cell? ⟨w.heap.size + 1, 0, none⟩ = some (B (l0 a)) := R1_1.out.cell 0
  have c1_1_1 : w1.cell? ⟨w.heap.size + 1, 1, none⟩ = some (B (l1 a)) := R1_1.out.cell 1
  have c1_2_1 : w1.cell? ⟨w.heap.size + 1, 2, none⟩ = some (B (l2 a)) := R1_1.out.cell 2
  have c1_3_1 : w1.cell? ⟨w.heap.size + 1, 3, none⟩ = some (B (l3 a)) := R1_1.out.cell 3
  have c2_0_1 : w1.cell? ⟨w.heap.size + 1 + 1, 0, none⟩ = some (.int .u64 0) := R2_1.out.cell 0
  have c2_1_1 : w1.cell? ⟨w.heap.size + 1 + 1, 1, none⟩ = some (.int .u64 0) := R2_1.out.cell 1
  have c2_2_1 : w1.cell? ⟨w.heap.size + 1 + 1, 2, none⟩ = some (.int .u64 0) := R2_1.out.cell 2
  have c2_3_1 : w1.cell? ⟨w.heap.size + 1 + 1, 3, none⟩ = some (.int .u64 0) := R2_1.out.cell 3
  have z2_0_1 := R2_1.out.frozen 0
  have z2_1_1 := R2_1.out.frozen 1
  have z2_2_1 := R2_1.out.frozen 2
  have z2_3_1 := R2_1.out.frozen 3
  go_wp2_with fail
  refine name_world _ ?_
  intro wF hF
  have RF0 : Hid (HasRow wF (w.heap.size) #[B (l0 k), B (l1 k), B (l2 k), B (l3 k)]) := by rw [hF]; exact R0_1.out
  have RF1 : Hid (HasRow wF (w.heap.size + 1) #[B (l0 a), B (l1 a), B (l2 a), B (l3 a)]) := by rw [hF]; exact R1_1.out
  have RF2 : Hid (HasRow wF (w.heap.size + 1 + 1) #[.int .u64 0, .int .u64 0, .int .u64 0, .int .u64 0]) := by rw [hF]; exact R2_1.out
  have BF : Hid (Below w.heap.size w wF) := by rw [hF]; exact B1.out
  clear hF
  clear q0_1 q1_1 q2_1 c0_0_1 c0_1_1 c0_2_1 c0_3_1 c1_0_1 c1_1_1 c1_2_1 c1_3_1 c2_0_1 c2_1_1 c2_2_1 c2_3_1 z2_0_1 z2_1_1 z2_2_1 z2_3_1
  clear B1 R0_1 R1_1 R2_1
  have d0_0 : wF.cell? ⟨w.heap.size, 0, none⟩ = some (B (l0 k)) := RF0.out.cell 0
  replace d0_0 := cell_regrown d0_0
  have d0_1 : wF.cell? ⟨w.heap.size, 1, none⟩ = some (B (l1 k)) := RF0.out.cell 1
  replace d0_1 := cell_regrown d0_1
  have d0_2 : wF.cell? ⟨w.heap.size, 2, none⟩ = some (B (l2 k)) := RF0.out.cell 2
  replace d0_2 := cell_regrown d0_2
  have d0_3 : wF.cell? ⟨w.heap.size, 3, none⟩ = some (B (l3 k)) := RF0.out.cell 3
  replace d0_3 := cell_regrown d0_3
  have d1_0 : wF.cell? ⟨w.heap.size + 1, 0, none⟩ = some (B (l0 a)) := RF1.out.cell 0
  replace d1_0 := cell_regrown d1_0
  have d1_1 : wF.cell? ⟨w.heap.size + 1, 1, none⟩ = some (B (l1 a)) := RF1.out.cell 1
  replace d1_1 := cell_regrown d1_1
  have d1_2 : wF.cell? ⟨w.heap.size + 1, 2, none⟩ = some (B (l2 a)) := RF1.out.cell 2
  replace d1_2 := cell_regrown d1_2
  have d1_3 : wF.cell? ⟨w.heap.size + 1, 3, none⟩ = some (B (l3 a)) := RF1.out.cell 3
  replace d1_3 := cell_regrown d1_3
  refine wp_region_last_below (by kernel_rfl) (by kernel_rfl) (by simp) ?_
  simp only [List.dropLast]
  repeat (go_big_quiet_step (fail))
  go_big_quiet_step ((exact Calls.regrown_of (h1.out _)))
  repeat (go_big_quiet_step (fail))
  go_big_quiet_step ((exact Calls.regrown_of (h2.out _)))
  repeat (go_big_quiet_step (fail))
  refine wpQuiet_nil ?_
  intro w2 hw'
  have hb2 : Below wF.heap.size wF w2 := by obtain ⟨p, rfl⟩ := hw'; exact below_regrown _ _ _
  clear hw'
  clear d0_0 d0_1 d0_2 d0_3
  clear d1_0 d1_1 d1_2 d1_3
  have R0_2 : Hid (HasRow w2 (w.heap.size) #[B (l0 k), B (l1 k), B (l2 k), B (l3 k)]) := RF0.out.below hb2
  have R1_2 : Hid (HasRow w2 (w.heap.size + 1) #[B (l0 a), B (l1 a), B (l2 a), B (l3 a)]) := RF1.out.below hb2
  have R2_2 : Hid (HasRow w2 (w.heap.size + 1 + 1) #[.int .u64 0, .int .u64 0, .int .u64 0, .int .u64 0]) := RF2.out.below hb2
  have B2 : Hid (Below w.heap.size w w2) := bel_call BF.out hb2
  clear hb2 BF RF0 RF1 RF2
  clear wF
  have q0_2 := R0_2.out.lt
  have q1_2 := R1_2.out.lt
  have q2_2 := R2_2.out.lt
  have c2_0_2 : w2.cell? ⟨w.heap.size + 1 + 1, 0, none⟩ = some (.int .u64 0) := R2_2.out.cell 0
  have c2_1_2 : w2.cell? ⟨w.heap.size + 1 + 1, 1, none⟩ = some (.int .u64 0) := R2_2.out.cell 1
  have c2_2_2 : w2.cell? ⟨w.heap.size + 1 + 1, 2, none⟩ = some (.int .u64 0) := R2_2.out.cell 2
  have c2_3_2 : w2.cell? ⟨w.heap.size + 1 + 1, 3, none⟩ = some (.int .u64 0) := R2_2.out.cell 3
  have z2_0_2 := R2_2.out.frozen 0
  have z2_1_2 := R2_2.out.frozen 1
  have z2_2_2 := R2_2.out.frozen 2
  have z2_3_2 := R2_2.out.frozen 3
  refine wpOp_plain rfl rfl ?_
  go_simp
  go_wp2
  rw [set4 R2_2.out rfl]
  exact bodyPost_ret (v := U x) (results_cell1 (p := 4) (ty := 24) rfl (g := w.heap.size + 1 + 1) rfl (R2_2.out.set_same _) rfl Try.underlying24 (by kernel_rfl)) rfl ⟨rfl, (below_setRow B2.out (by omega) _)⟩

set_option maxRecDepth 100000 in
set_option maxHeartbeats 4000000 in
theorem small_yes (a m : Nat) (h0 : l1 a = 0) (h2 : l2 a = 0) (h3 : l3 a = 0) (h4 : ¬ m ≤ l0 a) (hw : wrap64 (l0 a : Int) = (l0 a : Int)) (w : World) :
    Calls Try.prog 39 #[U a, B m] w fun e w' => e = .returned (.tuple #[.int .i64 (l0 a : Nat), .bool true]) ∧ Below w.heap.size w w' := by
  go_enter Try.func39, Try.ntmps39
  go_wp2
  go_ret2
  exact ⟨by rw [hw]; rfl, by (repeat (first | exact Below.refl _ _ | apply Below.drew | refine bel_alloc ?_ _ | refine bel_set ?_ (by first | (simp; done) | (simp; omega)) _ | refine bel_call ?_ (by assumption)))⟩

set_option maxRecDepth 100000 in
set_option maxHeartbeats 4000000 in
theorem small_no0 (a m : Nat) (h1 : ¬ l1 a = 0) (w : World) :
    Calls Try.prog 39 #[U a, B m] w fun e w' => e = .returned (.tuple #[.int .i64 0, .bool false]) ∧ Below w.heap.size w w' := by
  go_enter Try.func39, Try.ntmps39
  go_wp2
  go_ret2
  exact ⟨rfl, by (repeat (first | exact Below.refl _ _ | apply Below.drew | refine bel_alloc ?_ _ | refine bel_set ?_ (by first | (simp; done) | (simp; omega)) _ | refine bel_call ?_ (by assumption)))⟩

set_option maxRecDepth 100000 in
set_option maxHeartbeats 4000000 in
theorem small_no1 (a m : Nat) (h1 : l1 a = 0) (h2 : ¬ l2 a = 0) (w : World) :
    Calls Try.prog 39 #[U a, B m] w fun e w' => e = .returned (.tuple #[.int .i64 0, .bool false]) ∧ Below w.heap.size w w' := by
  go_enter Try.func39, Try.ntmps39
  go_wp2
  go_ret2
  exact ⟨rfl, by (repeat (first | exact Below.refl _ _ | apply Below.drew | refine bel_alloc ?_ _ | refine bel_set ?_ (by first | (simp; done) | (simp; omega)) _ | refine bel_call ?_ (by assumption)))⟩

set_option maxRecDepth 100000 in
set_option maxHeartbeats 4000000 in
theorem small_no2 (a m : Nat) (h1 : l1 a = 0) (h2 : l2 a = 0) (h3 : ¬ l3 a = 0) (w : World) :
    Calls Try.prog 39 #[U a, B m] w fun e w' => e = .returned (.tuple #[.int .i64 0, .bool false]) ∧ Below w.heap.size w w' := by
  go_enter Try.func39, Try.ntmps39
  go_wp2
  go_ret2
  exact ⟨rfl, by (repeat (first | exact Below.refl _ _ | apply Below.drew | refine bel_alloc ?_ _ | refine bel_set ?_ (by first | (simp; done) | (simp; omega)) _ | refine bel_call ?_ (by assumption)))⟩

set_option maxRecDepth 100000 in
set_option maxHeartbeats 4000000 in
theorem small_no3 (a m : Nat) (h1 : l1 a = 0) (h2 : l2 a = 0) (h3 : l3 a = 0) (h4 : m ≤ l0 a) (w : World) :
    Calls Try.prog 39 #[U a, B m] w fun e w' => e = .returned (.tuple #[.int .i64 0, .bool false]) ∧ Below w.heap.size w w' := by
  go_enter Try.func39, Try.ntmps39
  go_wp2
  go_ret2
  exact ⟨rfl, by (repeat (first | exact Below.refl _ _ | apply Below.drew | refine bel_alloc ?_ _ | refine bel_set ?_ (by first | (simp; done) | (simp; omega)) _ | refine bel_call ?_ (by assumption)))⟩

set_option maxRecDepth 100000 in
set_option maxHeartbeats 4000000 in
theorem rext_no (k a : Nat)
    (hb : Hid (∀ w, Calls Try.prog 39 #[U k, B 31] w fun e w' => e = .returned (.tuple #[.int .i64 0, .bool false]) ∧ Below w.heap.size w w')) (w : World) :
    Calls Try.prog 16 #[U k, U a] w fun e w' => e = .returned (U a) ∧ Below w.heap.size w w' := by
  go_enter Try.func16, Try.ntmps16
  go_wp2_with fail
  refine (hb.out _).mono ?_
  rintro e w1 ⟨rfl, hb1⟩
  have R0_1 : Hid (HasRow w1 (w.heap.size) #[B (l0 k), B (l1 k), B (l2 k), B (l3 k)]) := (HasRow.old (HasRow.old (HasRow.last (by simp)))).below hb1
  have R1_1 : Hid (HasRow w1 (w.heap.size + 1) #[B (l0 a), B (l1 a), B (l2 a), B (l3 a)]) := (HasRow.old (HasRow.last (by simp))).below hb1
  have R2_1 : Hid (HasRow w1 (w.heap.size + 1 + 1) #[.int .u64 0, .int .u64 0, .int .u64 0, .int .u64 0]) := (HasRow.last (by simp)).below hb1
  have B1 : Hid (Below w.heap.size w w1) := bel_call (bel_alloc (bel_alloc (bel_alloc (Below.refl _ _) _) _) _) hb1
  clear hb1
  have q0_1 := R0_1.out.lt
  have q1_1 := R1_1.out.lt
  have q2_1 := R2_1.out.lt
  have c1_0_1 : w1.cell? ⟨w.heap.size + 1, 0, none⟩ = some (B (l0 a)) := R1_1.out.cell 0
  have c1_1_1 : w1.cell? ⟨w.heap.size + 1, 1, none⟩ = some (B (l1 a)) := R1_1.out.cell 1
  have c1_2_1 : w1.cell? ⟨w.heap.size + 1, 2, none⟩ = some (B (l2 a)) := R1_1.out.cell 2
  have c1_3_1 : w1.cell? ⟨w.heap.size + 1, 3, none⟩ = some (B (l3 a)) := R1_1.out.cell 3
  have c2_0_1 : w1.cell? ⟨w.heap.size + 1 + 1, 0, none⟩ = some (.int .u64 0) := R2_1.out.cell 0
  have c2_1_1 : w1.cell? ⟨w.heap.size + 1 + 1, 1, none⟩ = some (.int .u64 0) := R2_1.out.cell 1
  have c2_2_1 : w1.cell? ⟨w.heap.size + 1 + 1, 2, none⟩ = some (.int .u64 0) := R2_1.out.cell 2
  have c2_3_1 : w1.cell? ⟨w.heap.size + 1 + 1, 3, none⟩ = some (.int .u64 0) := R2_1.out.cell 3
  have z2_0_1 := R2_1.out.frozen 0
  have z2_1_1 := R2_1.out.frozen 1
  have z2_2_1 := R2_1.out.frozen 2
  have z2_3_1 := R2_1.out.frozen 3
  go_wp2
  rw [set4 R2_1.out rfl]
  exact bodyPost_ret (v := U a) (results_cell1 (p := 4) (ty := 24) rfl (g := w.heap.size + 1 + 1) rfl (R2_1.out.set_same _) rfl Try.underlying24 (by kernel_rfl)) rfl ⟨rfl, (below_setRow B1.out (by omega) _)⟩

set_option maxRecDepth 100000 in
set_option maxHeartbeats 4000000 in
theorem rext_yes (k a n up y z : Nat)
    (hb : Hid (∀ w, Calls Try.prog 39 #[U k, B 31] w fun e w' => e = .returned (.tuple #[.int .i64 (n : Int), .bool true]) ∧ Below w.heap.size w w'))
    (h1 : Hid (∀ w, Calls Try.prog 23 #[U a, B up] w fun e w' => e = .returned (U y) ∧ Below w.heap.size w w'))
    (h2 : Hid (∀ w, Calls Try.prog 14 #[U y, B up] w fun e w' => e = .returned (U z) ∧ Below w.heap.size w w'))
    (he : IntKind.u64.wrap (wrap64 (8 * wrap64 (31 - (n : Int)))) = (up : Int)) (w : World) :
    Calls Try.prog 16 #[U k, U a] w fun e w' => e = .returned (U z) ∧ Below w.heap.size w w' := by
  go_enter Try.func16, Try.ntmps16
  go_wp2_with fail
  refine (hb.out _).mono ?_
  rintro e w1 ⟨rfl, hb1⟩
  have R0_1 : Hid (HasRow w1 (w.heap.size) #[B (l0 k), B (l1 k), B (l2 k), B (l3 k)]) := (HasRow.old (HasRow.old (HasRow.last (by simp)))).below hb1
  have R1_1 : Hid (HasRow w1 (w.heap.size + 1) #[B (l0 a), B (l1 a), B (l2 a), B (l3 a)]) := (HasRow.old (HasRow.last (by simp))).below hb1
  have R2_1 : Hid (HasRow w1 (w.heap.size + 1 + 1) #[.int .u64 0, .int .u64 0, .int .u64 0, .int .u64 0]) := (HasRow.last (by simp)).below hb1
  have B1 : Hid (Below w.heap.size w w1) := bel_call (bel_alloc (bel_alloc (bel_alloc (Below.refl _ _) _) _) _) hb1
  clear hb1
  have q0_1 := R0_1.out.lt
  have q1_1 := R1_1.out.lt
  have q2_1 := R2_1.out.lt
  have c0_0_1 : w1.cell? ⟨w.heap.size, 0, none⟩ = some (B (l0 k)) := R0_1.out.cell 0
  have c0_1_1 : w1.cell? ⟨w.heap.size, 1, none⟩ = some (B (l1 k)) := R0_1.out.cell 1
  have c0_2_1 : w1.cell? ⟨w.heap.size, 2, none⟩ = some (B (l2 k)) := R0_1.out.cell 2
  have c0_3_1 : w1.cell? ⟨w.heap.size, 3, none⟩ = some (B (l3 k)) := R0_1.out.cell 3
  have c1_0_1 : w1.cell? ⟨w.heap.size + 1, 0, none⟩ = some (B (l0 a)) := R1_1.out.cell 0
  have c1_1_1 : w1.cell? ⟨w.heap.size + 1, 1, none⟩ = some (B (l1 a)) := R1_1.out.cell 1
  have c1_2_1 : w1.cell? ⟨w.heap.size + 1, 2, none⟩ = some (B (l2 a)) := R1_1.out.cell 2
  have c1_3_1 : w1.cell? ⟨w.heap.size + 1, 3, none⟩ = some (B (l3 a)) := R1_1.out.cell 3
  go_wp2_with fail
  refine (h1.out _).mono ?_
  rintro e w2 ⟨rfl, hb2⟩
  have R0_2 : Hid (HasRow w2 (w.heap.size) #[B (l0 k), B (l1 k), B (l2 k), B (l3 k)]) := R0_1.out.below hb2
  have R1_2 : Hid (HasRow w2 (w.heap.size + 1) #[B (l0 a), B (l1 a), B (l2 a), B (l3 a)]) := R1_1.out.below hb2
  have R2_2 : Hid (HasRow w2 (w.heap.size + 1 + 1) #[.int .u64 0, .int .u64 0, .int .u64 0, .int .u64 0]) := R2_1.out.below hb2
  have B2 : Hid (Below w.heap.size w w2) := bel_call B1.out hb2
  clear hb2
  clear q0_1 q1_1 q2_1 c0_0_1 c0_1_1 c0_2_1 c0_3_1 c1_0_1 c1_1_1 c1_2_1 c1_3_1
  have q0_2 := R0_2.out.lt
  have q1_2 := R1_2.out.lt
  have q2_2 := R2_2.out.lt
  go_wp2_with fail
  refine (h2.out _).mono ?_
  rintro e w3 ⟨rfl, hb3⟩
  have R0_3 : Hid (HasRow w3 (w.heap.size) #[B (l0 k), B (l1 k), B (l2 k), B (l3 k)]) := R0_2.out.below hb3
  have R1_3 : Hid (HasRow w3 (w.heap.size + 1) #[B (l0 a), B (l1 a), B (l2 a), B (l3 a)]) := R1_2.out.below hb3
  have R2_3 : Hid (HasRow w3 (w.heap.size + 1 + 1) #[.int .u64 0, .int .u64 0, .int .u64 0, .int .u64 0]) := R2_2.out.below hb3
  have B3 : Hid (Below w.heap.size w w3) := bel_call B2.out hb3
  clear hb3
  clear q0_2 q1_2 q2_2
  have q0_3 := R0_3.out.lt
  have q1_3 := R1_3.out.lt
  have q2_3 := R2_3.out.lt
  have c2_0_3 : w3.cell? ⟨w.heap.size + 1 + 1, 0, none⟩ = some (.int .u64 0) := R2_3.out.cell 0
  have c2_1_3 : w3.cell? ⟨w.heap.size + 1 + 1, 1, none⟩ = some (.int .u64 0) := R2_3.out.cell 1
  have c2_2_3 : w3.cell? ⟨w.heap.size + 1 + 1, 2, none⟩ = some (.int .u64 0) := R2_3.out.cell 2
  have c2_3_3 : w3.cell? ⟨w.heap.size + 1 + 1, 3, none⟩ = some (.int .u64 0) := R2_3.out.cell 3
  have z2_0_3 := R2_3.out.frozen 0
  have z2_1_3 := R2_3.out.frozen 1
  have z2_2_3 := R2_3.out.frozen 2
  have z2_3_3 := R2_3.out.frozen 3
  go_wp2
  rw [set4 R2_3.out rfl]
  exact bodyPost_ret (v := U z) (results_cell1 (p := 4) (ty := 24) rfl (g := w.heap.size + 1 + 1) rfl (R2_3.out.set_same _) rfl Try.underlying24 (by kernel_rfl)) rfl ⟨rfl, (below_setRow B3.out (by omega) _)⟩

set_option maxRecDepth 100000 in
set_option maxHeartbeats 4000000 in
theorem rbyte_no (k a : Nat)
    (hb : Hid (∀ w, Calls Try.prog 39 #[U k, B 32] w fun e w' => e = .returned (.tuple #[.int .i64 0, .bool false]) ∧ Below w.heap.size w w')) (w : World) :
    Calls Try.prog 18 #[U k, U a] w fun e w' => e = .returned (I4 0 0 0 0) ∧ Below w.heap.size w w' := by
  go_enter Try.func18, Try.ntmps18
  go_wp2_with fail
  refine (hb.out _).mono ?_
  rintro e w1 ⟨rfl, hb1⟩
  have R0_1 : Hid (HasRow w1 (w.heap.size) #[B (l0 k), B (l1 k), B (l2 k), B (l3 k)]) := (HasRow.old (HasRow.old (HasRow.last (by simp)))).below hb1
  have R1_1 : Hid (HasRow w1 (w.heap.size + 1) #[B (l0 a), B (l1 a), B (l2 a), B (l3 a)]) := (HasRow.old (HasRow.last (by simp))).below hb1
  have R2_1 : Hid (HasRow w1 (w.heap.size + 1 + 1) #[.int .u64 0, .int .u64 0, .int .u64 0, .int .u64 0]) := (HasRow.last (by simp)).below hb1
  have B1 : Hid (Below w.heap.size w w1) := bel_call (bel_alloc (bel_alloc (bel_alloc (Below.refl _ _) _) _) _) hb1
  clear hb1
  have q0_1 := R0_1.out.lt
  have q1_1 := R1_1.out.lt
  have q2_1 := R2_1.out.lt
  have c1_0_1 : w1.cell? ⟨w.heap.size + 1, 0, none⟩ = some (B (l0 a)) := R1_1.out.cell 0
  have c1_1_1 : w1.cell? ⟨w.heap.size + 1, 1, none⟩ = some (B (l1 a)) := R1_1.out.cell 1
  have c1_2_1 : w1.cell? ⟨w.heap.size + 1, 2, none⟩ = some (B (l2 a)) := R1_1.out.cell 2
  have c1_3_1 : w1.cell? ⟨w.heap.size + 1, 3, none⟩ = some (B (l3 a)) := R1_1.out.cell 3
  have c2_0_1 : w1.cell? ⟨w.heap.size + 1 + 1, 0, none⟩ = some (.int .u64 0) := R2_1.out.cell 0
  have c2_1_1 : w1.cell? ⟨w.heap.size + 1 + 1, 1, none⟩ = some (.int .u64 0) := R2_1.out.cell 1
  have c2_2_1 : w1.cell? ⟨w.heap.size + 1 + 1, 2, none⟩ = some (.int .u64 0) := R2_1.out.cell 2
  have c2_3_1 : w1.cell? ⟨w.heap.size + 1 + 1, 3, none⟩ = some (.int .u64 0) := R2_1.out.cell 3
  have z2_0_1 := R2_1.out.frozen 0
  have z2_1_1 := R2_1.out.frozen 1
  have z2_2_1 := R2_1.out.frozen 2
  have z2_3_1 := R2_1.out.frozen 3
  go_wp2
  rw [set4 R2_1.out rfl]
  exact bodyPost_ret (v := I4 0 0 0 0) (results_cell1 (p := 4) (ty := 24) rfl (g := w.heap.size + 1 + 1) rfl (R2_1.out.set_same _) rfl Try.underlying24 (by kernel_rfl)) rfl ⟨rfl, (below_setRow B1.out (by omega) _)⟩

set_option maxRecDepth 100000 in
set_option maxHeartbeats 4000000 in
theorem rbyte_yes (k a n x : Nat) (s : ByteArray)
    (hb : Hid (∀ w, Calls Try.prog 39 #[U k, B 32] w fun e w' => e = .returned (.tuple #[.int .i64 (n : Int), .bool true]) ∧ Below w.heap.size w w'))
    (h1 : Hid (∀ w, Calls Try.prog 22 #[U a] w fun e w' => e = .returned (.string s) ∧ Below w.heap.size w w'))
    (hx : ∀ w, (Instr.index 9 (.string s) (.int .i64 (n : Int))).run Try.prog w = .ok (.int .u8 (x : Int)) w)
    (hw : IntKind.u64.wrap (x : Int) = (x : Int)) (w : World) :
    Calls Try.prog 18 #[U k, U a] w fun e w' => e = .returned (I4 x 0 0 0) ∧ Below w.heap.size w w' := by
  go_enter Try.func18, Try.ntmps18
  go_wp2_with fail
  refine (hb.out _).mono ?_
  rintro e w1 ⟨rfl, hb1⟩
  have R0_1 : Hid (HasRow w1 (w.heap.size) #[B (l0 k), B (l1 k), B (l2 k), B (l3 k)]) := (HasRow.old (HasRow.old (HasRow.last (by simp)))).below hb1
  have R1_1 : Hid (HasRow w1 (w.heap.size + 1) #[B (l0 a), B (l1 a), B (l2 a), B (l3 a)]) := (HasRow.old (HasRow.last (by simp))).below hb1
  have R2_1 : Hid (HasRow w1 (w.heap.size + 1 + 1) #[.int .u64 0, .int .u64 0, .int .u64 0, .int .u64 0]) := (HasRow.last (by simp)).below hb1
  have B1 : Hid (Below w.heap.size w w1) := bel_call (bel_alloc (bel_alloc (bel_alloc (Below.refl _ _) _) _) _) hb1
  clear hb1
  have q0_1 := R0_1.out.lt
  have q1_1 := R1_1.out.lt
  have q2_1 := R2_1.out.lt
  have c0_0_1 : w1.cell? ⟨w.heap.size, 0, none⟩ = some (B (l0 k)) := R0_1.out.cell 0
  have c0_1_1 : w1.cell? ⟨w.heap.size, 1, none⟩ = some (B (l1 k)) := R0_1.out.cell 1
  have c0_2_1 : w1.cell? ⟨w.heap.size, 2, none⟩ = some (B (l2 k)) := R0_1.out.cell 2
  have c0_3_1 : w1.cell? ⟨w.heap.size, 3, none⟩ = some (B (l3 k)) := R0_1.out.cell 3
  have c1_0_1 : w1.cell? ⟨w.heap.size + 1, 0, none⟩ = some (B (l0 a)) := R1_1.out.cell 0
  have c1_1_1 : w1.cell? ⟨w.heap.size + 1, 1, none⟩ = some (B (l1 a)) := R1_1.out.cell 1
  have c1_2_1 : w1.cell? ⟨w.heap.size + 1, 2, none⟩ = some (B (l2 a)) := R1_1.out.cell 2
  have c1_3_1 : w1.cell? ⟨w.heap.size + 1, 3, none⟩ = some (B (l3 a)) := R1_1.out.cell 3
  go_wp2_with fail
  refine (h1.out _).mono ?_
  rintro e w2 ⟨rfl, hb2⟩
  have R0_2 : Hid (HasRow w2 (w.heap.size) #[B (l0 k), B (l1 k), B (l2 k), B (l3 k)]) := R0_1.out.below hb2
  have R1_2 : Hid (HasRow w2 (w.heap.size + 1) #[B (l0 a), B (l1 a), B (l2 a), B (l3 a)]) := R1_1.out.below hb2
  have R2_2 : Hid (HasRow w2 (w.heap.size + 1 + 1) #[.int .u64 0, .int .u64 0, .int .u64 0, .int .u64 0]) := R2_1.out.below hb2
  have B2 : Hid (Below w.heap.size w w2) := bel_call B1.out hb2
  clear hb2
  clear q0_1 q1_1 q2_1 c0_0_1 c0_1_1 c0_2_1 c0_3_1 c1_0_1 c1_1_1 c1_2_1 c1_3_1
  have q0_2 := R0_2.out.lt
  have q1_2 := R1_2.out.lt
  have q2_2 := R2_2.out.lt
  have c2_0_2 : w2.cell? ⟨w.heap.size + 1 + 1, 0, none⟩ = some (.int .u64 0) := R2_2.out.cell 0
  have c2_1_2 : w2.cell? ⟨w.heap.size + 1 + 1, 1, none⟩ = some (.int .u64 0) := R2_2.out.cell 1
  have c2_2_2 : w2.cell? ⟨w.heap.size + 1 + 1, 2, none⟩ = some (.int .u64 0) := R2_2.out.cell 2
  have c2_3_2 : w2.cell? ⟨w.heap.size + 1 + 1, 3, none⟩ = some (.int .u64 0) := R2_2.out.cell 3
  have z2_0_2 := R2_2.out.frozen 0
  have z2_1_2 := R2_2.out.frozen 1
  have z2_2_2 := R2_2.out.frozen 2
  have z2_3_2 := R2_2.out.frozen 3
  go_wp2
  rw [set4 R2_2.out rfl]
  exact bodyPost_ret (v := I4 x 0 0 0) (results_cell1 (p := 4) (ty := 24) rfl (g := w.heap.size + 1 + 1) rfl (R2_2.out.set_same _) rfl Try.underlying24 (by kernel_rfl)) rfl ⟨rfl, (below_setRow B2.out (by omega) _)⟩

set_option maxRecDepth 100000 in
set_option maxHeartbeats 4000000 in
theorem sdiv_raw (a b q r : Nat)
    (hd : Hid (∀ w, Calls Try.prog 24 #[U a, U b] w fun e w' => e = .returned (.tuple #[U q, U r]) ∧ Below w.heap.size w w')) (w : World) :
    Calls Try.prog 7 #[U a, U b] w fun e w' => e = .returned (.tuple #[U q, U r]) ∧ Below w.heap.size w w' := by
  go_enter Try.func7, Try.ntmps7
  go_wp2_with fail
  refine (hd.out _).mono ?_
  rintro e w1 ⟨rfl, hb1⟩
  have R0_1 : Hid (HasRow w1 (w.heap.size) #[B (l0 a), B (l1 a), B (l2 a), B (l3 a)]) := (HasRow.old (HasRow.old (HasRow.old (HasRow.last (by simp))))).below hb1
  have R1_1 : Hid (HasRow w1 (w.heap.size + 1) #[B (l0 b), B (l1 b), B (l2 b), B (l3 b)]) := (HasRow.old (HasRow.old (HasRow.last (by simp)))).below hb1
  have R2_1 : Hid (HasRow w1 (w.heap.size + 1 + 1) #[.int .u64 0, .int .u64 0, .int .u64 0, .int .u64 0]) := (HasRow.old (HasRow.last (by simp))).below hb1
  have R3_1 : Hid (HasRow w1 (w.heap.size + 1 + 1 + 1) #[.int .u64 0, .int .u64 0, .int .u64 0, .int .u64 0]) := (HasRow.last (by simp)).below hb1
  have B1 : Hid (Below w.heap.size w w1) := bel_call (bel_alloc (bel_alloc (bel_alloc (bel_alloc (Below.refl _ _) _) _) _) _) hb1
  clear hb1
  have q0_1 := R0_1.out.lt
  have q1_1 := R1_1.out.lt
  have q2_1 := R2_1.out.lt
  have q3_1 := R3_1.out.lt
  have c2_0_1 : w1.cell? ⟨w.heap.size + 1 + 1, 0, none⟩ = some (.int .u64 0) := R2_1.out.cell 0
  have c2_1_1 : w1.cell? ⟨w.heap.size + 1 + 1, 1, none⟩ = some (.int .u64 0) := R2_1.out.cell 1
  have c2_2_1 : w1.cell? ⟨w.heap.size + 1 + 1, 2, none⟩ = some (.int .u64 0) := R2_1.out.cell 2
  have c2_3_1 : w1.cell? ⟨w.heap.size + 1 + 1, 3, none⟩ = some (.int .u64 0) := R2_1.out.cell 3
  have c3_0_1 : w1.cell? ⟨w.heap.size + 1 + 1 + 1, 0, none⟩ = some (.int .u64 0) := R3_1.out.cell 0
  have c3_1_1 : w1.cell? ⟨w.heap.size + 1 + 1 + 1, 1, none⟩ = some (.int .u64 0) := R3_1.out.cell 1
  have c3_2_1 : w1.cell? ⟨w.heap.size + 1 + 1 + 1, 2, none⟩ = some (.int .u64 0) := R3_1.out.cell 2
  have c3_3_1 : w1.cell? ⟨w.heap.size + 1 + 1 + 1, 3, none⟩ = some (.int .u64 0) := R3_1.out.cell 3
  have z2_0_1 := R2_1.out.frozen 0
  have z2_1_1 := R2_1.out.frozen 1
  have z2_2_1 := R2_1.out.frozen 2
  have z2_3_1 := R2_1.out.frozen 3
  have z3_0_1 := R3_1.out.frozen 0
  have z3_1_1 := R3_1.out.frozen 1
  have z3_2_1 := R3_1.out.frozen 2
  have z3_3_1 := R3_1.out.frozen 3
  go_wp2
  rw [set4 R2_1.out rfl, set4 (R3_1.out.set_other _ (by omega)) rfl]
  exact bodyPost_ret (v := .tuple #[U q, U r]) (results_cell2' (p := 4) (q := 5) (ty := 24) (ty2 := 24) rfl (g := w.heap.size + 1 + 1) (g2 := w.heap.size + 1 + 1 + 1) rfl rfl ((R2_1.out.set_same _).set_other _ (by omega)) ((R3_1.out.set_other _ (by omega)).set_same _) rfl rfl Try.underlying24 (by kernel_rfl) Try.underlying24 (by kernel_rfl)) rfl ⟨rfl, below_setRow (below_setRow B1.out (by omega) _) (by omega) _⟩
structure CSD (w : World) (N0 : Nat) (a b x y q r : Nat) (listed : Array Bool) (vs : Nat → Value) (w' : World) : Prop where
  bw : Below w.heap.size w w'
  ms : N0 ≤ w'.heap.size
  R0 : HasRow w' (w.heap.size) #[B (l0 a), B (l1 a), B (l2 a), B (l3 a)]
  R1 : HasRow w' (w.heap.size + 1) #[B (l0 b), B (l1 b), B (l2 b), B (l3 b)]
  R2 : HasRow w' (w.heap.size + 1 + 1) #[.int .u64 0, .int .u64 0, .int .u64 0, .int .u64 0]
  R3 : HasRow w' (w.heap.size + 1 + 1 + 1) #[.int .u64 0, .int .u64 0, .int .u64 0, .int .u64 0]
  c0 : listed.getD 0 false = true → vs 0 = U a
  c1 : listed.getD 1 false = true → vs 1 = U x
  c2 : listed.getD 2 false = true → vs 2 = U b
  c3 : listed.getD 3 false = true → vs 3 = U y
  c4 : listed.getD 4 false = true → vs 4 = .tuple #[U q, U r]
  c5 : listed.getD 5 false = true → vs 5 = .tuple #[U q, U r]
  c6 : listed.getD 6 false = true → vs 6 = U q
  c7 : listed.getD 7 false = true → vs 7 = U r
  c8 : listed.getD 8 false = true → ∃ g c, vs 8 = .pointer (some ⟨g, 0, none⟩) ∧ N0 ≤ g ∧ HasRow w' g c ∧ c.size = 4 ∧ (listed.getD 10 false = true → c = #[B (l0 q), B (l1 q), B (l2 q), B (l3 q)])
  c9 : listed.getD 9 false = true → ∃ g c, vs 9 = .pointer (some ⟨g, 0, none⟩) ∧ N0 ≤ g ∧ HasRow w' g c ∧ c.size = 4 ∧ (listed.getD 11 false = true → c = #[B (l0 r), B (l1 r), B (l2 r), B (l3 r)])
  c10 : listed.getD 10 false = true → listed.getD 8 false = true
  c11 : listed.getD 11 false = true → listed.getD 9 false = true
  ne8_9 : listed.getD 8 false = true → listed.getD 9 false = true → vs 8 ≠ vs 9
structure CSR (w : World) (N0 : Nat) (b1 b2 q r : Nat) (listed : Array Bool) (vs : Nat → Value) (w' : World) : Prop where
  bw : Below w.heap.size w w'
  ms : N0 ≤ w'.heap.size
  R0 : HasRow w' (b1) #[B (l0 q), B (l1 q), B (l2 q), B (l3 q)]
  R1 : HasRow w' (b2) #[B (l0 r), B (l1 r), B (l2 r), B (l3 r)]
  c0 : listed.getD 0 false = true → vs 0 = U q
  c1 : listed.getD 1 false = true → vs 1 = U r
  c2 : ∃ c, HasRow w' (w.heap.size + 1 + 1) c ∧ c.size = 4 ∧ (listed.getD 2 false = true → c = #[B (l0 q), B (l1 q), B (l2 q), B (l3 q)])
  c3 : ∃ c, HasRow w' (w.heap.size + 1 + 1 + 1) c ∧ c.size = 4 ∧ (listed.getD 3 false = true → c = #[B (l0 r), B (l1 r), B (l2 r), B (l3 r)])

set_option maxRecDepth 100000 in
set_option maxHeartbeats 4000000 in
theorem rdiv_tt (a b x y q r nr : Nat)
    (hs1 : Hid (∀ w, Calls Try.prog 26 #[U a] w fun e w' => e = .returned (U x) ∧ Below w.heap.size w w'))
    (hs2 : Hid (∀ w, Calls Try.prog 26 #[U b] w fun e w' => e = .returned (U y) ∧ Below w.heap.size w w'))
    (hd : Hid (∀ w, Calls Try.prog 25 #[U x, U y] w fun e w' => e = .returned (.tuple #[U q, U r]) ∧ Below w.heap.size w w'))
    (ha : Hid (∀ w, Calls Try.prog 27 #[U a] w fun e w' => e = .returned (.bool true) ∧ Below w.heap.size w w'))
    (hb : Hid (∀ w, Calls Try.prog 27 #[U b] w fun e w' => e = .returned (.bool true) ∧ Below w.heap.size w w'))
    (hr : Hid (∀ w, Calls Try.prog 10 #[U r] w fun e w' => e = .returned (U nr) ∧ Below w.heap.size w w')) (w : World) :
    Calls Try.prog 8 #[U a, U b] w fun e w' => e = .returned (.tuple #[U q, U nr]) ∧ Below w.heap.size w w' := by
  go_enter Try.func8, Try.ntmps8
  go_wp2_with fail
  refine name_world _ ?_
  intro wF hF0
  have RF0 : Hid (HasRow wF (w.heap.size) #[B (l0 a), B (l1 a), B (l2 a), B (l3 a)]) := by rw [hF0]; exact (HasRow.old (HasRow.old (HasRow.old (HasRow.last (by simp)))))
  have RF1 : Hid (HasRow wF (w.heap.size + 1) #[B (l0 b), B (l1 b), B (l2 b), B (l3 b)]) := by rw [hF0]; exact (HasRow.old (HasRow.old (HasRow.last (by simp))))
  have RF2 : Hid (HasRow wF (w.heap.size + 1 + 1) #[.int .u64 0, .int .u64 0, .int .u64 0, .int .u64 0]) := by rw [hF0]; exact (HasRow.old (HasRow.last (by simp)))
  have RF3 : Hid (HasRow wF (w.heap.size + 1 + 1 + 1) #[.int .u64 0, .int .u64 0, .int .u64 0, .int .u64 0]) := by rw [hF0]; exact (HasRow.last (by simp))
  have BF : Hid (Below w.heap.size w wF) := by rw [hF0]; exact (bel_alloc (bel_alloc (bel_alloc (bel_alloc (Below.refl _ _) _) _) _) _)
  clear hF0
  obtain ⟨N0, hN0⟩ : ∃ n, n = wF.heap.size := ⟨_, rfl⟩
  have qF0 : w.heap.size < N0 := by rw [hN0]; exact RF0.out.lt
  have qF1 : w.heap.size + 1 < N0 := by rw [hN0]; exact RF1.out.lt
  have qF2 : w.heap.size + 1 + 1 < N0 := by rw [hN0]; exact RF2.out.lt
  have qF3 : w.heap.size + 1 + 1 + 1 < N0 := by rw [hN0]; exact RF3.out.lt
  refine wp_region_vals2 (by kernel_rfl) (by kernel_rfl) (by kernel_rfl) (CSD w N0 a b x y q r) ?_ ?_ ?_
  · refine ⟨BF.out.drew, by rw [hN0]; exact Nat.le_refl _, RF0.out, RF1.out, RF2.out, RF3.out, ?_, ?_, ?_, ?_, ?_, ?_, ?_, ?_, ?_, ?_, ?_, ?_, ?_⟩ <;> (intro h; simp [Array.getD] at h)
  · intro listed vs a' w' i o' hs ho hi hF cc
    have hin : i < 12 := by have := (Array.getElem?_eq_some_iff.1 ho).1; simpa using this
    have hcase : i = 0 ∨ i = 1 ∨ i = 2 ∨ i = 3 ∨ i = 4 ∨ i = 5 ∨ i = 6 ∨ i = 7 ∨ i = 8 ∨ i = 9 ∨ i = 10 ∨ i = 11 := by omega
    rcases hcase with rfl | rfl | rfl | rfl | rfl | rfl | rfl | rfl | rfl | rfl | rfl | rfl
    · simp at ho
      subst ho
      have T : ∀ j, j ≠ 0 → (listed.setIfInBounds 0 true).getD j false = true → listed.getD j false = true := fun j hj h => (done_set h).resolve_left hj
      have S : ∀ j, listed.getD j false = true → (listed.setIfInBounds 0 true).getD j false = true := fun j h => done_keep h
      exact wp_rowF 24 (.tmp 2) rfl (w.heap.size) ((hF.old (by kernel_rfl)).trans rfl) cc.R0 rfl Try.underlying24 (by kernel_rfl) ⟨_, rfl, ⟨cc.bw, cc.ms, cc.R0, cc.R1, cc.R2, cc.R3, fun _ => rfl, fun h => cc.c1 (T 1 (by decide) h), fun h => cc.c2 (T 2 (by decide) h), fun h => cc.c3 (T 3 (by decide) h), fun h => cc.c4 (T 4 (by decide) h), fun h => cc.c5 (T 5 (by decide) h), fun h => cc.c6 (T 6 (by decide) h), fun h => cc.c7 (T 7 (by decide) h), fun h => by obtain ⟨g', c', e', k1, k2, k3, k4⟩ := cc.c8 (T 8 (by decide) h); exact ⟨g', c', e', k1, k2, k3, fun h6 => k4 (T 10 (by decide) h6)⟩, fun h => by obtain ⟨g', c', e', k1, k2, k3, k4⟩ := cc.c9 (T 9 (by decide) h); exact ⟨g', c', e', k1, k2, k3, fun h6 => k4 (T 11 (by decide) h6)⟩, fun h => S 8 (cc.c10 (T 10 (by decide) h)), fun h => S 9 (cc.c11 (T 11 (by decide) h)), fun h h' => cc.ne8_9 (T 8 (by decide) h) (T 9 (by decide) h')⟩⟩
    · simp at ho
      subst ho
      have T : ∀ j, j ≠ 1 → (listed.setIfInBounds 1 true).getD j false = true → listed.getD j false = true := fun j hj h => (done_set h).resolve_left hj
      have S : ∀ j, listed.getD j false = true → (listed.setIfInBounds 1 true).getD j false = true := fun j h => done_keep h
      have hv0 := ((hF.new (t := 9) (i := 0) (by kernel_rfl) (by simp) (waits_done (i := 1) (j := 0) (by kernel_rfl) hi)).trans (cc.c0 (waits_done (i := 1) (j := 0) (by kernel_rfl) hi)))
      refine wp_callF (f := 26) (args := #[U a]) (v := U x) (by simp [execOp_call_go, ev hv0, go_sem]) (hs1.out w') ?_
      intro w'' hb''
      exact ⟨_, rfl, ⟨cc.bw.trans (hb''.mono cc.bw.size), Nat.le_trans cc.ms hb''.size, cc.R0.below hb'', cc.R1.below hb'', cc.R2.below hb'', cc.R3.below hb'', fun h => cc.c0 (T 0 (by decide) h), fun _ => rfl, fun h => cc.c2 (T 2 (by decide) h), fun h => cc.c3 (T 3 (by decide) h), fun h => cc.c4 (T 4 (by decide) h), fun h => cc.c5 (T 5 (by decide) h), fun h => cc.c6 (T 6 (by decide) h), fun h => cc.c7 (T 7 (by decide) h), fun h => by obtain ⟨g', c', e', k1, k2, k3, k4⟩ := cc.c8 (T 8 (by decide) h); exact ⟨g', c', e', k1, k2.below hb'', k3, fun h6 => k4 (T 10 (by decide) h6)⟩, fun h => by obtain ⟨g', c', e', k1, k2, k3, k4⟩ := cc.c9 (T 9 (by decide) h); exact ⟨g', c', e', k1, k2.below hb'', k3, fun h6 => k4 (T 11 (by decide) h6)⟩, fun h => S 8 (cc.c10 (T 10 (by decide) h)), fun h => S 9 (cc.c11 (T 11 (by decide) h)), fun h h' => cc.ne8_9 (T 8 (by decide) h) (T 9 (by decide) h')⟩⟩
    · simp at ho
      subst ho
      have T : ∀ j, j ≠ 2 → (listed.setIfInBounds 2 true).getD j false = true → listed.getD j false = true := fun j hj h => (done_set h).resolve_left hj
      have S : ∀ j, listed.getD j false = true → (listed.setIfInBounds 2 true).getD j false = true := fun j h => done_keep h
      exact wp_rowF 24 (.tmp 3) rfl (w.heap.size + 1) ((hF.old (by kernel_rfl)).trans rfl) cc.R1 rfl Try.underlying24 (by kernel_rfl) ⟨_, rfl, ⟨cc.bw, cc.ms, cc.R0, cc.R1, cc.R2, cc.R3, fun h => cc.c0 (T 0 (by decide) h), fun h => cc.c1 (T 1 (by decide) h), fun _ => rfl, fun h => cc.c3 (T 3 (by decide) h), fun h => cc.c4 (T 4 (by decide) h), fun h => cc.c5 (T 5 (by decide) h), fun h => cc.c6 (T 6 (by decide) h), fun h => cc.c7 (T 7 (by decide) h), fun h => by obtain ⟨g', c', e', k1, k2, k3, k4⟩ := cc.c8 (T 8 (by decide) h); exact ⟨g', c', e', k1, k2, k3, fun h6 => k4 (T 10 (by decide) h6)⟩, fun h => by obtain ⟨g', c', e', k1, k2, k3, k4⟩ := cc.c9 (T 9 (by decide) h); exact ⟨g', c', e', k1, k2, k3, fun h6 => k4 (T 11 (by decide) h6)⟩, fun h => S 8 (cc.c10 (T 10 (by decide) h)), fun h => S 9 (cc.c11 (T 11 (by decide) h)), fun h h' => cc.ne8_9 (T 8 (by decide) h) (T 9 (by decide) h')⟩⟩
    · simp at ho
      subst ho
      have T : ∀ j, j ≠ 3 → (listed.setIfInBounds 3 true).getD j false = true → listed.getD j false = true := fun j hj h => (done_set h).resolve_left hj
      have S : ∀ j, listed.getD j false = true → (listed.setIfInBounds 3 true).getD j false = true := fun j h => done_keep h
      have hv0 := ((hF.new (t := 11) (i := 2) (by kernel_rfl) (by simp) (waits_done (i := 3) (j := 2) (by kernel_rfl) hi)).trans (cc.c2 (waits_done (i := 3) (j := 2) (by kernel_rfl) hi)))
      refine wp_callF (f := 26) (args := #[U b]) (v := U y) (by simp [execOp_call_go, ev hv0, go_sem]) (hs2.out w') ?_
      intro w'' hb''
      exact ⟨_, rfl, ⟨cc.bw.trans (hb''.mono cc.bw.size), Nat.le_trans cc.ms hb''.size, cc.R0.below hb'', cc.R1.below hb'', cc.R2.below hb'', cc.R3.below hb'', fun h => cc.c0 (T 0 (by decide) h), fun h => cc.c1 (T 1 (by decide) h), fun h => cc.c2 (T 2 (by decide) h), fun _ => rfl, fun h => cc.c4 (T 4 (by decide) h), fun h => cc.c5 (T 5 (by decide) h), fun h => cc.c6 (T 6 (by decide) h), fun h => cc.c7 (T 7 (by decide) h), fun h => by obtain ⟨g', c', e', k1, k2, k3, k4⟩ := cc.c8 (T 8 (by decide) h); exact ⟨g', c', e', k1, k2.below hb'', k3, fun h6 => k4 (T 10 (by decide) h6)⟩, fun h => by obtain ⟨g', c', e', k1, k2, k3, k4⟩ := cc.c9 (T 9 (by decide) h); exact ⟨g', c', e', k1, k2.below hb'', k3, fun h6 => k4 (T 11 (by decide) h6)⟩, fun h => S 8 (cc.c10 (T 10 (by decide) h)), fun h => S 9 (cc.c11 (T 11 (by decide) h)), fun h h' => cc.ne8_9 (T 8 (by decide) h) (T 9 (by decide) h')⟩⟩
    · simp at ho
      subst ho
      have T : ∀ j, j ≠ 4 → (listed.setIfInBounds 4 true).getD j false = true → listed.getD j false = true := fun j hj h => (done_set h).resolve_left hj
      have S : ∀ j, listed.getD j false = true → (listed.setIfInBounds 4 true).getD j false = true := fun j h => done_keep h
      have hv0 := ((hF.new (t := 10) (i := 1) (by kernel_rfl) (by simp) (waits_done (i := 4) (j := 1) (by kernel_rfl) hi)).trans (cc.c1 (waits_done (i := 4) (j := 1) (by kernel_rfl) hi)))
      have hv1 := ((hF.new (t := 12) (i := 3) (by kernel_rfl) (by simp) (waits_done (i := 4) (j := 3) (by kernel_rfl) hi)).trans (cc.c3 (waits_done (i := 4) (j := 3) (by kernel_rfl) hi)))
      refine wp_callF (f := 25) (args := #[U x, U y]) (v := .tuple #[U q, U r]) (by simp [execOp_call_go, ev hv0, ev hv1, go_sem]) (hd.out w') ?_
      intro w'' hb''
      exact ⟨_, rfl, ⟨cc.bw.trans (hb''.mono cc.bw.size), Nat.le_trans cc.ms hb''.size, cc.R0.below hb'', cc.R1.below hb'', cc.R2.below hb'', cc.R3.below hb'', fun h => cc.c0 (T 0 (by decide) h), fun h => cc.c1 (T 1 (by decide) h), fun h => cc.c2 (T 2 (by decide) h), fun h => cc.c3 (T 3 (by decide) h), fun _ => rfl, fun h => cc.c5 (T 5 (by decide) h), fun h => cc.c6 (T 6 (by decide) h), fun h => cc.c7 (T 7 (by decide) h), fun h => by obtain ⟨g', c', e', k1, k2, k3, k4⟩ := cc.c8 (T 8 (by decide) h); exact ⟨g', c', e', k1, k2.below hb'', k3, fun h6 => k4 (T 10 (by decide) h6)⟩, fun h => by obtain ⟨g', c', e', k1, k2, k3, k4⟩ := cc.c9 (T 9 (by decide) h); exact ⟨g', c', e', k1, k2.below hb'', k3, fun h6 => k4 (T 11 (by decide) h6)⟩, fun h => S 8 (cc.c10 (T 10 (by decide) h)), fun h => S 9 (cc.c11 (T 11 (by decide) h)), fun h h' => cc.ne8_9 (T 8 (by decide) h) (T 9 (by decide) h')⟩⟩
    · simp at ho
      subst ho
      have T : ∀ j, j ≠ 5 → (listed.setIfInBounds 5 true).getD j false = true → listed.getD j false = true := fun j hj h => (done_set h).resolve_left hj
      have S : ∀ j, listed.getD j false = true → (listed.setIfInBounds 5 true).getD j false = true := fun j h => done_keep h
      have hv := ((hF.new (t := 13) (i := 4) (by kernel_rfl) (by simp) (waits_done (i := 5) (j := 4) (by kernel_rfl) hi)).trans (cc.c4 (waits_done (i := 5) (j := 4) (by kernel_rfl) hi)))
      exact wp_valF (v := .tuple #[U q, U r]) (w1 := w') (by simp [execOp, go_sem, ev hv]) ⟨_, rfl, ⟨cc.bw, cc.ms, cc.R0, cc.R1, cc.R2, cc.R3, fun h => cc.c0 (T 0 (by decide) h), fun h => cc.c1 (T 1 (by decide) h), fun h => cc.c2 (T 2 (by decide) h), fun h => cc.c3 (T 3 (by decide) h), fun h => cc.c4 (T 4 (by decide) h), fun _ => rfl, fun h => cc.c6 (T 6 (by decide) h), fun h => cc.c7 (T 7 (by decide) h), fun h => by obtain ⟨g', c', e', k1, k2, k3, k4⟩ := cc.c8 (T 8 (by decide) h); exact ⟨g', c', e', k1, k2, k3, fun h6 => k4 (T 10 (by decide) h6)⟩, fun h => by obtain ⟨g', c', e', k1, k2, k3, k4⟩ := cc.c9 (T 9 (by decide) h); exact ⟨g', c', e', k1, k2, k3, fun h6 => k4 (T 11 (by decide) h6)⟩, fun h => S 8 (cc.c10 (T 10 (by decide) h)), fun h => S 9 (cc.c11 (T 11 (by decide) h)), fun h h' => cc.ne8_9 (T 8 (by decide) h) (T 9 (by decide) h')⟩⟩
    · simp at ho
      subst ho
      have T : ∀ j, j ≠ 6 → (listed.setIfInBounds 6 true).getD j false = true → listed.getD j false = true := fun j hj h => (done_set h).resolve_left hj
      have S : ∀ j, listed.getD j false = true → (listed.setIfInBounds 6 true).getD j false = true := fun j h => done_keep h
      have hv := ((hF.new (t := 8) (i := 5) (by kernel_rfl) (by simp) (waits_done (i := 6) (j := 5) (by kernel_rfl) hi)).trans (cc.c5 (waits_done (i := 6) (j := 5) (by kernel_rfl) hi)))
      exact wp_valF (v := U q) (w1 := w') (by simp [execOp, go_sem, ev hv]) ⟨_, rfl, ⟨cc.bw, cc.ms, cc.R0, cc.R1, cc.R2, cc.R3, fun h => cc.c0 (T 0 (by decide) h), fun h => cc.c1 (T 1 (by decide) h), fun h => cc.c2 (T 2 (by decide) h), fun h => cc.c3 (T 3 (by decide) h), fun h => cc.c4 (T 4 (by decide) h), fun h => cc.c5 (T 5 (by decide) h), fun _ => rfl, fun h => cc.c7 (T 7 (by decide) h), fun h => by obtain ⟨g', c', e', k1, k2, k3, k4⟩ := cc.c8 (T 8 (by decide) h); exact ⟨g', c', e', k1, k2, k3, fun h6 => k4 (T 10 (by decide) h6)⟩, fun h => by obtain ⟨g', c', e', k1, k2, k3, k4⟩ := cc.c9 (T 9 (by decide) h); exact ⟨g', c', e', k1, k2, k3, fun h6 => k4 (T 11 (by decide) h6)⟩, fun h => S 8 (cc.c10 (T 10 (by decide) h)), fun h => S 9 (cc.c11 (T 11 (by decide) h)), fun h h' => cc.ne8_9 (T 8 (by decide) h) (T 9 (by decide) h')⟩⟩
    · simp at ho
      subst ho
      have T : ∀ j, j ≠ 7 → (listed.setIfInBounds 7 true).getD j false = true → listed.getD j false = true := fun j hj h => (done_set h).resolve_left hj
      have S : ∀ j, listed.getD j false = true → (listed.setIfInBounds 7 true).getD j false = true := fun j h => done_keep h
      have hv := ((hF.new (t := 8) (i := 5) (by kernel_rfl) (by simp) (waits_done (i := 7) (j := 5) (by kernel_rfl) hi)).trans (cc.c5 (waits_done (i := 7) (j := 5) (by kernel_rfl) hi)))
      exact wp_valF (v := U r) (w1 := w') (by simp [execOp, go_sem, ev hv]) ⟨_, rfl, ⟨cc.bw, cc.ms, cc.R0, cc.R1, cc.R2, cc.R3, fun h => cc.c0 (T 0 (by decide) h), fun h => cc.c1 (T 1 (by decide) h), fun h => cc.c2 (T 2 (by decide) h), fun h => cc.c3 (T 3 (by decide) h), fun h => cc.c4 (T 4 (by decide) h), fun h => cc.c5 (T 5 (by decide) h), fun h => cc.c6 (T 6 (by decide) h), fun _ => rfl, fun h => by obtain ⟨g', c', e', k1, k2, k3, k4⟩ := cc.c8 (T 8 (by decide) h); exact ⟨g', c', e', k1, k2, k3, fun h6 => k4 (T 10 (by decide) h6)⟩, fun h => by obtain ⟨g', c', e', k1, k2, k3, k4⟩ := cc.c9 (T 9 (by decide) h); exact ⟨g', c', e', k1, k2, k3, fun h6 => k4 (T 11 (by decide) h6)⟩, fun h => S 8 (cc.c10 (T 10 (by decide) h)), fun h => S 9 (cc.c11 (T 11 (by decide) h)), fun h h' => cc.ne8_9 (T 8 (by decide) h) (T 9 (by decide) h')⟩⟩
    · simp at ho
      subst ho
      have T : ∀ j, j ≠ 8 → (listed.setIfInBounds 8 true).getD j false = true → listed.getD j false = true := fun j hj h => (done_set h).resolve_left hj
      have S : ∀ j, listed.getD j false = true → (listed.setIfInBounds 8 true).getD j false = true := fun j h => done_keep h
      have hun : ¬ listed.getD 8 false = true := fun h => undone hi hs h
      exact wp_valF (v := .pointer (some ⟨w'.heap.size, 0, none⟩)) (w1 := w'.alloc (.cells #[.int .u64 0, .int .u64 0, .int .u64 0, .int .u64 0] 24)) (by simp [execOp, go_sem]) ⟨_, rfl, ⟨bel_alloc cc.bw _, by have := cc.ms; simp; omega, cc.R0.old, cc.R1.old, cc.R2.old, cc.R3.old, fun h => cc.c0 (T 0 (by decide) h), fun h => cc.c1 (T 1 (by decide) h), fun h => cc.c2 (T 2 (by decide) h), fun h => cc.c3 (T 3 (by decide) h), fun h => cc.c4 (T 4 (by decide) h), fun h => cc.c5 (T 5 (by decide) h), fun h => cc.c6 (T 6 (by decide) h), fun h => cc.c7 (T 7 (by decide) h), fun _ => ⟨w'.heap.size, #[.int .u64 0, .int .u64 0, .int .u64 0, .int .u64 0], rfl, cc.ms, HasRow.last rfl, rfl, fun h6 => absurd (cc.c10 (T 10 (by decide) h6)) hun⟩, fun h => by obtain ⟨g', c', e', k1, k2, k3, k4⟩ := cc.c9 (T 9 (by decide) h); exact ⟨g', c', e', k1, k2.old, k3, fun h6 => k4 (T 11 (by decide) h6)⟩, fun h => S 8 (cc.c10 (T 10 (by decide) h)), fun h => S 9 (cc.c11 (T 11 (by decide) h)), fun _ h => by obtain ⟨g', c', e', k1, k2, k3, k4⟩ := cc.c9 (T 9 (by decide) h); have := k2.lt; show Value.pointer (some ⟨w'.heap.size, 0, none⟩) ≠ vs 9; rw [e']; intro q; simp at q; try omega⟩⟩
    · simp at ho
      subst ho
      have T : ∀ j, j ≠ 9 → (listed.setIfInBounds 9 true).getD j false = true → listed.getD j false = true := fun j hj h => (done_set h).resolve_left hj
      have S : ∀ j, listed.getD j false = true → (listed.setIfInBounds 9 true).getD j false = true := fun j h => done_keep h
      have hun : ¬ listed.getD 9 false = true := fun h => undone hi hs h
      exact wp_valF (v := .pointer (some ⟨w'.heap.size, 0, none⟩)) (w1 := w'.alloc (.cells #[.int .u64 0, .int .u64 0, .int .u64 0, .int .u64 0] 24)) (by simp [execOp, go_sem]) ⟨_, rfl, ⟨bel_alloc cc.bw _, by have := cc.ms; simp; omega, cc.R0.old, cc.R1.old, cc.R2.old, cc.R3.old, fun h => cc.c0 (T 0 (by decide) h), fun h => cc.c1 (T 1 (by decide) h), fun h => cc.c2 (T 2 (by decide) h), fun h => cc.c3 (T 3 (by decide) h), fun h => cc.c4 (T 4 (by decide) h), fun h => cc.c5 (T 5 (by decide) h), fun h => cc.c6 (T 6 (by decide) h), fun h => cc.c7 (T 7 (by decide) h), fun h => by obtain ⟨g', c', e', k1, k2, k3, k4⟩ := cc.c8 (T 8 (by decide) h); exact ⟨g', c', e', k1, k2.old, k3, fun h6 => k4 (T 10 (by decide) h6)⟩, fun _ => ⟨w'.heap.size, #[.int .u64 0, .int .u64 0, .int .u64 0, .int .u64 0], rfl, cc.ms, HasRow.last rfl, rfl, fun h6 => absurd (cc.c11 (T 11 (by decide) h6)) hun⟩, fun h => S 8 (cc.c10 (T 10 (by decide) h)), fun h => S 9 (cc.c11 (T 11 (by decide) h)), fun h _ => by obtain ⟨g', c', e', k1, k2, k3, k4⟩ := cc.c8 (T 8 (by decide) h); have := k2.lt; show vs 8 ≠ Value.pointer (some ⟨w'.heap.size, 0, none⟩); rw [e']; intro q; simp at q; try omega⟩⟩
    · simp at ho
      subst ho
      have T : ∀ j, j ≠ 10 → (listed.setIfInBounds 10 true).getD j false = true → listed.getD j false = true := fun j hj h => (done_set h).resolve_left hj
      have S : ∀ j, listed.getD j false = true → (listed.setIfInBounds 10 true).getD j false = true := fun j h => done_keep h
      have d4 := (waits_done (i := 10) (j := 8) (by kernel_rfl) hi)
      obtain ⟨g, c, e, h1, h2, h3, h4⟩ := cc.c8 d4
      have hx := (hF.new (t := 6) (i := 8) (by kernel_rfl) (by simp) d4).trans e
      have hv := ((hF.new (t := 14) (i := 6) (by kernel_rfl) (by simp) (waits_done (i := 10) (j := 6) (by kernel_rfl) hi)).trans (cc.c6 (waits_done (i := 10) (j := 6) (by kernel_rfl) hi)))
      exact wp_rowS 24 (.tmp 6) (.tmp 14) rfl g (c' := #[B (l0 q), B (l1 q), B (l2 q), B (l3 q)]) hx hv h2 h3 rfl (by simp [Value.oneCell']) (by kernel_rfl) ⟨_, rfl, ⟨below_setRow cc.bw (by omega) _, by rw [size_setRow]; exact cc.ms, cc.R0.set_other _ (by omega), cc.R1.set_other _ (by omega), cc.R2.set_other _ (by omega), cc.R3.set_other _ (by omega), fun h => cc.c0 (T 0 (by decide) h), fun h => cc.c1 (T 1 (by decide) h), fun h => cc.c2 (T 2 (by decide) h), fun h => cc.c3 (T 3 (by decide) h), fun h => cc.c4 (T 4 (by decide) h), fun h => cc.c5 (T 5 (by decide) h), fun h => cc.c6 (T 6 (by decide) h), fun h => cc.c7 (T 7 (by decide) h), fun h => ⟨g, _, e, h1, h2.set_same _, rfl, fun _ => rfl⟩, fun h => by obtain ⟨g', c', e', k1, k2, k3, k4⟩ := cc.c9 (T 9 (by decide) h); exact ⟨g', c', e', k1, k2.set_other _ (by rintro rfl; exact cc.ne8_9 d4 (T 9 (by decide) h) (by rw [e, e'])), k3, fun h6 => k4 (T 11 (by decide) h6)⟩, fun _ => S 8 d4, fun h => S 9 (cc.c11 (T 11 (by decide) h)), fun h h' => cc.ne8_9 (T 8 (by decide) h) (T 9 (by decide) h')⟩⟩
    · simp at ho
      subst ho
      have T : ∀ j, j ≠ 11 → (listed.setIfInBounds 11 true).getD j false = true → listed.getD j false = true := fun j hj h => (done_set h).resolve_left hj
      have S : ∀ j, listed.getD j false = true → (listed.setIfInBounds 11 true).getD j false = true := fun j h => done_keep h
      have d4 := (waits_done (i := 11) (j := 9) (by kernel_rfl) hi)
      obtain ⟨g, c, e, h1, h2, h3, h4⟩ := cc.c9 d4
      have hx := (hF.new (t := 7) (i := 9) (by kernel_rfl) (by simp) d4).trans e
      have hv := ((hF.new (t := 15) (i := 7) (by kernel_rfl) (by simp) (waits_done (i := 11) (j := 7) (by kernel_rfl) hi)).trans (cc.c7 (waits_done (i := 11) (j := 7) (by kernel_rfl) hi)))
      exact wp_rowS 24 (.tmp 7) (.tmp 15) rfl g (c' := #[B (l0 r), B (l1 r), B (l2 r), B (l3 r)]) hx hv h2 h3 rfl (by simp [Value.oneCell']) (by kernel_rfl) ⟨_, rfl, ⟨below_setRow cc.bw (by omega) _, by rw [size_setRow]; exact cc.ms, cc.R0.set_other _ (by omega), cc.R1.set_other _ (by omega), cc.R2.set_other _ (by omega), cc.R3.set_other _ (by omega), fun h => cc.c0 (T 0 (by decide) h), fun h => cc.c1 (T 1 (by decide) h), fun h => cc.c2 (T 2 (by decide) h), fun h => cc.c3 (T 3 (by decide) h), fun h => cc.c4 (T 4 (by decide) h), fun h => cc.c5 (T 5 (by decide) h), fun h => cc.c6 (T 6 (by decide) h), fun h => cc.c7 (T 7 (by decide) h), fun h => by obtain ⟨g', c', e', k1, k2, k3, k4⟩ := cc.c8 (T 8 (by decide) h); exact ⟨g', c', e', k1, k2.set_other _ (by rintro rfl; exact cc.ne8_9 (T 8 (by decide) h) d4 (by rw [e, e'])), k3, fun h6 => k4 (T 10 (by decide) h6)⟩, fun h => ⟨g, _, e, h1, h2.set_same _, rfl, fun _ => rfl⟩, fun h => S 8 (cc.c10 (T 10 (by decide) h)), fun _ => S 9 d4, fun h h' => cc.ne8_9 (T 8 (by decide) h) (T 9 (by decide) h')⟩⟩
  · intro listed vs a' w1 hd hF cc
    have e : a' = ({ tmps := #[U a, U b, .pointer (some ⟨w.heap.size, 0, none⟩), .pointer (some ⟨w.heap.size + 1, 0, none⟩), .pointer (some ⟨w.heap.size + 1 + 1, 0, none⟩), .pointer (some ⟨w.heap.size + 1 + 1 + 1, 0, none⟩), vs 8, vs 9, vs 5, vs 0, vs 1, vs 2, vs 3, vs 4, vs 6, vs 7, undef, undef, undef, undef, undef, undef, undef, undef, undef, undef, undef, undef, undef], defers := [] } : Act) := (hF.all hd).trans (by kernel_rfl)
    subst e
    obtain ⟨g8, cx, e8, h18, h2, h3, h4⟩ := cc.c8 (hd 8 (by simp))
    rw [h4 (hd 10 (by simp))] at h2
    have RX8 : Hid (HasRow w1 g8 #[B (l0 q), B (l1 q), B (l2 q), B (l3 q)]) := h2
    clear h2 h3 h4
    obtain ⟨g9, cx, e9, h19, h2, h3, h4⟩ := cc.c9 (hd 9 (by simp))
    rw [h4 (hd 11 (by simp))] at h2
    have RX9 : Hid (HasRow w1 g9 #[B (l0 r), B (l1 r), B (l2 r), B (l3 r)]) := h2
    clear h2 h3 h4
    have ne8_9 : g8 ≠ g9 := fun h => cc.ne8_9 (hd 8 (by simp)) (hd 9 (by simp)) (by rw [e8, e9, h])
    have R0_1 : Hid (HasRow w1 (w.heap.size) #[B (l0 a), B (l1 a), B (l2 a), B (l3 a)]) := cc.R0
    have R1_1 : Hid (HasRow w1 (w.heap.size + 1) #[B (l0 b), B (l1 b), B (l2 b), B (l3 b)]) := cc.R1
    have R2_1 : Hid (HasRow w1 (w.heap.size + 1 + 1) #[.int .u64 0, .int .u64 0, .int .u64 0, .int .u64 0]) := cc.R2
    have R3_1 : Hid (HasRow w1 (w.heap.size + 1 + 1 + 1) #[.int .u64 0, .int .u64 0, .int .u64 0, .int .u64 0]) := cc.R3
    have B1 : Hid (Below w.heap.size w w1) := cc.bw
    rw [e8, e9]
    clear cc hd hF BF e8 e9 RF0 RF1 RF2 RF3
    have R4_1 : Hid (HasRow w1 g8 #[B (l0 q), B (l1 q), B (l2 q), B (l3 q)]) := RX8
    clear RX8
    have R5_1 : Hid (HasRow w1 g9 #[B (l0 r), B (l1 r), B (l2 r), B (l3 r)]) := RX9
    clear RX9
    have q0_1 := R0_1.out.lt
    have q1_1 := R1_1.out.lt
    have q2_1 := R2_1.out.lt
    have q3_1 := R3_1.out.lt
    have q4_1 := R4_1.out.lt
    have q5_1 := R5_1.out.lt
    have c0_0_1 : w1.cell? ⟨w.heap.size, 0, none⟩ = some (B (l0 a)) := R0_1.out.cell 0
    have c0_1_1 : w1.cell? ⟨w.heap.size, 1, none⟩ = some (B (l1 a)) := R0_1.out.cell 1
    have c0_2_1 : w1.cell? ⟨w.heap.size, 2, none⟩ = some (B (l2 a)) := R0_1.out.cell 2
    have c0_3_1 : w1.cell? ⟨w.heap.size, 3, none⟩ = some (B (l3 a)) := R0_1.out.cell 3
    have c1_0_1 : w1.cell? ⟨w.heap.size + 1, 0, none⟩ = some (B (l0 b)) := R1_1.out.cell 0
    have c1_1_1 : w1.cell? ⟨w.heap.size + 1, 1, none⟩ = some (B (l1 b)) := R1_1.out.cell 1
    have c1_2_1 : w1.cell? ⟨w.heap.size + 1, 2, none⟩ = some (B (l2 b)) := R1_1.out.cell 2
    have c1_3_1 : w1.cell? ⟨w.heap.size + 1, 3, none⟩ = some (B (l3 b)) := R1_1.out.cell 3
    go_wp2_with fail
    refine name_world _ ?_
    intro wF hF
    have RF0 : Hid (HasRow wF (w.heap.size) #[B (l0 a), B (l1 a), B (l2 a), B (l3 a)]) := by rw [hF]; exact R0_1.out
    have RF1 : Hid (HasRow wF (w.heap.size + 1) #[B (l0 b), B (l1 b), B (l2 b), B (l3 b)]) := by rw [hF]; exact R1_1.out
    have RF2 : Hid (HasRow wF (w.heap.size + 1 + 1) #[.int .u64 0, .int .u64 0, .int .u64 0, .int .u64 0]) := by rw [hF]; exact R2_1.out
    have RF3 : Hid (HasRow wF (w.heap.size + 1 + 1 + 1) #[.int .u64 0, .int .u64 0, .int .u64 0, .int .u64 0]) := by rw [hF]; exact R3_1.out
    have RF4 : Hid (HasRow wF (g8) #[B (l0 q), B (l1 q), B (l2 q), B (l3 q)]) := by rw [hF]; exact R4_1.out
    have RF5 : Hid (HasRow wF (g9) #[B (l0 r), B (l1 r), B (l2 r), B (l3 r)]) := by rw [hF]; exact R5_1.out
    have BF : Hid (Below w.heap.size w wF) := by rw [hF]; exact B1.out
    clear hF
    clear q0_1 q1_1 q2_1 q3_1 q4_1 q5_1 c0_0_1 c0_1_1 c0_2_1 c0_3_1 c1_0_1 c1_1_1 c1_2_1 c1_3_1
    clear B1 R0_1 R1_1 R2_1 R3_1 R4_1 R5_1
    have d0_0 : wF.cell? ⟨w.heap.size, 0, none⟩ = some (B (l0 a)) := RF0.out.cell 0
    replace d0_0 := cell_regrown d0_0
    have d0_1 : wF.cell? ⟨w.heap.size, 1, none⟩ = some (B (l1 a)) := RF0.out.cell 1
    replace d0_1 := cell_regrown d0_1
    have d0_2 : wF.cell? ⟨w.heap.size, 2, none⟩ = some (B (l2 a)) := RF0.out.cell 2
    replace d0_2 := cell_regrown d0_2
    have d0_3 : wF.cell? ⟨w.heap.size, 3, none⟩ = some (B (l3 a)) := RF0.out.cell 3
    replace d0_3 := cell_regrown d0_3
    have d1_0 : wF.cell? ⟨w.heap.size + 1, 0, none⟩ = some (B (l0 b)) := RF1.out.cell 0
    replace d1_0 := cell_regrown d1_0
    have d1_1 : wF.cell? ⟨w.heap.size + 1, 1, none⟩ = some (B (l1 b)) := RF1.out.cell 1
    replace d1_1 := cell_regrown d1_1
    have d1_2 : wF.cell? ⟨w.heap.size + 1, 2, none⟩ = some (B (l2 b)) := RF1.out.cell 2
    replace d1_2 := cell_regrown d1_2
    have d1_3 : wF.cell? ⟨w.heap.size + 1, 3, none⟩ = some (B (l3 b)) := RF1.out.cell 3
    replace d1_3 := cell_regrown d1_3
    refine wp_region_quiet_below (by kernel_rfl) (by kernel_rfl) ?_
    repeat (go_big_quiet_step (fail))
    go_big_quiet_step ((exact Calls.regrown_of (ha.out _)))
    repeat (go_big_quiet_step (fail))
    go_big_quiet_step ((exact Calls.regrown_of (hb.out _)))
    repeat (go_big_quiet_step (fail))
    refine wpQuiet_nil ?_
    intro w2 hw'
    have hb2 : Below wF.heap.size wF w2 := by obtain ⟨p, rfl⟩ := hw'; exact below_regrown _ _ _
    clear hw'
    clear d0_0 d0_1 d0_2 d0_3
    clear d1_0 d1_1 d1_2 d1_3
    have R0_2 : Hid (HasRow w2 (w.heap.size) #[B (l0 a), B (l1 a), B (l2 a), B (l3 a)]) := RF0.out.below hb2
    have R1_2 : Hid (HasRow w2 (w.heap.size + 1) #[B (l0 b), B (l1 b), B (l2 b), B (l3 b)]) := RF1.out.below hb2
    have R2_2 : Hid (HasRow w2 (w.heap.size + 1 + 1) #[.int .u64 0, .int .u64 0, .int .u64 0, .int .u64 0]) := RF2.out.below hb2
    have R3_2 : Hid (HasRow w2 (w.heap.size + 1 + 1 + 1) #[.int .u64 0, .int .u64 0, .int .u64 0, .int .u64 0]) := RF3.out.below hb2
    have R4_2 : Hid (HasRow w2 (g8) #[B (l0 q), B (l1 q), B (l2 q), B (l3 q)]) := RF4.out.below hb2
    have R5_2 : Hid (HasRow w2 (g9) #[B (l0 r), B (l1 r), B (l2 r), B (l3 r)]) := RF5.out.below hb2
    have B2 : Hid (Below w.heap.size w w2) := bel_call BF.out hb2
    clear hb2 BF RF0 RF1 RF2 RF3 RF4 RF5
    clear wF
    have q0_2 := R0_2.out.lt
    have q1_2 := R1_2.out.lt
    have q2_2 := R2_2.out.lt
    have q3_2 := R3_2.out.lt
    have q4_2 := R4_2.out.lt
    have q5_2 := R5_2.out.lt
    have c0_0_2 : w2.cell? ⟨w.heap.size, 0, none⟩ = some (B (l0 a)) := R0_2.out.cell 0
    have c0_1_2 : w2.cell? ⟨w.heap.size, 1, none⟩ = some (B (l1 a)) := R0_2.out.cell 1
    have c0_2_2 : w2.cell? ⟨w.heap.size, 2, none⟩ = some (B (l2 a)) := R0_2.out.cell 2
    have c0_3_2 : w2.cell? ⟨w.heap.size, 3, none⟩ = some (B (l3 a)) := R0_2.out.cell 3
    go_wp2_with fail
    refine (ha.out _).mono ?_
    rintro e w3 ⟨rfl, hb3⟩
    have R0_3 : Hid (HasRow w3 (w.heap.size) #[B (l0 a), B (l1 a), B (l2 a), B (l3 a)]) := R0_2.out.below hb3
    have R1_3 : Hid (HasRow w3 (w.heap.size + 1) #[B (l0 b), B (l1 b), B (l2 b), B (l3 b)]) := R1_2.out.below hb3
    have R2_3 : Hid (HasRow w3 (w.heap.size + 1 + 1) #[.int .u64 0, .int .u64 0, .int .u64 0, .int .u64 0]) := R2_2.out.below hb3
    have R3_3 : Hid (HasRow w3 (w.heap.size + 1 + 1 + 1) #[.int .u64 0, .int .u64 0, .int .u64 0, .int .u64 0]) := R3_2.out.below hb3
    have R4_3 : Hid (HasRow w3 (g8) #[B (l0 q), B (l1 q), B (l2 q), B (l3 q)]) := R4_2.out.below hb3
    have R5_3 : Hid (HasRow w3 (g9) #[B (l0 r), B (l1 r), B (l2 r), B (l3 r)]) := R5_2.out.below hb3
    have B3 : Hid (Below w.heap.size w w3) := bel_call B2.out hb3
    clear hb3
    clear q0_2 q1_2 q2_2 q3_2 q4_2 q5_2 c0_0_2 c0_1_2 c0_2_2 c0_3_2
    have q0_3 := R0_3.out.lt
    have q1_3 := R1_3.out.lt
    have q2_3 := R2_3.out.lt
    have q3_3 := R3_3.out.lt
    have q4_3 := R4_3.out.lt
    have q5_3 := R5_3.out.lt
    have c5_0_3 : w3.cell? ⟨g9, 0, none⟩ = some (B (l0 r)) := R5_3.out.cell 0
    have c5_1_3 : w3.cell? ⟨g9, 1, none⟩ = some (B (l1 r)) := R5_3.out.cell 1
    have c5_2_3 : w3.cell? ⟨g9, 2, none⟩ = some (B (l2 r)) := R5_3.out.cell 2
    have c5_3_3 : w3.cell? ⟨g9, 3, none⟩ = some (B (l3 r)) := R5_3.out.cell 3
    go_wp2_with fail
    refine (hr.out _).mono ?_
    rintro e w4 ⟨rfl, hb4⟩
    have R0_4 : Hid (HasRow w4 (w.heap.size) #[B (l0 a), B (l1 a), B (l2 a), B (l3 a)]) := R0_3.out.below hb4
    have R1_4 : Hid (HasRow w4 (w.heap.size + 1) #[B (l0 b), B (l1 b), B (l2 b), B (l3 b)]) := R1_3.out.below hb4
    have R2_4 : Hid (HasRow w4 (w.heap.size + 1 + 1) #[.int .u64 0, .int .u64 0, .int .u64 0, .int .u64 0]) := R2_3.out.below hb4
    have R3_4 : Hid (HasRow w4 (w.heap.size + 1 + 1 + 1) #[.int .u64 0, .int .u64 0, .int .u64 0, .int .u64 0]) := R3_3.out.below hb4
    have R4_4 : Hid (HasRow w4 (g8) #[B (l0 q), B (l1 q), B (l2 q), B (l3 q)]) := R4_3.out.below hb4
    have R5_4 : Hid (HasRow w4 (g9) #[B (l0 r), B (l1 r), B (l2 r), B (l3 r)]) := R5_3.out.below hb4
    have B4 : Hid (Below w.heap.size w w4) := bel_call B3.out hb4
    clear hb4
    clear q0_3 q1_3 q2_3 q3_3 q4_3 q5_3 c5_0_3 c5_1_3 c5_2_3 c5_3_3
    have q0_4 := R0_4.out.lt
    have q1_4 := R1_4.out.lt
    have q2_4 := R2_4.out.lt
    have q3_4 := R3_4.out.lt
    have q4_4 := R4_4.out.lt
    have q5_4 := R5_4.out.lt
    have c5_0_4 : w4.cell? ⟨g9, 0, none⟩ = some (B (l0 r)) := R5_4.out.cell 0
    have c5_1_4 : w4.cell? ⟨g9, 1, none⟩ = some (B (l1 r)) := R5_4.out.cell 1
    have c5_2_4 : w4.cell? ⟨g9, 2, none⟩ = some (B (l2 r)) := R5_4.out.cell 2
    have c5_3_4 : w4.cell? ⟨g9, 3, none⟩ = some (B (l3 r)) := R5_4.out.cell 3
    have z5_0_4 := R5_4.out.frozen 0
    have z5_1_4 := R5_4.out.frozen 1
    have z5_2_4 := R5_4.out.frozen 2
    have z5_3_4 := R5_4.out.frozen 3
    go_upto_region 6 with fail
    refine name_world _ ?_
    intro w5 hF
    rw [set4 R5_4.out rfl] at hF
    have R0_5 : Hid (HasRow w5 (w.heap.size) #[B (l0 a), B (l1 a), B (l2 a), B (l3 a)]) := by rw [hF]; exact (R0_4.out.set_other _ (by omega))
    have R1_5 : Hid (HasRow w5 (w.heap.size + 1) #[B (l0 b), B (l1 b), B (l2 b), B (l3 b)]) := by rw [hF]; exact (R1_4.out.set_other _ (by omega))
    have R2_5 : Hid (HasRow w5 (w.heap.size + 1 + 1) #[.int .u64 0, .int .u64 0, .int .u64 0, .int .u64 0]) := by rw [hF]; exact (R2_4.out.set_other _ (by omega))
    have R3_5 : Hid (HasRow w5 (w.heap.size + 1 + 1 + 1) #[.int .u64 0, .int .u64 0, .int .u64 0, .int .u64 0]) := by rw [hF]; exact (R3_4.out.set_other _ (by omega))
    have R4_5 : Hid (HasRow w5 (g8) #[B (l0 q), B (l1 q), B (l2 q), B (l3 q)]) := by rw [hF]; exact (R4_4.out.set_other _ (by omega))
    have R5_5 : Hid (HasRow w5 (g9) #[B (l0 nr), B (l1 nr), B (l2 nr), B (l3 nr)]) := by rw [hF]; exact (R5_4.out.set_same _)
    have B5 : Hid (Below w.heap.size w w5) := by rw [hF]; exact (below_setRow B4.out (by omega) _)
    clear hF
    clear q0_4 q1_4 q2_4 q3_4 q4_4 q5_4 c5_0_4 c5_1_4 c5_2_4 c5_3_4 z5_0_4 z5_1_4 z5_2_4 z5_3_4
    clear B4 R0_4 R1_4 R2_4 R3_4 R4_4 R5_4
    have q0_5 := R0_5.out.lt
    have q1_5 := R1_5.out.lt
    have q2_5 := R2_5.out.lt
    have q3_5 := R3_5.out.lt
    have q4_5 := R4_5.out.lt
    have q5_5 := R5_5.out.lt
    have c2_0_5 : w5.cell? ⟨w.heap.size + 1 + 1, 0, none⟩ = some (.int .u64 0) := R2_5.out.cell 0
    have c2_1_5 : w5.cell? ⟨w.heap.size + 1 + 1, 1, none⟩ = some (.int .u64 0) := R2_5.out.cell 1
    have c2_2_5 : w5.cell? ⟨w.heap.size + 1 + 1, 2, none⟩ = some (.int .u64 0) := R2_5.out.cell 2
    have c2_3_5 : w5.cell? ⟨w.heap.size + 1 + 1, 3, none⟩ = some (.int .u64 0) := R2_5.out.cell 3
    have c3_0_5 : w5.cell? ⟨w.heap.size + 1 + 1 + 1, 0, none⟩ = some (.int .u64 0) := R3_5.out.cell 0
    have c3_1_5 : w5.cell? ⟨w.heap.size + 1 + 1 + 1, 1, none⟩ = some (.int .u64 0) := R3_5.out.cell 1
    have c3_2_5 : w5.cell? ⟨w.heap.size + 1 + 1 + 1, 2, none⟩ = some (.int .u64 0) := R3_5.out.cell 2
    have c3_3_5 : w5.cell? ⟨w.heap.size + 1 + 1 + 1, 3, none⟩ = some (.int .u64 0) := R3_5.out.cell 3
    have c4_0_5 : w5.cell? ⟨g8, 0, none⟩ = some (B (l0 q)) := R4_5.out.cell 0
    have c4_1_5 : w5.cell? ⟨g8, 1, none⟩ = some (B (l1 q)) := R4_5.out.cell 1
    have c4_2_5 : w5.cell? ⟨g8, 2, none⟩ = some (B (l2 q)) := R4_5.out.cell 2
    have c4_3_5 : w5.cell? ⟨g8, 3, none⟩ = some (B (l3 q)) := R4_5.out.cell 3
    have c5_0_5 : w5.cell? ⟨g9, 0, none⟩ = some (B (l0 nr)) := R5_5.out.cell 0
    have c5_1_5 : w5.cell? ⟨g9, 1, none⟩ = some (B (l1 nr)) := R5_5.out.cell 1
    have c5_2_5 : w5.cell? ⟨g9, 2, none⟩ = some (B (l2 nr)) := R5_5.out.cell 2
    have c5_3_5 : w5.cell? ⟨g9, 3, none⟩ = some (B (l3 nr)) := R5_5.out.cell 3
    have z2_0_5 := R2_5.out.frozen 0
    have z2_1_5 := R2_5.out.frozen 1
    have z2_2_5 := R2_5.out.frozen 2
    have z2_3_5 := R2_5.out.frozen 3
    have z3_0_5 := R3_5.out.frozen 0
    have z3_1_5 := R3_5.out.frozen 1
    have z3_2_5 := R3_5.out.frozen 2
    have z3_3_5 := R3_5.out.frozen 3
    go_wp2_with fail
    refine wp_region_vals2 (by kernel_rfl) (by kernel_rfl) (by kernel_rfl) (CSR w 0 g8 g9 q nr) ?_ ?_ ?_
    · refine ⟨B5.out.drew, Nat.zero_le _, R4_5.out, R5_5.out, ?_, ?_, ⟨_, R2_5.out, rfl, ?_⟩, ⟨_, R3_5.out, rfl, ?_⟩⟩ <;> (intro h; simp [Array.getD] at h)
    · intro listed vs a' w' i o' hs ho hi hF cc
      have hin : i < 4 := by have := (Array.getElem?_eq_some_iff.1 ho).1; simpa using this
      have hcase : i = 0 ∨ i = 1 ∨ i = 2 ∨ i = 3 := by omega
      rcases hcase with rfl | rfl | rfl | rfl
      · simp at ho
        subst ho
        have T : ∀ j, j ≠ 0 → (listed.setIfInBounds 0 true).getD j false = true → listed.getD j false = true := fun j hj h => (done_set h).resolve_left hj
        have S : ∀ j, listed.getD j false = true → (listed.setIfInBounds 0 true).getD j false = true := fun j h => done_keep h
        exact wp_rowF 24 (.tmp 6) rfl (g8) ((hF.old (by kernel_rfl)).trans rfl) cc.R0 rfl Try.underlying24 (by kernel_rfl) ⟨_, rfl, ⟨cc.bw, cc.ms, cc.R0, cc.R1, fun _ => rfl, fun h => cc.c1 (T 1 (by decide) h), by obtain ⟨c', k2, k3, k4⟩ := cc.c2; exact ⟨c', k2, k3, fun h6 => k4 (T 2 (by decide) h6)⟩, by obtain ⟨c', k2, k3, k4⟩ := cc.c3; exact ⟨c', k2, k3, fun h6 => k4 (T 3 (by decide) h6)⟩⟩⟩
      · simp at ho
        subst ho
        have T : ∀ j, j ≠ 1 → (listed.setIfInBounds 1 true).getD j false = true → listed.getD j false = true := fun j hj h => (done_set h).resolve_left hj
        have S : ∀ j, listed.getD j false = true → (listed.setIfInBounds 1 true).getD j false = true := fun j h => done_keep h
        exact wp_rowF 24 (.tmp 7) rfl (g9) ((hF.old (by kernel_rfl)).trans rfl) cc.R1 rfl Try.underlying24 (by kernel_rfl) ⟨_, rfl, ⟨cc.bw, cc.ms, cc.R0, cc.R1, fun h => cc.c0 (T 0 (by decide) h), fun _ => rfl, by obtain ⟨c', k2, k3, k4⟩ := cc.c2; exact ⟨c', k2, k3, fun h6 => k4 (T 2 (by decide) h6)⟩, by obtain ⟨c', k2, k3, k4⟩ := cc.c3; exact ⟨c', k2, k3, fun h6 => k4 (T 3 (by decide) h6)⟩⟩⟩
      · simp at ho
        subst ho
        have T : ∀ j, j ≠ 2 → (listed.setIfInBounds 2 true).getD j false = true → listed.getD j false = true := fun j hj h => (done_set h).resolve_left hj
        have S : ∀ j, listed.getD j false = true → (listed.setIfInBounds 2 true).getD j false = true := fun j h => done_keep h
        have hv := ((hF.new (t := 27) (i := 0) (by kernel_rfl) (by simp) (waits_done (i := 2) (j := 0) (by kernel_rfl) hi)).trans (cc.c0 (waits_done (i := 2) (j := 0) (by kernel_rfl) hi)))
        obtain ⟨c, h2, h3, h4⟩ := cc.c2
        exact wp_rowS 24 (.tmp 4) (.tmp 27) rfl (w.heap.size + 1 + 1) (c' := #[B (l0 q), B (l1 q), B (l2 q), B (l3 q)]) ((hF.old (by kernel_rfl)).trans rfl) hv h2 h3 rfl (by simp [Value.oneCell']) (by kernel_rfl) ⟨_, rfl, ⟨below_setRow cc.bw (by omega) _, by rw [size_setRow]; exact cc.ms, cc.R0.set_other _ (by omega), cc.R1.set_other _ (by omega), fun h => cc.c0 (T 0 (by decide) h), fun h => cc.c1 (T 1 (by decide) h), ⟨_, h2.set_same _, rfl, fun _ => rfl⟩, by obtain ⟨c', k2, k3, k4⟩ := cc.c3; exact ⟨c', k2.set_other _ (by omega), k3, fun h6 => k4 (T 3 (by decide) h6)⟩⟩⟩
      · simp at ho
        subst ho
        have T : ∀ j, j ≠ 3 → (listed.setIfInBounds 3 true).getD j false = true → listed.getD j false = true := fun j hj h => (done_set h).resolve_left hj
        have S : ∀ j, listed.getD j false = true → (listed.setIfInBounds 3 true).getD j false = true := fun j h => done_keep h
        have hv := ((hF.new (t := 28) (i := 1) (by kernel_rfl) (by simp) (waits_done (i := 3) (j := 1) (by kernel_rfl) hi)).trans (cc.c1 (waits_done (i := 3) (j := 1) (by kernel_rfl) hi)))
        obtain ⟨c, h2, h3, h4⟩ := cc.c3
        exact wp_rowS 24 (.tmp 5) (.tmp 28) rfl (w.heap.size + 1 + 1 + 1) (c' := #[B (l0 nr), B (l1 nr), B (l2 nr), B (l3 nr)]) ((hF.old (by kernel_rfl)).trans rfl) hv h2 h3 rfl (by simp [Value.oneCell']) (by kernel_rfl) ⟨_, rfl, ⟨below_setRow cc.bw (by omega) _, by rw [size_setRow]; exact cc.ms, cc.R0.set_other _ (by omega), cc.R1.set_other _ (by omega), fun h => cc.c0 (T 0 (by decide) h), fun h => cc.c1 (T 1 (by decide) h), by obtain ⟨c', k2, k3, k4⟩ := cc.c2; exact ⟨c', k2.set_other _ (by omega), k3, fun h6 => k4 (T 2 (by decide) h6)⟩, ⟨_, h2.set_same _, rfl, fun _ => rfl⟩⟩⟩
    · intro listed vs a' w' hd hF cc
      obtain ⟨c, h2, h3, h4⟩ := cc.c2
      obtain ⟨c', k2, k3, k4⟩ := cc.c3
      have hx4 : a'.eval (.tmp 4) = .pointer (some ⟨w.heap.size + 1 + 1, 0, none⟩) := (hF.old (by kernel_rfl)).trans rfl
      have hx5 : a'.eval (.tmp 5) = .pointer (some ⟨w.heap.size + 1 + 1 + 1, 0, none⟩) := (hF.old (by kernel_rfl)).trans rfl
      have hr := results_cell2 (P := Try.prog) (fn := Try.f8) rfl a' w' hx4 hx5 h2 k2 h3 k3 Try.underlying24 (by kernel_rfl) Try.underlying24 (by kernel_rfl)
      rw [h4 (hd 2 (by simp)), k4 (hd 3 (by simp))] at hr
      have HR : Hid _ := hr
      have HB : Hid _ := cc.bw
      have HD : Hid (a'.defers = []) := hF.1
      clear hr cc hF hx4 hx5 h2 h3 h4 k2 k3 k4
      go_wp2
      exact bodyPost_ret HR.out HD.out ⟨rfl, HB.out⟩

set_option maxRecDepth 100000 in
set_option maxHeartbeats 4000000 in
theorem rdiv_tf (a b x y q r nq nr : Nat)
    (hs1 : Hid (∀ w, Calls Try.prog 26 #[U a] w fun e w' => e = .returned (U x) ∧ Below w.heap.size w w'))
    (hs2 : Hid (∀ w, Calls Try.prog 26 #[U b] w fun e w' => e = .returned (U y) ∧ Below w.heap.size w w'))
    (hd : Hid (∀ w, Calls Try.prog 25 #[U x, U y] w fun e w' => e = .returned (.tuple #[U q, U r]) ∧ Below w.heap.size w w'))
    (ha : Hid (∀ w, Calls Try.prog 27 #[U a] w fun e w' => e = .returned (.bool true) ∧ Below w.heap.size w w'))
    (hb : Hid (∀ w, Calls Try.prog 27 #[U b] w fun e w' => e = .returned (.bool false) ∧ Below w.heap.size w w'))
    (hq : Hid (∀ w, Calls Try.prog 10 #[U q] w fun e w' => e = .returned (U nq) ∧ Below w.heap.size w w'))
    (hr : Hid (∀ w, Calls Try.prog 10 #[U r] w fun e w' => e = .returned (U nr) ∧ Below w.heap.size w w')) (w : World) :
    Calls Try.prog 8 #[U a, U b] w fun e w' => e = .returned (.tuple #[U nq, U nr]) ∧ Below w.heap.size w w' := by
  go_enter Try.func8, Try.ntmps8
  go_wp2_with fail
  refine name_world _ ?_
  intro wF hF0
  have RF0 : Hid (HasRow wF (w.heap.size) #[B (l0 a), B (l1 a), B (l2 a), B (l3 a)]) := by rw [hF0]; exact (HasRow.old (HasRow.old (HasRow.old (HasRow.last (by simp)))))
  have RF1 : Hid (HasRow wF (w.heap.size + 1) #[B (l0 b), B (l1 b), B (l2 b), B (l3 b)]) := by rw [hF0]; exact (HasRow.old (HasRow.old (HasRow.last (by simp))))
  have RF2 : Hid (HasRow wF (w.heap.size + 1 + 1) #[.int .u64 0, .int .u64 0, .int .u64 0, .int .u64 0]) := by rw [hF0]; exact (HasRow.old (HasRow.last (by simp)))
  have RF3 : Hid (HasRow wF (w.heap.size + 1 + 1 + 1) #[.int .u64 0, .int .u64 0, .int .u64 0, .int .u64 0]) := by rw [hF0]; exact (HasRow.last (by simp))
  have BF : Hid (Below w.heap.size w wF) := by rw [hF0]; exact (bel_alloc (bel_alloc (bel_alloc (bel_alloc (Below.refl _ _) _) _) _) _)
  clear hF0
  obtain ⟨N0, hN0⟩ : ∃ n, n = wF.heap.size := ⟨_, rfl⟩
  have qF0 : w.heap.size < N0 := by rw [hN0]; exact RF0.out.lt
  have qF1 : w.heap.size + 1 < N0 := by rw [hN0]; exact RF1.out.lt
  have qF2 : w.heap.size + 1 + 1 < N0 := by rw [hN0]; exact RF2.out.lt
  have qF3 : w.heap.size + 1 + 1 + 1 < N0 := by rw [hN0]; exact RF3.out.lt
  refine wp_region_vals2 (by kernel_rfl) (by kernel_rfl) (by kernel_rfl) (CSD w N0 a b x y q r) ?_ ?_ ?_
  · refine ⟨BF.out.drew, by rw [hN0]; exact Nat.le_refl _, RF0.out, RF1.out, RF2.out, RF3.out, ?_, ?_, ?_, ?_, ?_, ?_, ?_, ?_, ?_, ?_, ?_, ?_, ?_⟩ <;> (intro h; simp [Array.getD] at h)
  · intro listed vs a' w' i o' hs ho hi hF cc
    have hin : i < 12 := by have := (Array.getElem?_eq_some_iff.1 ho).1; simpa using this
    have hcase : i = 0 ∨ i = 1 ∨ i = 2 ∨ i = 3 ∨ i = 4 ∨ i = 5 ∨ i = 6 ∨ i = 7 ∨ i = 8 ∨ i = 9 ∨ i = 10 ∨ i = 11 := by omega
    rcases hcase with rfl | rfl | rfl | rfl | rfl | rfl | rfl | rfl | rfl | rfl | rfl | rfl
    · simp at ho
      subst ho
      have T : ∀ j, j ≠ 0 → (listed.setIfInBounds 0 true).getD j false = true → listed.getD j false = true := fun j hj h => (done_set h).resolve_left hj
      have S : ∀ j, listed.getD j false = true → (listed.setIfInBounds 0 true).getD j false = true := fun j h => done_keep h
      exact wp_rowF 24 (.tmp 2) rfl (w.heap.size) ((hF.old (by kernel_rfl)).trans rfl) cc.R0 rfl Try.underlying24 (by kernel_rfl) ⟨_, rfl, ⟨cc.bw, cc.ms, cc.R0, cc.R1, cc.R2, cc.R3, fun _ => rfl, fun h => cc.c1 (T 1 (by decide) h), fun h => cc.c2 (T 2 (by decide) h), fun h => cc.c3 (T 3 (by decide) h), fun h => cc.c4 (T 4 (by decide) h), fun h => cc.c5 (T 5 (by decide) h), fun h => cc.c6 (T 6 (by decide) h), fun h => cc.c7 (T 7 (by decide) h), fun h => by obtain ⟨g', c', e', k1, k2, k3, k4⟩ := cc.c8 (T 8 (by decide) h); exact ⟨g', c', e', k1, k2, k3, fun h6 => k4 (T 10 (by decide) h6)⟩, fun h => by obtain ⟨g', c', e', k1, k2, k3, k4⟩ := cc.c9 (T 9 (by decide) h); exact ⟨g', c', e', k1, k2, k3, fun h6 => k4 (T 11 (by decide) h6)⟩, fun h => S 8 (cc.c10 (T 10 (by decide) h)), fun h => S 9 (cc.c11 (T 11 (by decide) h)), fun h h' => cc.ne8_9 (T 8 (by decide) h) (T 9 (by decide) h')⟩⟩
    · simp at ho
      subst ho
      have T : ∀ j, j ≠ 1 → (listed.setIfInBounds 1 true).getD j false = true → listed.getD j false = true := fun j hj h => (done_set h).resolve_left hj
      have S : ∀ j, listed.getD j false = true → (listed.setIfInBounds 1 true).getD j false = true := fun j h => done_keep h
      have hv0 := ((hF.new (t := 9) (i := 0) (by kernel_rfl) (by simp) (waits_done (i := 1) (j := 0) (by kernel_rfl) hi)).trans (cc.c0 (waits_done (i := 1) (j := 0) (by kernel_rfl) hi)))
      refine wp_callF (f := 26) (args := #[U a]) (v := U x) (by simp [execOp_call_go, ev hv0, go_sem]) (hs1.out w') ?_
      intro w'' hb''
      exact ⟨_, rfl, ⟨cc.bw.trans (hb''.mono cc.bw.size), Nat.le_trans cc.ms hb''.size, cc.R0.below hb'', cc.R1.below hb'', cc.R2.below hb'', cc.R3.below hb'', fun h => cc.c0 (T 0 (by decide) h), fun _ => rfl, fun h => cc.c2 (T 2 (by decide) h), fun h => cc.c3 (T 3 (by decide) h), fun h => cc.c4 (T 4 (by decide) h), fun h => cc.c5 (T 5 (by decide) h), fun h => cc.c6 (T 6 (by decide) h), fun h => cc.c7 (T 7 (by decide) h), fun h => by obtain ⟨g', c', e', k1, k2, k3, k4⟩ := cc.c8 (T 8 (by decide) h); exact ⟨g', c', e', k1, k2.below hb'', k3, fun h6 => k4 (T 10 (by decide) h6)⟩, fun h => by obtain ⟨g', c', e', k1, k2, k3, k4⟩ := cc.c9 (T 9 (by decide) h); exact ⟨g', c', e', k1, k2.below hb'', k3, fun h6 => k4 (T 11 (by decide) h6)⟩, fun h => S 8 (cc.c10 (T 10 (by decide) h)), fun h => S 9 (cc.c11 (T 11 (by decide) h)), fun h h' => cc.ne8_9 (T 8 (by decide) h) (T 9 (by decide) h')⟩⟩
    · simp at ho
      subst ho
      have T : ∀ j, j ≠ 2 → (listed.setIfInBounds 2 true).getD j false = true → listed.getD j false = true := fun j hj h => (done_set h).resolve_left hj
      have S : ∀ j, listed.getD j false = true → (listed.setIfInBounds 2 true).getD j false = true := fun j h => done_keep h
      exact wp_rowF 24 (.tmp 3) rfl (w.heap.size + 1) ((hF.old (by kernel_rfl)).trans rfl) cc.R1 rfl Try.underlying24 (by kernel_rfl) ⟨_, rfl, ⟨cc.bw, cc.ms, cc.R0, cc.R1, cc.R2, cc.R3, fun h => cc.c0 (T 0 (by decide) h), fun h => cc.c1 (T 1 (by decide) h), fun _ => rfl, fun h => cc.c3 (T 3 (by decide) h), fun h => cc.c4 (T 4 (by decide) h), fun h => cc.c5 (T 5 (by decide) h), fun h => cc.c6 (T 6 (by decide) h), fun h => cc.c7 (T 7 (by decide) h), fun h => by obtain ⟨g', c', e', k1, k2, k3, k4⟩ := cc.c8 (T 8 (by decide) h); exact ⟨g', c', e', k1, k2, k3, fun h6 => k4 (T 10 (by decide) h6)⟩, fun h => by obtain ⟨g', c', e', k1, k2, k3, k4⟩ := cc.c9 (T 9 (by decide) h); exact ⟨g', c', e', k1, k2, k3, fun h6 => k4 (T 11 (by decide) h6)⟩, fun h => S 8 (cc.c10 (T 10 (by decide) h)), fun h => S 9 (cc.c11 (T 11 (by decide) h)), fun h h' => cc.ne8_9 (T 8 (by decide) h) (T 9 (by decide) h')⟩⟩
    · simp at ho
      subst ho
      have T : ∀ j, j ≠ 3 → (listed.setIfInBounds 3 true).getD j false = true → listed.getD j false = true := fun j hj h => (done_set h).resolve_left hj
      have S : ∀ j, listed.getD j false = true → (listed.setIfInBounds 3 true).getD j false = true := fun j h => done_keep h
      have hv0 := ((hF.new (t := 11) (i := 2) (by kernel_rfl) (by simp) (waits_done (i := 3) (j := 2) (by kernel_rfl) hi)).trans (cc.c2 (waits_done (i := 3) (j := 2) (by kernel_rfl) hi)))
      refine wp_callF (f := 26) (args := #[U b]) (v := U y) (by simp [execOp_call_go, ev hv0, go_sem]) (hs2.out w') ?_
      intro w'' hb''
      exact ⟨_, rfl, ⟨cc.bw.trans (hb''.mono cc.bw.size), Nat.le_trans cc.ms hb''.size, cc.R0.below hb'', cc.R1.below hb'', cc.R2.below hb'', cc.R3.below hb'', fun h => cc.c0 (T 0 (by decide) h), fun h => cc.c1 (T 1 (by decide) h), fun h => cc.c2 (T 2 (by decide) h), fun _ => rfl, fun h => cc.c4 (T 4 (by decide) h), fun h => cc.c5 (T 5 (by decide) h), fun h => cc.c6 (T 6 (by decide) h), fun h => cc.c7 (T 7 (by decide) h), fun h => by obtain ⟨g', c', e', k1, k2, k3, k4⟩ := cc.c8 (T 8 (by decide) h); exact ⟨g', c', e', k1, k2.below hb'', k3, fun h6 => k4 (T 10 (by decide) h6)⟩, fun h => by obtain ⟨g', c', e', k1, k2, k3, k4⟩ := cc.c9 (T 9 (by decide) h); exact ⟨g', c', e', k1, k2.below hb'', k3, fun h6 => k4 (T 11 (by decide) h6)⟩, fun h => S 8 (cc.c10 (T 10 (by decide) h)), fun h => S 9 (cc.c11 (T 11 (by decide) h)), fun h h' => cc.ne8_9 (T 8 (by decide) h) (T 9 (by decide) h')⟩⟩
    · simp at ho
      subst ho
      have T : ∀ j, j ≠ 4 → (listed.setIfInBounds 4 true).getD j false = true → listed.getD j false = true := fun j hj h => (done_set h).resolve_left hj
      have S : ∀ j, listed.getD j false = true → (listed.setIfInBounds 4 true).getD j false = true := fun j h => done_keep h
      have hv0 := ((hF.new (t := 10) (i := 1) (by kernel_rfl) (by simp) (waits_done (i := 4) (j := 1) (by kernel_rfl) hi)).trans (cc.c1 (waits_done (i := 4) (j := 1) (by kernel_rfl) hi)))
      have hv1 := ((hF.new (t := 12) (i := 3) (by kernel_rfl) (by simp) (waits_done (i := 4) (j := 3) (by kernel_rfl) hi)).trans (cc.c3 (waits_done (i := 4) (j := 3) (by kernel_rfl) hi)))
      refine wp_callF (f := 25) (args := #[U x, U y]) (v := .tuple #[U q, U r]) (by simp [execOp_call_go, ev hv0, ev hv1, go_sem]) (hd.out w') ?_
      intro w'' hb''
      exact ⟨_, rfl, ⟨cc.bw.trans (hb''.mono cc.bw.size), Nat.le_trans cc.ms hb''.size, cc.R0.below hb'', cc.R1.below hb'', cc.R2.below hb'', cc.R3.below hb'', fun h => cc.c0 (T 0 (by decide) h), fun h => cc.c1 (T 1 (by decide) h), fun h => cc.c2 (T 2 (by decide) h), fun h => cc.c3 (T 3 (by decide) h), fun _ => rfl, fun h => cc.c5 (T 5 (by decide) h), fun h => cc.c6 (T 6 (by decide) h), fun h => cc.c7 (T 7 (by decide) h), fun h => by obtain ⟨g', c', e', k1, k2, k3, k4⟩ := cc.c8 (T 8 (by decide) h); exact ⟨g', c', e', k1, k2.below hb'', k3, fun h6 => k4 (T 10 (by decide) h6)⟩, fun h => by obtain ⟨g', c', e', k1, k2, k3, k4⟩ := cc.c9 (T 9 (by decide) h); exact ⟨g', c', e', k1, k2.below hb'', k3, fun h6 => k4 (T 11 (by decide) h6)⟩, fun h => S 8 (cc.c10 (T 10 (by decide) h)), fun h => S 9 (cc.c11 (T 11 (by decide) h)), fun h h' => cc.ne8_9 (T 8 (by decide) h) (T 9 (by decide) h')⟩⟩
    · simp at ho
      subst ho
      have T : ∀ j, j ≠ 5 → (listed.setIfInBounds 5 true).getD j false = true → listed.getD j false = true := fun j hj h => (done_set h).resolve_left hj
      have S : ∀ j, listed.getD j false = true → (listed.setIfInBounds 5 true).getD j false = true := fun j h => done_keep h
      have hv := ((hF.new (t := 13) (i := 4) (by kernel_rfl) (by simp) (waits_done (i := 5) (j := 4) (by kernel_rfl) hi)).trans (cc.c4 (waits_done (i := 5) (j := 4) (by kernel_rfl) hi)))
      exact wp_valF (v := .tuple #[U q, U r]) (w1 := w') (by simp [execOp, go_sem, ev hv]) ⟨_, rfl, ⟨cc.bw, cc.ms, cc.R0, cc.R1, cc.R2, cc.R3, fun h => cc.c0 (T 0 (by decide) h), fun h => cc.c1 (T 1 (by decide) h), fun h => cc.c2 (T 2 (by decide) h), fun h => cc.c3 (T 3 (by decide) h), fun h => cc.c4 (T 4 (by decide) h), fun _ => rfl, fun h => cc.c6 (T 6 (by decide) h), fun h => cc.c7 (T 7 (by decide) h), fun h => by obtain ⟨g', c', e', k1, k2, k3, k4⟩ := cc.c8 (T 8 (by decide) h); exact ⟨g', c', e', k1, k2, k3, fun h6 => k4 (T 10 (by decide) h6)⟩, fun h => by obtain ⟨g', c', e', k1, k2, k3, k4⟩ := cc.c9 (T 9 (by decide) h); exact ⟨g', c', e', k1, k2, k3, fun h6 => k4 (T 11 (by decide) h6)⟩, fun h => S 8 (cc.c10 (T 10 (by decide) h)), fun h => S 9 (cc.c11 (T 11 (by decide) h)), fun h h' => cc.ne8_9 (T 8 (by decide) h) (T 9 (by decide) h')⟩⟩
    · simp at ho
      subst ho
      have T : ∀ j, j ≠ 6 → (listed.setIfInBounds 6 true).getD j false = true → listed.getD j false = true := fun j hj h => (done_set h).resolve_left hj
      have S : ∀ j, listed.getD j false = true → (listed.setIfInBounds 6 true).getD j false = true := fun j h => done_keep h
      have hv := ((hF.new (t := 8) (i := 5) (by kernel_rfl) (by simp) (waits_done (i := 6) (j := 5) (by kernel_rfl) hi)).trans (cc.c5 (waits_done (i := 6) (j := 5) (by kernel_rfl) hi)))
      exact wp_valF (v := U q) (w1 := w') (by simp [execOp, go_sem, ev hv]) ⟨_, rfl, ⟨cc.bw, cc.ms, cc.R0, cc.R1, cc.R2, cc.R3, fun h => cc.c0 (T 0 (by decide) h), fun h => cc.c1 (T 1 (by decide) h), fun h => cc.c2 (T 2 (by decide) h), fun h => cc.c3 (T 3 (by decide) h), fun h => cc.c4 (T 4 (by decide) h), fun h => cc.c5 (T 5 (by decide) h), fun _ => rfl, fun h => cc.c7 (T 7 (by decide) h), fun h => by obtain ⟨g', c', e', k1, k2, k3, k4⟩ := cc.c8 (T 8 (by decide) h); exact ⟨g', c', e', k1, k2, k3, fun h6 => k4 (T 10 (by decide) h6)⟩, fun h => by obtain ⟨g', c', e', k1, k2, k3, k4⟩ := cc.c9 (T 9 (by decide) h); exact ⟨g', c', e', k1, k2, k3, fun h6 => k4 (T 11 (by decide) h6)⟩, fun h => S 8 (cc.c10 (T 10 (by decide) h)), fun h => S 9 (cc.c11 (T 11 (by decide) h)), fun h h' => cc.ne8_9 (T 8 (by decide) h) (T 9 (by decide) h')⟩⟩
    · simp at ho
      subst ho
      have T : ∀ j, j ≠ 7 → (listed.setIfInBounds 7 true).getD j false = true → listed.getD j false = true := fun j hj h => (done_set h).resolve_left hj
      have S : ∀ j, listed.getD j false = true → (listed.setIfInBounds 7 true).getD j false = true := fun j h => done_keep h
      have hv := ((hF.new (t := 8) (i := 5) (by kernel_rfl) (by simp) (waits_done (i := 7) (j := 5) (by kernel_rfl) hi)).trans (cc.c5 (waits_done (i := 7) (j := 5) (by kernel_rfl) hi)))
      exact wp_valF (v := U r) (w1 := w') (by simp [execOp, go_sem, ev hv]) ⟨_, rfl, ⟨cc.bw, cc.ms, cc.R0, cc.R1, cc.R2, cc.R3, fun h => cc.c0 (T 0 (by decide) h), fun h => cc.c1 (T 1 (by decide) h), fun h => cc.c2 (T 2 (by decide) h), fun h => cc.c3 (T 3 (by decide) h), fun h => cc.c4 (T 4 (by decide) h), fun h => cc.c5 (T 5 (by decide) h), fun h => cc.c6 (T 6 (by decide) h), fun _ => rfl, fun h => by obtain ⟨g', c', e', k1, k2, k3, k4⟩ := cc.c8 (T 8 (by decide) h); exact ⟨g', c', e', k1, k2, k3, fun h6 => k4 (T 10 (by decide) h6)⟩, fun h => by obtain ⟨g', c', e', k1, k2, k3, k4⟩ := cc.c9 (T 9 (by decide) h); exact ⟨g', c', e', k1, k2, k3, fun h6 => k4 (T 11 (by decide) h6)⟩, fun h => S 8 (cc.c10 (T 10 (by decide) h)), fun h => S 9 (cc.c11 (T 11 (by decide) h)), fun h h' => cc.ne8_9 (T 8 (by decide) h) (T 9 (by decide) h')⟩⟩
    · simp at ho
      subst ho
      have T : ∀ j, j ≠ 8 → (listed.setIfInBounds 8 true).getD j false = true → listed.getD j false = true := fun j hj h => (done_set h).resolve_left hj
      have S : ∀ j, listed.getD j false = true → (listed.setIfInBounds 8 true).getD j false = true := fun j h => done_keep h
      have hun : ¬ listed.getD 8 false = true := fun h => undone hi hs h
      exact wp_valF (v := .pointer (some ⟨w'.heap.size, 0, none⟩)) (w1 := w'.alloc (.cells #[.int .u64 0, .int .u64 0, .int .u64 0, .int .u64 0] 24)) (by simp [execOp, go_sem]) ⟨_, rfl, ⟨bel_alloc cc.bw _, by have := cc.ms; simp; omega, cc.R0.old, cc.R1.old, cc.R2.old, cc.R3.old, fun h => cc.c0 (T 0 (by decide) h), fun h => cc.c1 (T 1 (by decide) h), fun h => cc.c2 (T 2 (by decide) h), fun h => cc.c3 (T 3 (by decide) h), fun h => cc.c4 (T 4 (by decide) h), fun h => cc.c5 (T 5 (by decide) h), fun h => cc.c6 (T 6 (by decide) h), fun h => cc.c7 (T 7 (by decide) h), fun _ => ⟨w'.heap.size, #[.int .u64 0, .int .u64 0, .int .u64 0, .int .u64 0], rfl, cc.ms, HasRow.last rfl, rfl, fun h6 => absurd (cc.c10 (T 10 (by decide) h6)) hun⟩, fun h => by obtain ⟨g', c', e', k1, k2, k3, k4⟩ := cc.c9 (T 9 (by decide) h); exact ⟨g', c', e', k1, k2.old, k3, fun h6 => k4 (T 11 (by decide) h6)⟩, fun h => S 8 (cc.c10 (T 10 (by decide) h)), fun h => S 9 (cc.c11 (T 11 (by decide) h)), fun _ h => by obtain ⟨g', c', e', k1, k2, k3, k4⟩ := cc.c9 (T 9 (by decide) h); have := k2.lt; show Value.pointer (some ⟨w'.heap.size, 0, none⟩) ≠ vs 9; rw [e']; intro q; simp at q; try omega⟩⟩
    · simp at ho
      subst ho
      have T : ∀ j, j ≠ 9 → (listed.setIfInBounds 9 true).getD j false = true → listed.getD j false = true := fun j hj h => (done_set h).resolve_left hj
      have S : ∀ j, listed.getD j false = true → (listed.setIfInBounds 9 true).getD j false = true := fun j h => done_keep h
      have hun : ¬ listed.getD 9 false = true := fun h => undone hi hs h
      exact wp_valF (v := .pointer (some ⟨w'.heap.size, 0, none⟩)) (w1 := w'.alloc (.cells #[.int .u64 0, .int .u64 0, .int .u64 0, .int .u64 0] 24)) (by simp [execOp, go_sem]) ⟨_, rfl, ⟨bel_alloc cc.bw _, by have := cc.ms; simp; omega, cc.R0.old, cc.R1.old, cc.R2.old, cc.R3.old, fun h => cc.c0 (T 0 (by decide) h), fun h => cc.c1 (T 1 (by decide) h), fun h => cc.c2 (T 2 (by decide) h), fun h => cc.c3 (T 3 (by decide) h), fun h => cc.c4 (T 4 (by decide) h), fun h => cc.c5 (T 5 (by decide) h), fun h => cc.c6 (T 6 (by decide) h), fun h => cc.c7 (T 7 (by decide) h), fun h => by obtain ⟨g', c', e', k1, k2, k3, k4⟩ := cc.c8 (T 8 (by decide) h); exact ⟨g', c', e', k1, k2.old, k3, fun h6 => k4 (T 10 (by decide) h6)⟩, fun _ => ⟨w'.heap.size, #[.int .u64 0, .int .u64 0, .int .u64 0, .int .u64 0], rfl, cc.ms, HasRow.last rfl, rfl, fun h6 => absurd (cc.c11 (T 11 (by decide) h6)) hun⟩, fun h => S 8 (cc.c10 (T 10 (by decide) h)), fun h => S 9 (cc.c11 (T 11 (by decide) h)), fun h _ => by obtain ⟨g', c', e', k1, k2, k3, k4⟩ := cc.c8 (T 8 (by decide) h); have := k2.lt; show vs 8 ≠ Value.pointer (some ⟨w'.heap.size, 0, none⟩); rw [e']; intro q; simp at q; try omega⟩⟩
    · simp at ho
      subst ho
      have T : ∀ j, j ≠ 10 → (listed.setIfInBounds 10 true).getD j false = true → listed.getD j false = true := fun j hj h => (done_set h).resolve_left hj
      have S : ∀ j, listed.getD j false = true → (listed.setIfInBounds 10 true).getD j false = true := fun j h => done_keep h
      have d4 := (waits_done (i := 10) (j := 8) (by kernel_rfl) hi)
      obtain ⟨g, c, e, h1, h2, h3, h4⟩ := cc.c8 d4
      have hx := (hF.new (t := 6) (i := 8) (by kernel_rfl) (by simp) d4).trans e
      have hv := ((hF.new (t := 14) (i := 6) (by kernel_rfl) (by simp) (waits_done (i := 10) (j := 6) (by kernel_rfl) hi)).trans (cc.c6 (waits_done (i := 10) (j := 6) (by kernel_rfl) hi)))
      exact wp_rowS 24 (.tmp 6) (.tmp 14) rfl g (c' := #[B (l0 q), B (l1 q), B (l2 q), B (l3 q)]) hx hv h2 h3 rfl (by simp [Value.oneCell']) (by kernel_rfl) ⟨_, rfl, ⟨below_setRow cc.bw (by omega) _, by rw [size_setRow]; exact cc.ms, cc.R0.set_other _ (by omega), cc.R1.set_other _ (by omega), cc.R2.set_other _ (by omega), cc.R3.set_other _ (by omega), fun h => cc.c0 (T 0 (by decide) h), fun h => cc.c1 (T 1 (by decide) h), fun h => cc.c2 (T 2 (by decide) h), fun h => cc.c3 (T 3 (by decide) h), fun h => cc.c4 (T 4 (by decide) h), fun h => cc.c5 (T 5 (by decide) h), fun h => cc.c6 (T 6 (by decide) h), fun h => cc.c7 (T 7 (by decide) h), fun h => ⟨g, _, e, h1, h2.set_same _, rfl, fun _ => rfl⟩, fun h => by obtain ⟨g', c', e', k1, k2, k3, k4⟩ := cc.c9 (T 9 (by decide) h); exact ⟨g', c', e', k1, k2.set_other _ (by rintro rfl; exact cc.ne8_9 d4 (T 9 (by decide) h) (by rw [e, e'])), k3, fun h6 => k4 (T 11 (by decide) h6)⟩, fun _ => S 8 d4, fun h => S 9 (cc.c11 (T 11 (by decide) h)), fun h h' => cc.ne8_9 (T 8 (by decide) h) (T 9 (by decide) h')⟩⟩
    · simp at ho
      subst ho
      have T : ∀ j, j ≠ 11 → (listed.setIfInBounds 11 true).getD j false = true → listed.getD j false = true := fun j hj h => (done_set h).resolve_left hj
      have S : ∀ j, listed.getD j false = true → (listed.setIfInBounds 11 true).getD j false = true := fun j h => done_keep h
      have d4 := (waits_done (i := 11) (j := 9) (by kernel_rfl) hi)
      obtain ⟨g, c, e, h1, h2, h3, h4⟩ := cc.c9 d4
      have hx := (hF.new (t := 7) (i := 9) (by kernel_rfl) (by simp) d4).trans e
      have hv := ((hF.new (t := 15) (i := 7) (by kernel_rfl) (by simp) (waits_done (i := 11) (j := 7) (by kernel_rfl) hi)).trans (cc.c7 (waits_done (i := 11) (j := 7) (by kernel_rfl) hi)))
      exact wp_rowS 24 (.tmp 7) (.tmp 15) rfl g (c' := #[B (l0 r), B (l1 r), B (l2 r), B (l3 r)]) hx hv h2 h3 rfl (by simp [Value.oneCell']) (by kernel_rfl) ⟨_, rfl, ⟨below_setRow cc.bw (by omega) _, by rw [size_setRow]; exact cc.ms, cc.R0.set_other _ (by omega), cc.R1.set_other _ (by omega), cc.R2.set_other _ (by omega), cc.R3.set_other _ (by omega), fun h => cc.c0 (T 0 (by decide) h), fun h => cc.c1 (T 1 (by decide) h), fun h => cc.c2 (T 2 (by decide) h), fun h => cc.c3 (T 3 (by decide) h), fun h => cc.c4 (T 4 (by decide) h), fun h => cc.c5 (T 5 (by decide) h), fun h => cc.c6 (T 6 (by decide) h), fun h => cc.c7 (T 7 (by decide) h), fun h => by obtain ⟨g', c', e', k1, k2, k3, k4⟩ := cc.c8 (T 8 (by decide) h); exact ⟨g', c', e', k1, k2.set_other _ (by rintro rfl; exact cc.ne8_9 (T 8 (by decide) h) d4 (by rw [e, e'])), k3, fun h6 => k4 (T 10 (by decide) h6)⟩, fun h => ⟨g, _, e, h1, h2.set_same _, rfl, fun _ => rfl⟩, fun h => S 8 (cc.c10 (T 10 (by decide) h)), fun _ => S 9 d4, fun h h' => cc.ne8_9 (T 8 (by decide) h) (T 9 (by decide) h')⟩⟩
  · intro listed vs a' w1 hd hF cc
    have e : a' = ({ tmps := #[U a, U b, .pointer (some ⟨w.heap.size, 0, none⟩), .pointer (some ⟨w.heap.size + 1, 0, none⟩), .pointer (some ⟨w.heap.size + 1 + 1, 0, none⟩), .pointer (some ⟨w.heap.size + 1 + 1 + 1, 0, none⟩), vs 8, vs 9, vs 5, vs 0, vs 1, vs 2, vs 3, vs 4, vs 6, vs 7, undef, undef, undef, undef, undef, undef, undef, undef, undef, undef, undef, undef, undef], defers := [] } : Act) := (hF.all hd).trans (by kernel_rfl)
    subst e
    obtain ⟨g8, cx, e8, h18, h2, h3, h4⟩ := cc.c8 (hd 8 (by simp))
    rw [h4 (hd 10 (by simp))] at h2
    have RX8 : Hid (HasRow w1 g8 #[B (l0 q), B (l1 q), B (l2 q), B (l3 q)]) := h2
    clear h2 h3 h4
    obtain ⟨g9, cx, e9, h19, h2, h3, h4⟩ := cc.c9 (hd 9 (by simp))
    rw [h4 (hd 11 (by simp))] at h2
    have RX9 : Hid (HasRow w1 g9 #[B (l0 r), B (l1 r), B (l2 r), B (l3 r)]) := h2
    clear h2 h3 h4
    have ne8_9 : g8 ≠ g9 := fun h => cc.ne8_9 (hd 8 (by simp)) (hd 9 (by simp)) (by rw [e8, e9, h])
    have R0_1 : Hid (HasRow w1 (w.heap.size) #[B (l0 a), B (l1 a), B (l2 a), B (l3 a)]) := cc.R0
    have R1_1 : Hid (HasRow w1 (w.heap.size + 1) #[B (l0 b), B (l1 b), B (l2 b), B (l3 b)]) := cc.R1
    have R2_1 : Hid (HasRow w1 (w.heap.size + 1 + 1) #[.int .u64 0, .int .u64 0, .int .u64 0, .int .u64 0]) := cc.R2
    have R3_1 : Hid (HasRow w1 (w.heap.size + 1 + 1 + 1) #[.int .u64 0, .int .u64 0, .int .u64 0, .int .u64 0]) := cc.R3
    have B1 : Hid (Below w.heap.size w w1) := cc.bw
    rw [e8, e9]
    clear cc hd hF BF e8 e9 RF0 RF1 RF2 RF3
    have R4_1 : Hid (HasRow w1 g8 #[B (l0 q), B (l1 q), B (l2 q), B (l3 q)]) := RX8
    clear RX8
    have R5_1 : Hid (HasRow w1 g9 #[B (l0 r), B (l1 r), B (l2 r), B (l3 r)]) := RX9
    clear RX9
    have q0_1 := R0_1.out.lt
    have q1_1 := R1_1.out.lt
    have q2_1 := R2_1.out.lt
    have q3_1 := R3_1.out.lt
    have q4_1 := R4_1.out.lt
    have q5_1 := R5_1.out.lt
    have c0_0_1 : w1.cell? ⟨w.heap.size, 0, none⟩ = some (B (l0 a)) := R0_1.out.cell 0
    have c0_1_1 : w1.cell? ⟨w.heap.size, 1, none⟩ = some (B (l1 a)) := R0_1.out.cell 1
    have c0_2_1 : w1.cell? ⟨w.heap.size, 2, none⟩ = some (B (l2 a)) := R0_1.out.cell 2
    have c0_3_1 : w1.cell? ⟨w.heap.size, 3, none⟩ = some (B (l3 a)) := R0_1.out.cell 3
    have c1_0_1 : w1.cell? ⟨w.heap.size + 1, 0, none⟩ = some (B (l0 b)) := R1_1.out.cell 0
    have c1_1_1 : w1.cell? ⟨w.heap.size + 1, 1, none⟩ = some (B (l1 b)) := R1_1.out.cell 1
    have c1_2_1 : w1.cell? ⟨w.heap.size + 1, 2, none⟩ = some (B (l2 b)) := R1_1.out.cell 2
    have c1_3_1 : w1.cell? ⟨w.heap.size + 1, 3, none⟩ = some (B (l3 b)) := R1_1.out.cell 3
    go_wp2_with fail
    refine name_world _ ?_
    intro wF hF
    have RF0 : Hid (HasRow wF (w.heap.size) #[B (l0 a), B (l1 a), B (l2 a), B (l3 a)]) := by rw [hF]; exact R0_1.out
    have RF1 : Hid (HasRow wF (w.heap.size + 1) #[B (l0 b), B (l1 b), B (l2 b), B (l3 b)]) := by rw [hF]; exact R1_1.out
    have RF2 : Hid (HasRow wF (w.heap.size + 1 + 1) #[.int .u64 0, .int .u64 0, .int .u64 0, .int .u64 0]) := by rw [hF]; exact R2_1.out
    have RF3 : Hid (HasRow wF (w.heap.size + 1 + 1 + 1) #[.int .u64 0, .int .u64 0, .int .u64 0, .int .u64 0]) := by rw [hF]; exact R3_1.out
    have RF4 : Hid (HasRow wF (g8) #[B (l0 q), B (l1 q), B (l2 q), B (l3 q)]) := by rw [hF]; exact R4_1.out
    have RF5 : Hid (HasRow wF (g9) #[B (l0 r), B (l1 r), B (l2 r), B (l3 r)]) := by rw [hF]; exact R5_1.out
    have BF : Hid (Below w.heap.size w wF) := by rw [hF]; exact B1.out
    clear hF
    clear q0_1 q1_1 q2_1 q3_1 q4_1 q5_1 c0_0_1 c0_1_1 c0_2_1 c0_3_1 c1_0_1 c1_1_1 c1_2_1 c1_3_1
    clear B1 R0_1 R1_1 R2_1 R3_1 R4_1 R5_1
    have d0_0 : wF.cell? ⟨w.heap.size, 0, none⟩ = some (B (l0 a)) := RF0.out.cell 0
    replace d0_0 := cell_regrown d0_0
    have d0_1 : wF.cell? ⟨w.heap.size, 1, none⟩ = some (B (l1 a)) := RF0.out.cell 1
    replace d0_1 := cell_regrown d0_1
    have d0_2 : wF.cell? ⟨w.heap.size, 2, none⟩ = some (B (l2 a)) := RF0.out.cell 2
    replace d0_2 := cell_regrown d0_2
    have d0_3 : wF.cell? ⟨w.heap.size, 3, none⟩ = some (B (l3 a)) := RF0.out.cell 3
    replace d0_3 := cell_regrown d0_3
    have d1_0 : wF.cell? ⟨w.heap.size + 1, 0, none⟩ = some (B (l0 b)) := RF1.out.cell 0
    replace d1_0 := cell_regrown d1_0
    have d1_1 : wF.cell? ⟨w.heap.size + 1, 1, none⟩ = some (B (l1 b)) := RF1.out.cell 1
    replace d1_1 := cell_regrown d1_1
    have d1_2 : wF.cell? ⟨w.heap.size + 1, 2, none⟩ = some (B (l2 b)) := RF1.out.cell 2
    replace d1_2 := cell_regrown d1_2
    have d1_3 : wF.cell? ⟨w.heap.size + 1, 3, none⟩ = some (B (l3 b)) := RF1.out.cell 3
    replace d1_3 := cell_regrown d1_3
    refine wp_region_quiet_below (by kernel_rfl) (by kernel_rfl) ?_
    repeat (go_big_quiet_step (fail))
    go_big_quiet_step ((exact Calls.regrown_of (ha.out _)))
    repeat (go_big_quiet_step (fail))
    go_big_quiet_step ((exact Calls.regrown_of (hb.out _)))
    repeat (go_big_quiet_step (fail))
    refine wpQuiet_nil ?_
    intro w2 hw'
    have hb2 : Below wF.heap.size wF w2 := by obtain ⟨p, rfl⟩ := hw'; exact below_regrown _ _ _
    clear hw'
    clear d0_0 d0_1 d0_2 d0_3
    clear d1_0 d1_1 d1_2 d1_3
    have R0_2 : Hid (HasRow w2 (w.heap.size) #[B (l0 a), B (l1 a), B (l2 a), B (l3 a)]) := RF0.out.below hb2
    have R1_2 : Hid (HasRow w2 (w.heap.size + 1) #[B (l0 b), B (l1 b), B (l2 b), B (l3 b)]) := RF1.out.below hb2
    have R2_2 : Hid (HasRow w2 (w.heap.size + 1 + 1) #[.int .u64 0, .int .u64 0, .int .u64 0, .int .u64 0]) := RF2.out.below hb2
    have R3_2 : Hid (HasRow w2 (w.heap.size + 1 + 1 + 1) #[.int .u64 0, .int .u64 0, .int .u64 0, .int .u64 0]) := RF3.out.below hb2
    have R4_2 : Hid (HasRow w2 (g8) #[B (l0 q), B (l1 q), B (l2 q), B (l3 q)]) := RF4.out.below hb2
    have R5_2 : Hid (HasRow w2 (g9) #[B (l0 r), B (l1 r), B (l2 r), B (l3 r)]) := RF5.out.below hb2
    have B2 : Hid (Below w.heap.size w w2) := bel_call BF.out hb2
    clear hb2 BF RF0 RF1 RF2 RF3 RF4 RF5
    clear wF
    have q0_2 := R0_2.out.lt
    have q1_2 := R1_2.out.lt
    have q2_2 := R2_2.out.lt
    have q3_2 := R3_2.out.lt
    have q4_2 := R4_2.out.lt
    have q5_2 := R5_2.out.lt
    have c4_0_2 : w2.cell? ⟨g8, 0, none⟩ = some (B (l0 q)) := R4_2.out.cell 0
    have c4_1_2 : w2.cell? ⟨g8, 1, none⟩ = some (B (l1 q)) := R4_2.out.cell 1
    have c4_2_2 : w2.cell? ⟨g8, 2, none⟩ = some (B (l2 q)) := R4_2.out.cell 2
    have c4_3_2 : w2.cell? ⟨g8, 3, none⟩ = some (B (l3 q)) := R4_2.out.cell 3
    have z4_0_2 := R4_2.out.frozen 0
    have z4_1_2 := R4_2.out.frozen 1
    have z4_2_2 := R4_2.out.frozen 2
    have z4_3_2 := R4_2.out.frozen 3
    go_wp2_with fail
    refine (hq.out _).mono ?_
    rintro e w3 ⟨rfl, hb3⟩
    have R0_3 : Hid (HasRow w3 (w.heap.size) #[B (l0 a), B (l1 a), B (l2 a), B (l3 a)]) := R0_2.out.below hb3
    have R1_3 : Hid (HasRow w3 (w.heap.size + 1) #[B (l0 b), B (l1 b), B (l2 b), B (l3 b)]) := R1_2.out.below hb3
    have R2_3 : Hid (HasRow w3 (w.heap.size + 1 + 1) #[.int .u64 0, .int .u64 0, .int .u64 0, .int .u64 0]) := R2_2.out.below hb3
    have R3_3 : Hid (HasRow w3 (w.heap.size + 1 + 1 + 1) #[.int .u64 0, .int .u64 0, .int .u64 0, .int .u64 0]) := R3_2.out.below hb3
    have R4_3 : Hid (HasRow w3 (g8) #[B (l0 q), B (l1 q), B (l2 q), B (l3 q)]) := R4_2.out.below hb3
    have R5_3 : Hid (HasRow w3 (g9) #[B (l0 r), B (l1 r), B (l2 r), B (l3 r)]) := R5_2.out.below hb3
    have B3 : Hid (Below w.heap.size w w3) := bel_call B2.out hb3
    clear hb3
    clear q0_2 q1_2 q2_2 q3_2 q4_2 q5_2 c4_0_2 c4_1_2 c4_2_2 c4_3_2 z4_0_2 z4_1_2 z4_2_2 z4_3_2
    have q0_3 := R0_3.out.lt
    have q1_3 := R1_3.out.lt
    have q2_3 := R2_3.out.lt
    have q3_3 := R3_3.out.lt
    have q4_3 := R4_3.out.lt
    have q5_3 := R5_3.out.lt
    have c4_0_3 : w3.cell? ⟨g8, 0, none⟩ = some (B (l0 q)) := R4_3.out.cell 0
    have c4_1_3 : w3.cell? ⟨g8, 1, none⟩ = some (B (l1 q)) := R4_3.out.cell 1
    have c4_2_3 : w3.cell? ⟨g8, 2, none⟩ = some (B (l2 q)) := R4_3.out.cell 2
    have c4_3_3 : w3.cell? ⟨g8, 3, none⟩ = some (B (l3 q)) := R4_3.out.cell 3
    have z4_0_3 := R4_3.out.frozen 0
    have z4_1_3 := R4_3.out.frozen 1
    have z4_2_3 := R4_3.out.frozen 2
    have z4_3_3 := R4_3.out.frozen 3
    go_upto_region 4 with fail
    refine name_world _ ?_
    intro w4 hF
    rw [set4 R4_3.out rfl] at hF
    have R0_4 : Hid (HasRow w4 (w.heap.size) #[B (l0 a), B (l1 a), B (l2 a), B (l3 a)]) := by rw [hF]; exact (R0_3.out.set_other _ (by omega))
    have R1_4 : Hid (HasRow w4 (w.heap.size + 1) #[B (l0 b), B (l1 b), B (l2 b), B (l3 b)]) := by rw [hF]; exact (R1_3.out.set_other _ (by omega))
    have R2_4 : Hid (HasRow w4 (w.heap.size + 1 + 1) #[.int .u64 0, .int .u64 0, .int .u64 0, .int .u64 0]) := by rw [hF]; exact (R2_3.out.set_other _ (by omega))
    have R3_4 : Hid (HasRow w4 (w.heap.size + 1 + 1 + 1) #[.int .u64 0, .int .u64 0, .int .u64 0, .int .u64 0]) := by rw [hF]; exact (R3_3.out.set_other _ (by omega))
    have R4_4 : Hid (HasRow w4 (g8) #[B (l0 nq), B (l1 nq), B (l2 nq), B (l3 nq)]) := by rw [hF]; exact (R4_3.out.set_same _)
    have R5_4 : Hid (HasRow w4 (g9) #[B (l0 r), B (l1 r), B (l2 r), B (l3 r)]) := by rw [hF]; exact (R5_3.out.set_other _ (by omega))
    have B4 : Hid (Below w.heap.size w w4) := by rw [hF]; exact (below_setRow B3.out (by omega) _)
    clear hF
    clear q0_3 q1_3 q2_3 q3_3 q4_3 q5_3 c4_0_3 c4_1_3 c4_2_3 c4_3_3 z4_0_3 z4_1_3 z4_2_3 z4_3_3
    clear B3 R0_3 R1_3 R2_3 R3_3 R4_3 R5_3
    have q0_4 := R0_4.out.lt
    have q1_4 := R1_4.out.lt
    have q2_4 := R2_4.out.lt
    have q3_4 := R3_4.out.lt
    have q4_4 := R4_4.out.lt
    have q5_4 := R5_4.out.lt
    have c0_0_4 : w4.cell? ⟨w.heap.size, 0, none⟩ = some (B (l0 a)) := R0_4.out.cell 0
    have c0_1_4 : w4.cell? ⟨w.heap.size, 1, none⟩ = some (B (l1 a)) := R0_4.out.cell 1
    have c0_2_4 : w4.cell? ⟨w.heap.size, 2, none⟩ = some (B (l2 a)) := R0_4.out.cell 2
    have c0_3_4 : w4.cell? ⟨w.heap.size, 3, none⟩ = some (B (l3 a)) := R0_4.out.cell 3
    go_wp2_with fail
    refine (ha.out _).mono ?_
    rintro e w5 ⟨rfl, hb5⟩
    have R0_5 : Hid (HasRow w5 (w.heap.size) #[B (l0 a), B (l1 a), B (l2 a), B (l3 a)]) := R0_4.out.below hb5
    have R1_5 : Hid (HasRow w5 (w.heap.size + 1) #[B (l0 b), B (l1 b), B (l2 b), B (l3 b)]) := R1_4.out.below hb5
    have R2_5 : Hid (HasRow w5 (w.heap.size + 1 + 1) #[.int .u64 0, .int .u64 0, .int .u64 0, .int .u64 0]) := R2_4.out.below hb5
    have R3_5 : Hid (HasRow w5 (w.heap.size + 1 + 1 + 1) #[.int .u64 0, .int .u64 0, .int .u64 0, .int .u64 0]) := R3_4.out.below hb5
    have R4_5 : Hid (HasRow w5 (g8) #[B (l0 nq), B (l1 nq), B (l2 nq), B (l3 nq)]) := R4_4.out.below hb5
    have R5_5 : Hid (HasRow w5 (g9) #[B (l0 r), B (l1 r), B (l2 r), B (l3 r)]) := R5_4.out.below hb5
    have B5 : Hid (Below w.heap.size w w5) := bel_call B4.out hb5
    clear hb5
    clear q0_4 q1_4 q2_4 q3_4 q4_4 q5_4 c0_0_4 c0_1_4 c0_2_4 c0_3_4
    have q0_5 := R0_5.out.lt
    have q1_5 := R1_5.out.lt
    have q2_5 := R2_5.out.lt
    have q3_5 := R3_5.out.lt
    have q4_5 := R4_5.out.lt
    have q5_5 := R5_5.out.lt
    have c5_0_5 : w5.cell? ⟨g9, 0, none⟩ = some (B (l0 r)) := R5_5.out.cell 0
    have c5_1_5 : w5.cell? ⟨g9, 1, none⟩ = some (B (l1 r)) := R5_5.out.cell 1
    have c5_2_5 : w5.cell? ⟨g9, 2, none⟩ = some (B (l2 r)) := R5_5.out.cell 2
    have c5_3_5 : w5.cell? ⟨g9, 3, none⟩ = some (B (l3 r)) := R5_5.out.cell 3
    go_wp2_with fail
    refine (hr.out _).mono ?_
    rintro e w6 ⟨rfl, hb6⟩
    have R0_6 : Hid (HasRow w6 (w.heap.size) #[B (l0 a), B (l1 a), B (l2 a), B (l3 a)]) := R0_5.out.below hb6
    have R1_6 : Hid (HasRow w6 (w.heap.size + 1) #[B (l0 b), B (l1 b), B (l2 b), B (l3 b)]) := R1_5.out.below hb6
    have R2_6 : Hid (HasRow w6 (w.heap.size + 1 + 1) #[.int .u64 0, .int .u64 0, .int .u64 0, .int .u64 0]) := R2_5.out.below hb6
    have R3_6 : Hid (HasRow w6 (w.heap.size + 1 + 1 + 1) #[.int .u64 0, .int .u64 0, .int .u64 0, .int .u64 0]) := R3_5.out.below hb6
    have R4_6 : Hid (HasRow w6 (g8) #[B (l0 nq), B (l1 nq), B (l2 nq), B (l3 nq)]) := R4_5.out.below hb6
    have R5_6 : Hid (HasRow w6 (g9) #[B (l0 r), B (l1 r), B (l2 r), B (l3 r)]) := R5_5.out.below hb6
    have B6 : Hid (Below w.heap.size w w6) := bel_call B5.out hb6
    clear hb6
    clear q0_5 q1_5 q2_5 q3_5 q4_5 q5_5 c5_0_5 c5_1_5 c5_2_5 c5_3_5
    have q0_6 := R0_6.out.lt
    have q1_6 := R1_6.out.lt
    have q2_6 := R2_6.out.lt
    have q3_6 := R3_6.out.lt
    have q4_6 := R4_6.out.lt
    have q5_6 := R5_6.out.lt
    have c5_0_6 : w6.cell? ⟨g9, 0, none⟩ = some (B (l0 r)) := R5_6.out.cell 0
    have c5_1_6 : w6.cell? ⟨g9, 1, none⟩ = some (B (l1 r)) := R5_6.out.cell 1
    have c5_2_6 : w6.cell? ⟨g9, 2, none⟩ = some (B (l2 r)) := R5_6.out.cell 2
    have c5_3_6 : w6.cell? ⟨g9, 3, none⟩ = some (B (l3 r)) := R5_6.out.cell 3
    have z5_0_6 := R5_6.out.frozen 0
    have z5_1_6 := R5_6.out.frozen 1
    have z5_2_6 := R5_6.out.frozen 2
    have z5_3_6 := R5_6.out.frozen 3
    go_upto_region 6 with fail
    refine name_world _ ?_
    intro w7 hF
    rw [set4 R5_6.out rfl] at hF
    have R0_7 : Hid (HasRow w7 (w.heap.size) #[B (l0 a), B (l1 a), B (l2 a), B (l3 a)]) := by rw [hF]; exact (R0_6.out.set_other _ (by omega))
    have R1_7 : Hid (HasRow w7 (w.heap.size + 1) #[B (l0 b), B (l1 b), B (l2 b), B (l3 b)]) := by rw [hF]; exact (R1_6.out.set_other _ (by omega))
    have R2_7 : Hid (HasRow w7 (w.heap.size + 1 + 1) #[.int .u64 0, .int .u64 0, .int .u64 0, .int .u64 0]) := by rw [hF]; exact (R2_6.out.set_other _ (by omega))
    have R3_7 : Hid (HasRow w7 (w.heap.size + 1 + 1 + 1) #[.int .u64 0, .int .u64 0, .int .u64 0, .int .u64 0]) := by rw [hF]; exact (R3_6.out.set_other _ (by omega))
    have R4_7 : Hid (HasRow w7 (g8) #[B (l0 nq), B (l1 nq), B (l2 nq), B (l3 nq)]) := by rw [hF]; exact (R4_6.out.set_other _ (by omega))
    have R5_7 : Hid (HasRow w7 (g9) #[B (l0 nr), B (l1 nr), B (l2 nr), B (l3 nr)]) := by rw [hF]; exact (R5_6.out.set_same _)
    have B7 : Hid (Below w.heap.size w w7) := by rw [hF]; exact (below_setRow B6.out (by omega) _)
    clear hF
    clear q0_6 q1_6 q2_6 q3_6 q4_6 q5_6 c5_0_6 c5_1_6 c5_2_6 c5_3_6 z5_0_6 z5_1_6 z5_2_6 z5_3_6
    clear B6 R0_6 R1_6 R2_6 R3_6 R4_6 R5_6
    have q0_7 := R0_7.out.lt
    have q1_7 := R1_7.out.lt
    have q2_7 := R2_7.out.lt
    have q3_7 := R3_7.out.lt
    have q4_7 := R4_7.out.lt
    have q5_7 := R5_7.out.lt
    have c2_0_7 : w7.cell? ⟨w.heap.size + 1 + 1, 0, none⟩ = some (.int .u64 0) := R2_7.out.cell 0
    have c2_1_7 : w7.cell? ⟨w.heap.size + 1 + 1, 1, none⟩ = some (.int .u64 0) := R2_7.out.cell 1
    have c2_2_7 : w7.cell? ⟨w.heap.size + 1 + 1, 2, none⟩ = some (.int .u64 0) := R2_7.out.cell 2
    have c2_3_7 : w7.cell? ⟨w.heap.size + 1 + 1, 3, none⟩ = some (.int .u64 0) := R2_7.out.cell 3
    have c3_0_7 : w7.cell? ⟨w.heap.size + 1 + 1 + 1, 0, none⟩ = some (.int .u64 0) := R3_7.out.cell 0
    have c3_1_7 : w7.cell? ⟨w.heap.size + 1 + 1 + 1, 1, none⟩ = some (.int .u64 0) := R3_7.out.cell 1
    have c3_2_7 : w7.cell? ⟨w.heap.size + 1 + 1 + 1, 2, none⟩ = some (.int .u64 0) := R3_7.out.cell 2
    have c3_3_7 : w7.cell? ⟨w.heap.size + 1 + 1 + 1, 3, none⟩ = some (.int .u64 0) := R3_7.out.cell 3
    have c4_0_7 : w7.cell? ⟨g8, 0, none⟩ = some (B (l0 nq)) := R4_7.out.cell 0
    have c4_1_7 : w7.cell? ⟨g8, 1, none⟩ = some (B (l1 nq)) := R4_7.out.cell 1
    have c4_2_7 : w7.cell? ⟨g8, 2, none⟩ = some (B (l2 nq)) := R4_7.out.cell 2
    have c4_3_7 : w7.cell? ⟨g8, 3, none⟩ = some (B (l3 nq)) := R4_7.out.cell 3
    have c5_0_7 : w7.cell? ⟨g9, 0, none⟩ = some (B (l0 nr)) := R5_7.out.cell 0
    have c5_1_7 : w7.cell? ⟨g9, 1, none⟩ = some (B (l1 nr)) := R5_7.out.cell 1
    have c5_2_7 : w7.cell? ⟨g9, 2, none⟩ = some (B (l2 nr)) := R5_7.out.cell 2
    have c5_3_7 : w7.cell? ⟨g9, 3, none⟩ = some (B (l3 nr)) := R5_7.out.cell 3
    have z2_0_7 := R2_7.out.frozen 0
    have z2_1_7 := R2_7.out.frozen 1
    have z2_2_7 := R2_7.out.frozen 2
    have z2_3_7 := R2_7.out.frozen 3
    have z3_0_7 := R3_7.out.frozen 0
    have z3_1_7 := R3_7.out.frozen 1
    have z3_2_7 := R3_7.out.frozen 2
    have z3_3_7 := R3_7.out.frozen 3
    go_wp2_with fail
    refine wp_region_vals2 (by kernel_rfl) (by kernel_rfl) (by kernel_rfl) (CSR w 0 g8 g9 nq nr) ?_ ?_ ?_
    · refine ⟨B7.out.drew, Nat.zero_le _, R4_7.out, R5_7.out, ?_, ?_, ⟨_, R2_7.out, rfl, ?_⟩, ⟨_, R3_7.out, rfl, ?_⟩⟩ <;> (intro h; simp [Array.getD] at h)
    · intro listed vs a' w' i o' hs ho hi hF cc
      have hin : i < 4 := by have := (Array.getElem?_eq_some_iff.1 ho).1; simpa using this
      have hcase : i = 0 ∨ i = 1 ∨ i = 2 ∨ i = 3 := by omega
      rcases hcase with rfl | rfl | rfl | rfl
      · simp at ho
        subst ho
        have T : ∀ j, j ≠ 0 → (listed.setIfInBounds 0 true).getD j false = true → listed.getD j false = true := fun j hj h => (done_set h).resolve_left hj
        have S : ∀ j, listed.getD j false = true → (listed.setIfInBounds 0 true).getD j false = true := fun j h => done_keep h
        exact wp_rowF 24 (.tmp 6) rfl (g8) ((hF.old (by kernel_rfl)).trans rfl) cc.R0 rfl Try.underlying24 (by kernel_rfl) ⟨_, rfl, ⟨cc.bw, cc.ms, cc.R0, cc.R1, fun _ => rfl, fun h => cc.c1 (T 1 (by decide) h), by obtain ⟨c', k2, k3, k4⟩ := cc.c2; exact ⟨c', k2, k3, fun h6 => k4 (T 2 (by decide) h6)⟩, by obtain ⟨c', k2, k3, k4⟩ := cc.c3; exact ⟨c', k2, k3, fun h6 => k4 (T 3 (by decide) h6)⟩⟩⟩
      · simp at ho
        subst ho
        have T : ∀ j, j ≠ 1 → (listed.setIfInBounds 1 true).getD j false = true → listed.getD j false = true := fun j hj h => (done_set h).resolve_left hj
        have S : ∀ j, listed.getD j false = true → (listed.setIfInBounds 1 true).getD j false = true := fun j h => done_keep h
        exact wp_rowF 24 (.tmp 7) rfl (g9) ((hF.old (by kernel_rfl)).trans rfl) cc.R1 rfl Try.underlying24 (by kernel_rfl) ⟨_, rfl, ⟨cc.bw, cc.ms, cc.R0, cc.R1, fun h => cc.c0 (T 0 (by decide) h), fun _ => rfl, by obtain ⟨c', k2, k3, k4⟩ := cc.c2; exact ⟨c', k2, k3, fun h6 => k4 (T 2 (by decide) h6)⟩, by obtain ⟨c', k2, k3, k4⟩ := cc.c3; exact ⟨c', k2, k3, fun h6 => k4 (T 3 (by decide) h6)⟩⟩⟩
      · simp at ho
        subst ho
        have T : ∀ j, j ≠ 2 → (listed.setIfInBounds 2 true).getD j false = true → listed.getD j false = true := fun j hj h => (done_set h).resolve_left hj
        have S : ∀ j, listed.getD j false = true → (listed.setIfInBounds 2 true).getD j false = true := fun j h => done_keep h
        have hv := ((hF.new (t := 27) (i := 0) (by kernel_rfl) (by simp) (waits_done (i := 2) (j := 0) (by kernel_rfl) hi)).trans (cc.c0 (waits_done (i := 2) (j := 0) (by kernel_rfl) hi)))
        obtain ⟨c, h2, h3, h4⟩ := cc.c2
        exact wp_rowS 24 (.tmp 4) (.tmp 27) rfl (w.heap.size + 1 + 1) (c' := #[B (l0 nq), B (l1 nq), B (l2 nq), B (l3 nq)]) ((hF.old (by kernel_rfl)).trans rfl) hv h2 h3 rfl (by simp [Value.oneCell']) (by kernel_rfl) ⟨_, rfl, ⟨below_setRow cc.bw (by omega) _, by rw [size_setRow]; exact cc.ms, cc.R0.set_other _ (by omega), cc.R1.set_other _ (by omega), fun h => cc.c0 (T 0 (by decide) h), fun h => cc.c1 (T 1 (by decide) h), ⟨_, h2.set_same _, rfl, fun _ => rfl⟩, by obtain ⟨c', k2, k3, k4⟩ := cc.c3; exact ⟨c', k2.set_other _ (by omega), k3, fun h6 => k4 (T 3 (by decide) h6)⟩⟩⟩
      · simp at ho
        subst ho
        have T : ∀ j, j ≠ 3 → (listed.setIfInBounds 3 true).getD j false = true → listed.getD j false = true := fun j hj h => (done_set h).resolve_left hj
        have S : ∀ j, listed.getD j false = true → (listed.setIfInBounds 3 true).getD j false = true := fun j h => done_keep h
        have hv := ((hF.new (t := 28) (i := 1) (by kernel_rfl) (by simp) (waits_done (i := 3) (j := 1) (by kernel_rfl) hi)).trans (cc.c1 (waits_done (i := 3) (j := 1) (by kernel_rfl) hi)))
        obtain ⟨c, h2, h3, h4⟩ := cc.c3
        exact wp_rowS 24 (.tmp 5) (.tmp 28) rfl (w.heap.size + 1 + 1 + 1) (c' := #[B (l0 nr), B (l1 nr), B (l2 nr), B (l3 nr)]) ((hF.old (by kernel_rfl)).trans rfl) hv h2 h3 rfl (by simp [Value.oneCell']) (by kernel_rfl) ⟨_, rfl, ⟨below_setRow cc.bw (by omega) _, by rw [size_setRow]; exact cc.ms, cc.R0.set_other _ (by omega), cc.R1.set_other _ (by omega), fun h => cc.c0 (T 0 (by decide) h), fun h => cc.c1 (T 1 (by decide) h), by obtain ⟨c', k2, k3, k4⟩ := cc.c2; exact ⟨c', k2.set_other _ (by omega), k3, fun h6 => k4 (T 2 (by decide) h6)⟩, ⟨_, h2.set_same _, rfl, fun _ => rfl⟩⟩⟩
    · intro listed vs a' w' hd hF cc
      obtain ⟨c, h2, h3, h4⟩ := cc.c2
      obtain ⟨c', k2, k3, k4⟩ := cc.c3
      have hx4 : a'.eval (.tmp 4) = .pointer (some ⟨w.heap.size + 1 + 1, 0, none⟩) := (hF.old (by kernel_rfl)).trans rfl
      have hx5 : a'.eval (.tmp 5) = .pointer (some ⟨w.heap.size + 1 + 1 + 1, 0, none⟩) := (hF.old (by kernel_rfl)).trans rfl
      have hr := results_cell2 (P := Try.prog) (fn := Try.f8) rfl a' w' hx4 hx5 h2 k2 h3 k3 Try.underlying24 (by kernel_rfl) Try.underlying24 (by kernel_rfl)
      rw [h4 (hd 2 (by simp)), k4 (hd 3 (by simp))] at hr
      have HR : Hid _ := hr
      have HB : Hid _ := cc.bw
      have HD : Hid (a'.defers = []) := hF.1
      clear hr cc hF hx4 hx5 h2 h3 h4 k2 k3 k4
      go_wp2
      exact bodyPost_ret HR.out HD.out ⟨rfl, HB.out⟩

set_option maxRecDepth 100000 in
set_option maxHeartbeats 4000000 in
theorem rdiv_ft (a b x y q r nq : Nat)
    (hs1 : Hid (∀ w, Calls Try.prog 26 #[U a] w fun e w' => e = .returned (U x) ∧ Below w.heap.size w w'))
    (hs2 : Hid (∀ w, Calls Try.prog 26 #[U b] w fun e w' => e = .returned (U y) ∧ Below w.heap.size w w'))
    (hd : Hid (∀ w, Calls Try.prog 25 #[U x, U y] w fun e w' => e = .returned (.tuple #[U q, U r]) ∧ Below w.heap.size w w'))
    (ha : Hid (∀ w, Calls Try.prog 27 #[U a] w fun e w' => e = .returned (.bool false) ∧ Below w.heap.size w w'))
    (hb : Hid (∀ w, Calls Try.prog 27 #[U b] w fun e w' => e = .returned (.bool true) ∧ Below w.heap.size w w'))
    (hq : Hid (∀ w, Calls Try.prog 10 #[U q] w fun e w' => e = .returned (U nq) ∧ Below w.heap.size w w')) (w : World) :
    Calls Try.prog 8 #[U a, U b] w fun e w' => e = .returned (.tuple #[U nq, U r]) ∧ Below w.heap.size w w' := by
  go_enter Try.func8, Try.ntmps8
  go_wp2_with fail
  refine name_world _ ?_
  intro wF hF0
  have RF0 : Hid (HasRow wF (w.heap.size) #[B (l0 a), B (l1 a), B (l2 a), B (l3 a)]) := by rw [hF0]; exact (HasRow.old (HasRow.old (HasRow.old (HasRow.last (by simp)))))
  have RF1 : Hid (HasRow wF (w.heap.size + 1) #[B (l0 b), B (l1 b), B (l2 b), B (l3 b)]) := by rw [hF0]; exact (HasRow.old (HasRow.old (HasRow.last (by simp))))
  have RF2 : Hid (HasRow wF (w.heap.size + 1 + 1) #[.int .u64 0, .int .u64 0, .int .u64 0, .int .u64 0]) := by rw [hF0]; exact (HasRow.old (HasRow.last (by simp)))
  have RF3 : Hid (HasRow wF (w.heap.size + 1 + 1 + 1) #[.int .u64 0, .int .u64 0, .int .u64 0, .int .u64 0]) := by rw [hF0]; exact (HasRow.last (by simp))
  have BF : Hid (Below w.heap.size w wF) := by rw [hF0]; exact (bel_alloc (bel_alloc (bel_alloc (bel_alloc (Below.refl _ _) _) _) _) _)
  clear hF0
  obtain ⟨N0, hN0⟩ : ∃ n, n = wF.heap.size := ⟨_, rfl⟩
  have qF0 : w.heap.size < N0 := by rw [hN0]; exact RF0.out.lt
  have qF1 : w.heap.size + 1 < N0 := by rw [hN0]; exact RF1.out.lt
  have qF2 : w.heap.size + 1 + 1 < N0 := by rw [hN0]; exact RF2.out.lt
  have qF3 : w.heap.size + 1 + 1 + 1 < N0 := by rw [hN0]; exact RF3.out.lt
  refine wp_region_vals2 (by kernel_rfl) (by kernel_rfl) (by kernel_rfl) (CSD w N0 a b x y q r) ?_ ?_ ?_
  · refine ⟨BF.out.drew, by rw [hN0]; exact Nat.le_refl _, RF0.out, RF1.out, RF2.out, RF3.out, ?_, ?_, ?_, ?_, ?_, ?_, ?_, ?_, ?_, ?_, ?_, ?_, ?_⟩ <;> (intro h; simp [Array.getD] at h)
  · intro listed vs a' w' i o' hs ho hi hF cc
    have hin : i < 12 := by have := (Array.getElem?_eq_some_iff.1 ho).1; simpa using this
    have hcase : i = 0 ∨ i = 1 ∨ i = 2 ∨ i = 3 ∨ i = 4 ∨ i = 5 ∨ i = 6 ∨ i = 7 ∨ i = 8 ∨ i = 9 ∨ i = 10 ∨ i = 11 := by omega
    rcases hcase with rfl | rfl | rfl | rfl | rfl | rfl | rfl | rfl | rfl | rfl | rfl | rfl
    · simp at ho
      subst ho
      have T : ∀ j, j ≠ 0 → (listed.setIfInBounds 0 true).getD j false = true → listed.getD j false = true := fun j hj h => (done_set h).resolve_left hj
      have S : ∀ j, listed.getD j false = true → (listed.setIfInBounds 0 true).getD j false = true := fun j h => done_keep h
      exact wp_rowF 24 (.tmp 2) rfl (w.heap.size) ((hF.old (by kernel_rfl)).trans rfl) cc.R0 rfl Try.underlying24 (by kernel_rfl) ⟨_, rfl, ⟨cc.bw, cc.ms, cc.R0, cc.R1, cc.R2, cc.R3, fun _ => rfl, fun h => cc.c1 (T 1 (by decide) h), fun h => cc.c2 (T 2 (by decide) h), fun h => cc.c3 (T 3 (by decide) h), fun h => cc.c4 (T 4 (by decide) h), fun h => cc.c5 (T 5 (by decide) h), fun h => cc.c6 (T 6 (by decide) h), fun h => cc.c7 (T 7 (by decide) h), fun h => by obtain ⟨g', c', e', k1, k2, k3, k4⟩ := cc.c8 (T 8 (by decide) h); exact ⟨g', c', e', k1, k2, k3, fun h6 => k4 (T 10 (by decide) h6)⟩, fun h => by obtain ⟨g', c', e', k1, k2, k3, k4⟩ := cc.c9 (T 9 (by decide) h); exact ⟨g', c', e', k1, k2, k3, fun h6 => k4 (T 11 (by decide) h6)⟩, fun h => S 8 (cc.c10 (T 10 (by decide) h)), fun h => S 9 (cc.c11 (T 11 (by decide) h)), fun h h' => cc.ne8_9 (T 8 (by decide) h) (T 9 (by decide) h')⟩⟩
    · simp at ho
      subst ho
      have T : ∀ j, j ≠ 1 → (listed.setIfInBounds 1 true).getD j false = true → listed.getD j false = true := fun j hj h => (done_set h).resolve_left hj
      have S : ∀ j, listed.getD j false = true → (listed.setIfInBounds 1 true).getD j false = true := fun j h => done_keep h
      have hv0 := ((hF.new (t := 9) (i := 0) (by kernel_rfl) (by simp) (waits_done (i := 1) (j := 0) (by kernel_rfl) hi)).trans (cc.c0 (waits_done (i := 1) (j := 0) (by kernel_rfl) hi)))
      refine wp_callF (f := 26) (args := #[U a]) (v := U x) (by simp [execOp_call_go, ev hv0, go_sem]) (hs1.out w') ?_
      intro w'' hb''
      exact ⟨_, rfl, ⟨cc.bw.trans (hb''.mono cc.bw.size), Nat.le_trans cc.ms hb''.size, cc.R0.below hb'', cc.R1.below hb'', cc.R2.below hb'', cc.R3.below hb'', fun h => cc.c0 (T 0 (by decide) h), fun _ => rfl, fun h => cc.c2 (T 2 (by decide) h), fun h => cc.c3 (T 3 (by decide) h), fun h => cc.c4 (T 4 (by decide) h), fun h => cc.c5 (T 5 (by decide) h), fun h => cc.c6 (T 6 (by decide) h), fun h => cc.c7 (T 7 (by decide) h), fun h => by obtain ⟨g', c', e', k1, k2, k3, k4⟩ := cc.c8 (T 8 (by decide) h); exact ⟨g', c', e', k1, k2.below hb'', k3, fun h6 => k4 (T 10 (by decide) h6)⟩, fun h => by obtain ⟨g', c', e', k1, k2, k3, k4⟩ := cc.c9 (T 9 (by decide) h); exact ⟨g', c', e', k1, k2.below hb'', k3, fun h6 => k4 (T 11 (by decide) h6)⟩, fun h => S 8 (cc.c10 (T 10 (by decide) h)), fun h => S 9 (cc.c11 (T 11 (by decide) h)), fun h h' => cc.ne8_9 (T 8 (by decide) h) (T 9 (by decide) h')⟩⟩
    · simp at ho
      subst ho
      have T : ∀ j, j ≠ 2 → (listed.setIfInBounds 2 true).getD j false = true → listed.getD j false = true := fun j hj h => (done_set h).resolve_left hj
      have S : ∀ j, listed.getD j false = true → (listed.setIfInBounds 2 true).getD j false = true := fun j h => done_keep h
      exact wp_rowF 24 (.tmp 3) rfl (w.heap.size + 1) ((hF.old (by kernel_rfl)).trans rfl) cc.R1 rfl Try.underlying24 (by kernel_rfl) ⟨_, rfl, ⟨cc.bw, cc.ms, cc.R0, cc.R1, cc.R2, cc.R3, fun h => cc.c0 (T 0 (by decide) h), fun h => cc.c1 (T 1 (by decide) h), fun _ => rfl, fun h => cc.c3 (T 3 (by decide) h), fun h => cc.c4 (T 4 (by decide) h), fun h => cc.c5 (T 5 (by decide) h), fun h => cc.c6 (T 6 (by decide) h), fun h => cc.c7 (T 7 (by decide) h), fun h => by obtain ⟨g', c', e', k1, k2, k3, k4⟩ := cc.c8 (T 8 (by decide) h); exact ⟨g', c', e', k1, k2, k3, fun h6 => k4 (T 10 (by decide) h6)⟩, fun h => by obtain ⟨g', c', e', k1, k2, k3, k4⟩ := cc.c9 (T 9 (by decide) h); exact ⟨g', c', e', k1, k2, k3, fun h6 => k4 (T 11 (by decide) h6)⟩, fun h => S 8 (cc.c10 (T 10 (by decide) h)), fun h => S 9 (cc.c11 (T 11 (by decide) h)), fun h h' => cc.ne8_9 (T 8 (by decide) h) (T 9 (by decide) h')⟩⟩
    · simp at ho
      subst ho
      have T : ∀ j, j ≠ 3 → (listed.setIfInBounds 3 true).getD j false = true → listed.getD j false = true := fun j hj h => (done_set h).resolve_left hj
      have S : ∀ j, listed.getD j false = true → (listed.setIfInBounds 3 true).getD j false = true := fun j h => done_keep h
      have hv0 := ((hF.new (t := 11) (i := 2) (by kernel_rfl) (by simp) (waits_done (i := 3) (j := 2) (by kernel_rfl) hi)).trans (cc.c2 (waits_done (i := 3) (j := 2) (by kernel_rfl) hi)))
      refine wp_callF (f := 26) (args := #[U b]) (v := U y) (by simp [execOp_call_go, ev hv0, go_sem]) (hs2.out w') ?_
      intro w'' hb''
      exact ⟨_, rfl, ⟨cc.bw.trans (hb''.mono cc.bw.size), Nat.le_trans cc.ms hb''.size, cc.R0.below hb'', cc.R1.below hb'', cc.R2.below hb'', cc.R3.below hb'', fun h => cc.c0 (T 0 (by decide) h), fun h => cc.c1 (T 1 (by decide) h), fun h => cc.c2 (T 2 (by decide) h), fun _ => rfl, fun h => cc.c4 (T 4 (by decide) h), fun h => cc.c5 (T 5 (by decide) h), fun h => cc.c6 (T 6 (by decide) h), fun h => cc.c7 (T 7 (by decide) h), fun h => by obtain ⟨g', c', e', k1, k2, k3, k4⟩ := cc.c8 (T 8 (by decide) h); exact ⟨g', c', e', k1, k2.below hb'', k3, fun h6 => k4 (T 10 (by decide) h6)⟩, fun h => by obtain ⟨g', c', e', k1, k2, k3, k4⟩ := cc.c9 (T 9 (by decide) h); exact ⟨g', c', e', k1, k2.below hb'', k3, fun h6 => k4 (T 11 (by decide) h6)⟩, fun h => S 8 (cc.c10 (T 10 (by decide) h)), fun h => S 9 (cc.c11 (T 11 (by decide) h)), fun h h' => cc.ne8_9 (T 8 (by decide) h) (T 9 (by decide) h')⟩⟩
    · simp at ho
      subst ho
      have T : ∀ j, j ≠ 4 → (listed.setIfInBounds 4 true).getD j false = true → listed.getD j false = true := fun j hj h => (done_set h).resolve_left hj
      have S : ∀ j, listed.getD j false = true → (listed.setIfInBounds 4 true).getD j false = true := fun j h => done_keep h
      have hv0 := ((hF.new (t := 10) (i := 1) (by kernel_rfl) (by simp) (waits_done (i := 4) (j := 1) (by kernel_rfl) hi)).trans (cc.c1 (waits_done (i := 4) (j := 1) (by kernel_rfl) hi)))
      have hv1 := ((hF.new (t := 12) (i := 3) (by kernel_rfl) (by simp) (waits_done (i := 4) (j := 3) (by kernel_rfl) hi)).trans (cc.c3 (waits_done (i := 4) (j := 3) (by kernel_rfl) hi)))
      refine wp_callF (f := 25) (args := #[U x, U y]) (v := .tuple #[U q, U r]) (by simp [execOp_call_go, ev hv0, ev hv1, go_sem]) (hd.out w') ?_
      intro w'' hb''
      exact ⟨_, rfl, ⟨cc.bw.trans (hb''.mono cc.bw.size), Nat.le_trans cc.ms hb''.size, cc.R0.below hb'', cc.R1.below hb'', cc.R2.below hb'', cc.R3.below hb'', fun h => cc.c0 (T 0 (by decide) h), fun h => cc.c1 (T 1 (by decide) h), fun h => cc.c2 (T 2 (by decide) h), fun h => cc.c3 (T 3 (by decide) h), fun _ => rfl, fun h => cc.c5 (T 5 (by decide) h), fun h => cc.c6 (T 6 (by decide) h), fun h => cc.c7 (T 7 (by decide) h), fun h => by obtain ⟨g', c', e', k1, k2, k3, k4⟩ := cc.c8 (T 8 (by decide) h); exact ⟨g', c', e', k1, k2.below hb'', k3, fun h6 => k4 (T 10 (by decide) h6)⟩, fun h => by obtain ⟨g', c', e', k1, k2, k3, k4⟩ := cc.c9 (T 9 (by decide) h); exact ⟨g', c', e', k1, k2.below hb'', k3, fun h6 => k4 (T 11 (by decide) h6)⟩, fun h => S 8 (cc.c10 (T 10 (by decide) h)), fun h => S 9 (cc.c11 (T 11 (by decide) h)), fun h h' => cc.ne8_9 (T 8 (by decide) h) (T 9 (by decide) h')⟩⟩
    · simp at ho
      subst ho
      have T : ∀ j, j ≠ 5 → (listed.setIfInBounds 5 true).getD j false = true → listed.getD j false = true := fun j hj h => (done_set h).resolve_left hj
      have S : ∀ j, listed.getD j false = true → (listed.setIfInBounds 5 true).getD j false = true := fun j h => done_keep h
      have hv := ((hF.new (t := 13) (i := 4) (by kernel_rfl) (by simp) (waits_done (i := 5) (j := 4) (by kernel_rfl) hi)).trans (cc.c4 (waits_done (i := 5) (j := 4) (by kernel_rfl) hi)))
      exact wp_valF (v := .tuple #[U q, U r]) (w1 := w') (by simp [execOp, go_sem, ev hv]) ⟨_, rfl, ⟨cc.bw, cc.ms, cc.R0, cc.R1, cc.R2, cc.R3, fun h => cc.c0 (T 0 (by decide) h), fun h => cc.c1 (T 1 (by decide) h), fun h => cc.c2 (T 2 (by decide) h), fun h => cc.c3 (T 3 (by decide) h), fun h => cc.c4 (T 4 (by decide) h), fun _ => rfl, fun h => cc.c6 (T 6 (by decide) h), fun h => cc.c7 (T 7 (by decide) h), fun h => by obtain ⟨g', c', e', k1, k2, k3, k4⟩ := cc.c8 (T 8 (by decide) h); exact ⟨g', c', e', k1, k2, k3, fun h6 => k4 (T 10 (by decide) h6)⟩, fun h => by obtain ⟨g', c', e', k1, k2, k3, k4⟩ := cc.c9 (T 9 (by decide) h); exact ⟨g', c', e', k1, k2, k3, fun h6 => k4 (T 11 (by decide) h6)⟩, fun h => S 8 (cc.c10 (T 10 (by decide) h)), fun h => S 9 (cc.c11 (T 11 (by decide) h)), fun h h' => cc.ne8_9 (T 8 (by decide) h) (T 9 (by decide) h')⟩⟩
    · simp at ho
      subst ho
      have T : ∀ j, j ≠ 6 → (listed.setIfInBounds 6 true).getD j false = true → listed.getD j false = true := fun j hj h => (done_set h).resolve_left hj
      have S : ∀ j, listed.getD j false = true → (listed.setIfInBounds 6 true).getD j false = true := fun j h => done_keep h
      have hv := ((hF.new (t := 8) (i := 5) (by kernel_rfl) (by simp) (waits_done (i := 6) (j := 5) (by kernel_rfl) hi)).trans (cc.c5 (waits_done (i := 6) (j := 5) (by kernel_rfl) hi)))
      exact wp_valF (v := U q) (w1 := w') (by simp [execOp, go_sem, ev hv]) ⟨_, rfl, ⟨cc.bw, cc.ms, cc.R0, cc.R1, cc.R2, cc.R3, fun h => cc.c0 (T 0 (by decide) h), fun h => cc.c1 (T 1 (by decide) h), fun h => cc.c2 (T 2 (by decide) h), fun h => cc.c3 (T 3 (by decide) h), fun h => cc.c4 (T 4 (by decide) h), fun h => cc.c5 (T 5 (by decide) h), fun _ => rfl, fun h => cc.c7 (T 7 (by decide) h), fun h => by obtain ⟨g', c', e', k1, k2, k3, k4⟩ := cc.c8 (T 8 (by decide) h); exact ⟨g', c', e', k1, k2, k3, fun h6 => k4 (T 10 (by decide) h6)⟩, fun h => by obtain ⟨g', c', e', k1, k2, k3, k4⟩ := cc.c9 (T 9 (by decide) h); exact ⟨g', c', e', k1, k2, k3, fun h6 => k4 (T 11 (by decide) h6)⟩, fun h => S 8 (cc.c10 (T 10 (by decide) h)), fun h => S 9 (cc.c11 (T 11 (by decide) h)), fun h h' => cc.ne8_9 (T 8 (by decide) h) (T 9 (by decide) h')⟩⟩
    · simp at ho
      subst ho
      have T : ∀ j, j ≠ 7 → (listed.setIfInBounds 7 true).getD j false = true → listed.getD j false = true := fun j hj h => (done_set h).resolve_left hj
      have S : ∀ j, listed.getD j false = true → (listed.setIfInBounds 7 true).getD j false = true := fun j h => done_keep h
      have hv := ((hF.new (t := 8) (i := 5) (by kernel_rfl) (by simp) (waits_done (i := 7) (j := 5) (by kernel_rfl) hi)).trans (cc.c5 (waits_done (i := 7) (j := 5) (by kernel_rfl) hi)))
      exact wp_valF (v := U r) (w1 := w') (by simp [execOp, go_sem, ev hv]) ⟨_, rfl, ⟨cc.bw, cc.ms, cc.R0, cc.R1, cc.R2, cc.R3, fun h => cc.c0 (T 0 (by decide) h), fun h => cc.c1 (T 1 (by decide) h), fun h => cc.c2 (T 2 (by decide) h), fun h => cc.c3 (T 3 (by decide) h), fun h => cc.c4 (T 4 (by decide) h), fun h => cc.c5 (T 5 (by decide) h), fun h => cc.c6 (T 6 (by decide) h), fun _ => rfl, fun h => by obtain ⟨g', c', e', k1, k2, k3, k4⟩ := cc.c8 (T 8 (by decide) h); exact ⟨g', c', e', k1, k2, k3, fun h6 => k4 (T 10 (by decide) h6)⟩, fun h => by obtain ⟨g', c', e', k1, k2, k3, k4⟩ := cc.c9 (T 9 (by decide) h); exact ⟨g', c', e', k1, k2, k3, fun h6 => k4 (T 11 (by decide) h6)⟩, fun h => S 8 (cc.c10 (T 10 (by decide) h)), fun h => S 9 (cc.c11 (T 11 (by decide) h)), fun h h' => cc.ne8_9 (T 8 (by decide) h) (T 9 (by decide) h')⟩⟩
    · simp at ho
      subst ho
      have T : ∀ j, j ≠ 8 → (listed.setIfInBounds 8 true).getD j false = true → listed.getD j false = true := fun j hj h => (done_set h).resolve_left hj
      have S : ∀ j, listed.getD j false = true → (listed.setIfInBounds 8 true).getD j false = true := fun j h => done_keep h
      have hun : ¬ listed.getD 8 false = true := fun h => undone hi hs h
      exact wp_valF (v := .pointer (some ⟨w'.heap.size, 0, none⟩)) (w1 := w'.alloc (.cells #[.int .u64 0, .int .u64 0, .int .u64 0, .int .u64 0] 24)) (by simp [execOp, go_sem]) ⟨_, rfl, ⟨bel_alloc cc.bw _, by have := cc.ms; simp; omega, cc.R0.old, cc.R1.old, cc.R2.old, cc.R3.old, fun h => cc.c0 (T 0 (by decide) h), fun h => cc.c1 (T 1 (by decide) h), fun h => cc.c2 (T 2 (by decide) h), fun h => cc.c3 (T 3 (by decide) h), fun h => cc.c4 (T 4 (by decide) h), fun h => cc.c5 (T 5 (by decide) h), fun h => cc.c6 (T 6 (by decide) h), fun h => cc.c7 (T 7 (by decide) h), fun _ => ⟨w'.heap.size, #[.int .u64 0, .int .u64 0, .int .u64 0, .int .u64 0], rfl, cc.ms, HasRow.last rfl, rfl, fun h6 => absurd (cc.c10 (T 10 (by decide) h6)) hun⟩, fun h => by obtain ⟨g', c', e', k1, k2, k3, k4⟩ := cc.c9 (T 9 (by decide) h); exact ⟨g', c', e', k1, k2.old, k3, fun h6 => k4 (T 11 (by decide) h6)⟩, fun h => S 8 (cc.c10 (T 10 (by decide) h)), fun h => S 9 (cc.c11 (T 11 (by decide) h)), fun _ h => by obtain ⟨g', c', e', k1, k2, k3, k4⟩ := cc.c9 (T 9 (by decide) h); have := k2.lt; show Value.pointer (some ⟨w'.heap.size, 0, none⟩) ≠ vs 9; rw [e']; intro q; simp at q; try omega⟩⟩
    · simp at ho
      subst ho
      have T : ∀ j, j ≠ 9 → (listed.setIfInBounds 9 true).getD j false = true → listed.getD j false = true := fun j hj h => (done_set h).resolve_left hj
      have S : ∀ j, listed.getD j false = true → (listed.setIfInBounds 9 true).getD j false = true := fun j h => done_keep h
      have hun : ¬ listed.getD 9 false = true := fun h => undone hi hs h
      exact wp_valF (v := .pointer (some ⟨w'.heap.size, 0, none⟩)) (w1 := w'.alloc (.cells #[.int .u64 0, .int .u64 0, .int .u64 0, .int .u64 0] 24)) (by simp [execOp, go_sem]) ⟨_, rfl, ⟨bel_alloc cc.bw _, by have := cc.ms; simp; omega, cc.R0.old, cc.R1.old, cc.R2.old, cc.R3.old, fun h => cc.c0 (T 0 (by decide) h), fun h => cc.c1 (T 1 (by decide) h), fun h => cc.c2 (T 2 (by decide) h), fun h => cc.c3 (T 3 (by decide) h), fun h => cc.c4 (T 4 (by decide) h), fun h => cc.c5 (T 5 (by decide) h), fun h => cc.c6 (T 6 (by decide) h), fun h => cc.c7 (T 7 (by decide) h), fun h => by obtain ⟨g', c', e', k1, k2, k3, k4⟩ := cc.c8 (T 8 (by decide) h); exact ⟨g', c', e', k1, k2.old, k3, fun h6 => k4 (T 10 (by decide) h6)⟩, fun _ => ⟨w'.heap.size, #[.int .u64 0, .int .u64 0, .int .u64 0, .int .u64 0], rfl, cc.ms, HasRow.last rfl, rfl, fun h6 => absurd (cc.c11 (T 11 (by decide) h6)) hun⟩, fun h => S 8 (cc.c10 (T 10 (by decide) h)), fun h => S 9 (cc.c11 (T 11 (by decide) h)), fun h _ => by obtain ⟨g', c', e', k1, k2, k3, k4⟩ := cc.c8 (T 8 (by decide) h); have := k2.lt; show vs 8 ≠ Value.pointer (some ⟨w'.heap.size, 0, none⟩); rw [e']; intro q; simp at q; try omega⟩⟩
    · simp at ho
      subst ho
      have T : ∀ j, j ≠ 10 → (listed.setIfInBounds 10 true).getD j false = true → listed.getD j false = true := fun j hj h => (done_set h).resolve_left hj
      have S : ∀ j, listed.getD j false = true → (listed.setIfInBounds 10 true).getD j false = true := fun j h => done_keep h
      have d4 := (waits_done (i := 10) (j := 8) (by kernel_rfl) hi)
      obtain ⟨g, c, e, h1, h2, h3, h4⟩ := cc.c8 d4
      have hx := (hF.new (t := 6) (i := 8) (by kernel_rfl) (by simp) d4).trans e
      have hv := ((hF.new (t := 14) (i := 6) (by kernel_rfl) (by simp) (waits_done (i := 10) (j := 6) (by kernel_rfl) hi)).trans (cc.c6 (waits_done (i := 10) (j := 6) (by kernel_rfl) hi)))
      exact wp_rowS 24 (.tmp 6) (.tmp 14) rfl g (c' := #[B (l0 q), B (l1 q), B (l2 q), B (l3 q)]) hx hv h2 h3 rfl (by simp [Value.oneCell']) (by kernel_rfl) ⟨_, rfl, ⟨below_setRow cc.bw (by omega) _, by rw [size_setRow]; exact cc.ms, cc.R0.set_other _ (by omega), cc.R1.set_other _ (by omega), cc.R2.set_other _ (by omega), cc.R3.set_other _ (by omega), fun h => cc.c0 (T 0 (by decide) h), fun h => cc.c1 (T 1 (by decide) h), fun h => cc.c2 (T 2 (by decide) h), fun h => cc.c3 (T 3 (by decide) h), fun h => cc.c4 (T 4 (by decide) h), fun h => cc.c5 (T 5 (by decide) h), fun h => cc.c6 (T 6 (by decide) h), fun h => cc.c7 (T 7 (by decide) h), fun h => ⟨g, _, e, h1, h2.set_same _, rfl, fun _ => rfl⟩, fun h => by obtain ⟨g', c', e', k1, k2, k3, k4⟩ := cc.c9 (T 9 (by decide) h); exact ⟨g', c', e', k1, k2.set_other _ (by rintro rfl; exact cc.ne8_9 d4 (T 9 (by decide) h) (by rw [e, e'])), k3, fun h6 => k4 (T 11 (by decide) h6)⟩, fun _ => S 8 d4, fun h => S 9 (cc.c11 (T 11 (by decide) h)), fun h h' => cc.ne8_9 (T 8 (by decide) h) (T 9 (by decide) h')⟩⟩
    · simp at ho
      subst ho
      have T : ∀ j, j ≠ 11 → (listed.setIfInBounds 11 true).getD j false = true → listed.getD j false = true := fun j hj h => (done_set h).resolve_left hj
      have S : ∀ j, listed.getD j false = true → (listed.setIfInBounds 11 true).getD j false = true := fun j h => done_keep h
      have d4 := (waits_done (i := 11) (j := 9) (by kernel_rfl) hi)
      obtain ⟨g, c, e, h1, h2, h3, h4⟩ := cc.c9 d4
      have hx := (hF.new (t := 7) (i := 9) (by kernel_rfl) (by simp) d4).trans e
      have hv := ((hF.new (t := 15) (i := 7) (by kernel_rfl) (by simp) (waits_done (i := 11) (j := 7) (by kernel_rfl) hi)).trans (cc.c7 (waits_done (i := 11) (j := 7) (by kernel_rfl) hi)))
      exact wp_rowS 24 (.tmp 7) (.tmp 15) rfl g (c' := #[B (l0 r), B (l1 r), B (l2 r), B (l3 r)]) hx hv h2 h3 rfl (by simp [Value.oneCell']) (by kernel_rfl) ⟨_, rfl, ⟨below_setRow cc.bw (by omega) _, by rw [size_setRow]; exact cc.ms, cc.R0.set_other _ (by omega), cc.R1.set_other _ (by omega), cc.R2.set_other _ (by omega), cc.R3.set_other _ (by omega), fun h => cc.c0 (T 0 (by decide) h), fun h => cc.c1 (T 1 (by decide) h), fun h => cc.c2 (T 2 (by decide) h), fun h => cc.c3 (T 3 (by decide) h), fun h => cc.c4 (T 4 (by decide) h), fun h => cc.c5 (T 5 (by decide) h), fun h => cc.c6 (T 6 (by decide) h), fun h => cc.c7 (T 7 (by decide) h), fun h => by obtain ⟨g', c', e', k1, k2, k3, k4⟩ := cc.c8 (T 8 (by decide) h); exact ⟨g', c', e', k1, k2.set_other _ (by rintro rfl; exact cc.ne8_9 (T 8 (by decide) h) d4 (by rw [e, e'])), k3, fun h6 => k4 (T 10 (by decide) h6)⟩, fun h => ⟨g, _, e, h1, h2.set_same _, rfl, fun _ => rfl⟩, fun h => S 8 (cc.c10 (T 10 (by decide) h)), fun _ => S 9 d4, fun h h' => cc.ne8_9 (T 8 (by decide) h) (T 9 (by decide) h')⟩⟩
  · intro listed vs a' w1 hd hF cc
    have e : a' = ({ tmps := #[U a, U b, .pointer (some ⟨w.heap.size, 0, none⟩), .pointer (some ⟨w.heap.size + 1, 0, none⟩), .pointer (some ⟨w.heap.size + 1 + 1, 0, none⟩), .pointer (some ⟨w.heap.size + 1 + 1 + 1, 0, none⟩), vs 8, vs 9, vs 5, vs 0, vs 1, vs 2, vs 3, vs 4, vs 6, vs 7, undef, undef, undef, undef, undef, undef, undef, undef, undef, undef, undef, undef, undef], defers := [] } : Act) := (hF.all hd).trans (by kernel_rfl)
    subst e
    obtain ⟨g8, cx, e8, h18, h2, h3, h4⟩ := cc.c8 (hd 8 (by simp))
    rw [h4 (hd 10 (by simp))] at h2
    have RX8 : Hid (HasRow w1 g8 #[B (l0 q), B (l1 q), B (l2 q), B (l3 q)]) := h2
    clear h2 h3 h4
    obtain ⟨g9, cx, e9, h19, h2, h3, h4⟩ := cc.c9 (hd 9 (by simp))
    rw [h4 (hd 11 (by simp))] at h2
    have RX9 : Hid (HasRow w1 g9 #[B (l0 r), B (l1 r), B (l2 r), B (l3 r)]) := h2
    clear h2 h3 h4
    have ne8_9 : g8 ≠ g9 := fun h => cc.ne8_9 (hd 8 (by simp)) (hd 9 (by simp)) (by rw [e8, e9, h])
    have R0_1 : Hid (HasRow w1 (w.heap.size) #[B (l0 a), B (l1 a), B (l2 a), B (l3 a)]) := cc.R0
    have R1_1 : Hid (HasRow w1 (w.heap.size + 1) #[B (l0 b), B (l1 b), B (l2 b), B (l3 b)]) := cc.R1
    have R2_1 : Hid (HasRow w1 (w.heap.size + 1 + 1) #[.int .u64 0, .int .u64 0, .int .u64 0, .int .u64 0]) := cc.R2
    have R3_1 : Hid (HasRow w1 (w.heap.size + 1 + 1 + 1) #[.int .u64 0, .int .u64 0, .int .u64 0, .int .u64 0]) := cc.R3
    have B1 : Hid (Below w.heap.size w w1) := cc.bw
    rw [e8, e9]
    clear cc hd hF BF e8 e9 RF0 RF1 RF2 RF3
    have R4_1 : Hid (HasRow w1 g8 #[B (l0 q), B (l1 q), B (l2 q), B (l3 q)]) := RX8
    clear RX8
    have R5_1 : Hid (HasRow w1 g9 #[B (l0 r), B (l1 r), B (l2 r), B (l3 r)]) := RX9
    clear RX9
    have q0_1 := R0_1.out.lt
    have q1_1 := R1_1.out.lt
    have q2_1 := R2_1.out.lt
    have q3_1 := R3_1.out.lt
    have q4_1 := R4_1.out.lt
    have q5_1 := R5_1.out.lt
    have c0_0_1 : w1.cell? ⟨w.heap.size, 0, none⟩ = some (B (l0 a)) := R0_1.out.cell 0
    have c0_1_1 : w1.cell? ⟨w.heap.size, 1, none⟩ = some (B (l1 a)) := R0_1.out.cell 1
    have c0_2_1 : w1.cell? ⟨w.heap.size, 2, none⟩ = some (B (l2 a)) := R0_1.out.cell 2
    have c0_3_1 : w1.cell? ⟨w.heap.size, 3, none⟩ = some (B (l3 a)) := R0_1.out.cell 3
    have c1_0_1 : w1.cell? ⟨w.heap.size + 1, 0, none⟩ = some (B (l0 b)) := R1_1.out.cell 0
    have c1_1_1 : w1.cell? ⟨w.heap.size + 1, 1, none⟩ = some (B (l1 b)) := R1_1.out.cell 1
    have c1_2_1 : w1.cell? ⟨w.heap.size + 1, 2, none⟩ = some (B (l2 b)) := R1_1.out.cell 2
    have c1_3_1 : w1.cell? ⟨w.heap.size + 1, 3, none⟩ = some (B (l3 b)) := R1_1.out.cell 3
    go_wp2_with fail
    refine name_world _ ?_
    intro wF hF
    have RF0 : Hid (HasRow wF (w.heap.size) #[B (l0 a), B (l1 a), B (l2 a), B (l3 a)]) := by rw [hF]; exact R0_1.out
    have RF1 : Hid (HasRow wF (w.heap.size + 1) #[B (l0 b), B (l1 b), B (l2 b), B (l3 b)]) := by rw [hF]; exact R1_1.out
    have RF2 : Hid (HasRow wF (w.heap.size + 1 + 1) #[.int .u64 0, .int .u64 0, .int .u64 0, .int .u64 0]) := by rw [hF]; exact R2_1.out
    have RF3 : Hid (HasRow wF (w.heap.size + 1 + 1 + 1) #[.int .u64 0, .int .u64 0, .int .u64 0, .int .u64 0]) := by rw [hF]; exact R3_1.out
    have RF4 : Hid (HasRow wF (g8) #[B (l0 q), B (l1 q), B (l2 q), B (l3 q)]) := by rw [hF]; exact R4_1.out
    have RF5 : Hid (HasRow wF (g9) #[B (l0 r), B (l1 r), B (l2 r), B (l3 r)]) := by rw [hF]; exact R5_1.out
    have BF : Hid (Below w.heap.size w wF) := by rw [hF]; exact B1.out
    clear hF
    clear q0_1 q1_1 q2_1 q3_1 q4_1 q5_1 c0_0_1 c0_1_1 c0_2_1 c0_3_1 c1_0_1 c1_1_1 c1_2_1 c1_3_1
    clear B1 R0_1 R1_1 R2_1 R3_1 R4_1 R5_1
    have d0_0 : wF.cell? ⟨w.heap.size, 0, none⟩ = some (B (l0 a)) := RF0.out.cell 0
    replace d0_0 := cell_regrown d0_0
    have d0_1 : wF.cell? ⟨w.heap.size, 1, none⟩ = some (B (l1 a)) := RF0.out.cell 1
    replace d0_1 := cell_regrown d0_1
    have d0_2 : wF.cell? ⟨w.heap.size, 2, none⟩ = some (B (l2 a)) := RF0.out.cell 2
    replace d0_2 := cell_regrown d0_2
    have d0_3 : wF.cell? ⟨w.heap.size, 3, none⟩ = some (B (l3 a)) := RF0.out.cell 3
    replace d0_3 := cell_regrown d0_3
    have d1_0 : wF.cell? ⟨w.heap.size + 1, 0, none⟩ = some (B (l0 b)) := RF1.out.cell 0
    replace d1_0 := cell_regrown d1_0
    have d1_1 : wF.cell? ⟨w.heap.size + 1, 1, none⟩ = some (B (l1 b)) := RF1.out.cell 1
    replace d1_1 := cell_regrown d1_1
    have d1_2 : wF.cell? ⟨w.heap.size + 1, 2, none⟩ = some (B (l2 b)) := RF1.out.cell 2
    replace d1_2 := cell_regrown d1_2
    have d1_3 : wF.cell? ⟨w.heap.size + 1, 3, none⟩ = some (B (l3 b)) := RF1.out.cell 3
    replace d1_3 := cell_regrown d1_3
    refine wp_region_quiet_below (by kernel_rfl) (by kernel_rfl) ?_
    repeat (go_big_quiet_step (fail))
    go_big_quiet_step ((exact Calls.regrown_of (ha.out _)))
    repeat (go_big_quiet_step (fail))
    go_big_quiet_step ((exact Calls.regrown_of (hb.out _)))
    repeat (go_big_quiet_step (fail))
    refine wpQuiet_nil ?_
    intro w2 hw'
    have hb2 : Below wF.heap.size wF w2 := by obtain ⟨p, rfl⟩ := hw'; exact below_regrown _ _ _
    clear hw'
    clear d0_0 d0_1 d0_2 d0_3
    clear d1_0 d1_1 d1_2 d1_3
    have R0_2 : Hid (HasRow w2 (w.heap.size) #[B (l0 a), B (l1 a), B (l2 a), B (l3 a)]) := RF0.out.below hb2
    have R1_2 : Hid (HasRow w2 (w.heap.size + 1) #[B (l0 b), B (l1 b), B (l2 b), B (l3 b)]) := RF1.out.below hb2
    have R2_2 : Hid (HasRow w2 (w.heap.size + 1 + 1) #[.int .u64 0, .int .u64 0, .int .u64 0, .int .u64 0]) := RF2.out.below hb2
    have R3_2 : Hid (HasRow w2 (w.heap.size + 1 + 1 + 1) #[.int .u64 0, .int .u64 0, .int .u64 0, .int .u64 0]) := RF3.out.below hb2
    have R4_2 : Hid (HasRow w2 (g8) #[B (l0 q), B (l1 q), B (l2 q), B (l3 q)]) := RF4.out.below hb2
    have R5_2 : Hid (HasRow w2 (g9) #[B (l0 r), B (l1 r), B (l2 r), B (l3 r)]) := RF5.out.below hb2
    have B2 : Hid (Below w.heap.size w w2) := bel_call BF.out hb2
    clear hb2 BF RF0 RF1 RF2 RF3 RF4 RF5
    clear wF
    have q0_2 := R0_2.out.lt
    have q1_2 := R1_2.out.lt
    have q2_2 := R2_2.out.lt
    have q3_2 := R3_2.out.lt
    have q4_2 := R4_2.out.lt
    have q5_2 := R5_2.out.lt
    have c4_0_2 : w2.cell? ⟨g8, 0, none⟩ = some (B (l0 q)) := R4_2.out.cell 0
    have c4_1_2 : w2.cell? ⟨g8, 1, none⟩ = some (B (l1 q)) := R4_2.out.cell 1
    have c4_2_2 : w2.cell? ⟨g8, 2, none⟩ = some (B (l2 q)) := R4_2.out.cell 2
    have c4_3_2 : w2.cell? ⟨g8, 3, none⟩ = some (B (l3 q)) := R4_2.out.cell 3
    have z4_0_2 := R4_2.out.frozen 0
    have z4_1_2 := R4_2.out.frozen 1
    have z4_2_2 := R4_2.out.frozen 2
    have z4_3_2 := R4_2.out.frozen 3
    go_wp2_with fail
    refine (hq.out _).mono ?_
    rintro e w3 ⟨rfl, hb3⟩
    have R0_3 : Hid (HasRow w3 (w.heap.size) #[B (l0 a), B (l1 a), B (l2 a), B (l3 a)]) := R0_2.out.below hb3
    have R1_3 : Hid (HasRow w3 (w.heap.size + 1) #[B (l0 b), B (l1 b), B (l2 b), B (l3 b)]) := R1_2.out.below hb3
    have R2_3 : Hid (HasRow w3 (w.heap.size + 1 + 1) #[.int .u64 0, .int .u64 0, .int .u64 0, .int .u64 0]) := R2_2.out.below hb3
    have R3_3 : Hid (HasRow w3 (w.heap.size + 1 + 1 + 1) #[.int .u64 0, .int .u64 0, .int .u64 0, .int .u64 0]) := R3_2.out.below hb3
    have R4_3 : Hid (HasRow w3 (g8) #[B (l0 q), B (l1 q), B (l2 q), B (l3 q)]) := R4_2.out.below hb3
    have R5_3 : Hid (HasRow w3 (g9) #[B (l0 r), B (l1 r), B (l2 r), B (l3 r)]) := R5_2.out.below hb3
    have B3 : Hid (Below w.heap.size w w3) := bel_call B2.out hb3
    clear hb3
    clear q0_2 q1_2 q2_2 q3_2 q4_2 q5_2 c4_0_2 c4_1_2 c4_2_2 c4_3_2 z4_0_2 z4_1_2 z4_2_2 z4_3_2
    have q0_3 := R0_3.out.lt
    have q1_3 := R1_3.out.lt
    have q2_3 := R2_3.out.lt
    have q3_3 := R3_3.out.lt
    have q4_3 := R4_3.out.lt
    have q5_3 := R5_3.out.lt
    have c4_0_3 : w3.cell? ⟨g8, 0, none⟩ = some (B (l0 q)) := R4_3.out.cell 0
    have c4_1_3 : w3.cell? ⟨g8, 1, none⟩ = some (B (l1 q)) := R4_3.out.cell 1
    have c4_2_3 : w3.cell? ⟨g8, 2, none⟩ = some (B (l2 q)) := R4_3.out.cell 2
    have c4_3_3 : w3.cell? ⟨g8, 3, none⟩ = some (B (l3 q)) := R4_3.out.cell 3
    have z4_0_3 := R4_3.out.frozen 0
    have z4_1_3 := R4_3.out.frozen 1
    have z4_2_3 := R4_3.out.frozen 2
    have z4_3_3 := R4_3.out.frozen 3
    go_upto_region 4 with fail
    refine name_world _ ?_
    intro w4 hF
    rw [set4 R4_3.out rfl] at hF
    have R0_4 : Hid (HasRow w4 (w.heap.size) #[B (l0 a), B (l1 a), B (l2 a), B (l3 a)]) := by rw [hF]; exact (R0_3.out.set_other _ (by omega))
    have R1_4 : Hid (HasRow w4 (w.heap.size + 1) #[B (l0 b), B (l1 b), B (l2 b), B (l3 b)]) := by rw [hF]; exact (R1_3.out.set_other _ (by omega))
    have R2_4 : Hid (HasRow w4 (w.heap.size + 1 + 1) #[.int .u64 0, .int .u64 0, .int .u64 0, .int .u64 0]) := by rw [hF]; exact (R2_3.out.set_other _ (by omega))
    have R3_4 : Hid (HasRow w4 (w.heap.size + 1 + 1 + 1) #[.int .u64 0, .int .u64 0, .int .u64 0, .int .u64 0]) := by rw [hF]; exact (R3_3.out.set_other _ (by omega))
    have R4_4 : Hid (HasRow w4 (g8) #[B (l0 nq), B (l1 nq), B (l2 nq), B (l3 nq)]) := by rw [hF]; exact (R4_3.out.set_same _)
    have R5_4 : Hid (HasRow w4 (g9) #[B (l0 r), B (l1 r), B (l2 r), B (l3 r)]) := by rw [hF]; exact (R5_3.out.set_other _ (by omega))
    have B4 : Hid (Below w.heap.size w w4) := by rw [hF]; exact (below_setRow B3.out (by omega) _)
    clear hF
    clear q0_3 q1_3 q2_3 q3_3 q4_3 q5_3 c4_0_3 c4_1_3 c4_2_3 c4_3_3 z4_0_3 z4_1_3 z4_2_3 z4_3_3
    clear B3 R0_3 R1_3 R2_3 R3_3 R4_3 R5_3
    have q0_4 := R0_4.out.lt
    have q1_4 := R1_4.out.lt
    have q2_4 := R2_4.out.lt
    have q3_4 := R3_4.out.lt
    have q4_4 := R4_4.out.lt
    have q5_4 := R5_4.out.lt
    have c0_0_4 : w4.cell? ⟨w.heap.size, 0, none⟩ = some (B (l0 a)) := R0_4.out.cell 0
    have c0_1_4 : w4.cell? ⟨w.heap.size, 1, none⟩ = some (B (l1 a)) := R0_4.out.cell 1
    have c0_2_4 : w4.cell? ⟨w.heap.size, 2, none⟩ = some (B (l2 a)) := R0_4.out.cell 2
    have c0_3_4 : w4.cell? ⟨w.heap.size, 3, none⟩ = some (B (l3 a)) := R0_4.out.cell 3
    go_wp2_with fail
    refine (ha.out _).mono ?_
    rintro e w5 ⟨rfl, hb5⟩
    have R0_5 : Hid (HasRow w5 (w.heap.size) #[B (l0 a), B (l1 a), B (l2 a), B (l3 a)]) := R0_4.out.below hb5
    have R1_5 : Hid (HasRow w5 (w.heap.size + 1) #[B (l0 b), B (l1 b), B (l2 b), B (l3 b)]) := R1_4.out.below hb5
    have R2_5 : Hid (HasRow w5 (w.heap.size + 1 + 1) #[.int .u64 0, .int .u64 0, .int .u64 0, .int .u64 0]) := R2_4.out.below hb5
    have R3_5 : Hid (HasRow w5 (w.heap.size + 1 + 1 + 1) #[.int .u64 0, .int .u64 0, .int .u64 0, .int .u64 0]) := R3_4.out.below hb5
    have R4_5 : Hid (HasRow w5 (g8) #[B (l0 nq), B (l1 nq), B (l2 nq), B (l3 nq)]) := R4_4.out.below hb5
    have R5_5 : Hid (HasRow w5 (g9) #[B (l0 r), B (l1 r), B (l2 r), B (l3 r)]) := R5_4.out.below hb5
    have B5 : Hid (Below w.heap.size w w5) := bel_call B4.out hb5
    clear hb5
    clear q0_4 q1_4 q2_4 q3_4 q4_4 q5_4 c0_0_4 c0_1_4 c0_2_4 c0_3_4
    have q0_5 := R0_5.out.lt
    have q1_5 := R1_5.out.lt
    have q2_5 := R2_5.out.lt
    have q3_5 := R3_5.out.lt
    have q4_5 := R4_5.out.lt
    have q5_5 := R5_5.out.lt
    have c2_0_5 : w5.cell? ⟨w.heap.size + 1 + 1, 0, none⟩ = some (.int .u64 0) := R2_5.out.cell 0
    have c2_1_5 : w5.cell? ⟨w.heap.size + 1 + 1, 1, none⟩ = some (.int .u64 0) := R2_5.out.cell 1
    have c2_2_5 : w5.cell? ⟨w.heap.size + 1 + 1, 2, none⟩ = some (.int .u64 0) := R2_5.out.cell 2
    have c2_3_5 : w5.cell? ⟨w.heap.size + 1 + 1, 3, none⟩ = some (.int .u64 0) := R2_5.out.cell 3
    have c3_0_5 : w5.cell? ⟨w.heap.size + 1 + 1 + 1, 0, none⟩ = some (.int .u64 0) := R3_5.out.cell 0
    have c3_1_5 : w5.cell? ⟨w.heap.size + 1 + 1 + 1, 1, none⟩ = some (.int .u64 0) := R3_5.out.cell 1
    have c3_2_5 : w5.cell? ⟨w.heap.size + 1 + 1 + 1, 2, none⟩ = some (.int .u64 0) := R3_5.out.cell 2
    have c3_3_5 : w5.cell? ⟨w.heap.size + 1 + 1 + 1, 3, none⟩ = some (.int .u64 0) := R3_5.out.cell 3
    have c4_0_5 : w5.cell? ⟨g8, 0, none⟩ = some (B (l0 nq)) := R4_5.out.cell 0
    have c4_1_5 : w5.cell? ⟨g8, 1, none⟩ = some (B (l1 nq)) := R4_5.out.cell 1
    have c4_2_5 : w5.cell? ⟨g8, 2, none⟩ = some (B (l2 nq)) := R4_5.out.cell 2
    have c4_3_5 : w5.cell? ⟨g8, 3, none⟩ = some (B (l3 nq)) := R4_5.out.cell 3
    have c5_0_5 : w5.cell? ⟨g9, 0, none⟩ = some (B (l0 r)) := R5_5.out.cell 0
    have c5_1_5 : w5.cell? ⟨g9, 1, none⟩ = some (B (l1 r)) := R5_5.out.cell 1
    have c5_2_5 : w5.cell? ⟨g9, 2, none⟩ = some (B (l2 r)) := R5_5.out.cell 2
    have c5_3_5 : w5.cell? ⟨g9, 3, none⟩ = some (B (l3 r)) := R5_5.out.cell 3
    have z2_0_5 := R2_5.out.frozen 0
    have z2_1_5 := R2_5.out.frozen 1
    have z2_2_5 := R2_5.out.frozen 2
    have z2_3_5 := R2_5.out.frozen 3
    have z3_0_5 := R3_5.out.frozen 0
    have z3_1_5 := R3_5.out.frozen 1
    have z3_2_5 := R3_5.out.frozen 2
    have z3_3_5 := R3_5.out.frozen 3
    go_wp2_with fail
    refine wp_region_vals2 (by kernel_rfl) (by kernel_rfl) (by kernel_rfl) (CSR w 0 g8 g9 nq r) ?_ ?_ ?_
    · refine ⟨B5.out.drew, Nat.zero_le _, R4_5.out, R5_5.out, ?_, ?_, ⟨_, R2_5.out, rfl, ?_⟩, ⟨_, R3_5.out, rfl, ?_⟩⟩ <;> (intro h; simp [Array.getD] at h)
    · intro listed vs a' w' i o' hs ho hi hF cc
      have hin : i < 4 := by have := (Array.getElem?_eq_some_iff.1 ho).1; simpa using this
      have hcase : i = 0 ∨ i = 1 ∨ i = 2 ∨ i = 3 := by omega
      rcases hcase with rfl | rfl | rfl | rfl
      · simp at ho
        subst ho
        have T : ∀ j, j ≠ 0 → (listed.setIfInBounds 0 true).getD j false = true → listed.getD j false = true := fun j hj h => (done_set h).resolve_left hj
        have S : ∀ j, listed.getD j false = true → (listed.setIfInBounds 0 true).getD j false = true := fun j h => done_keep h
        exact wp_rowF 24 (.tmp 6) rfl (g8) ((hF.old (by kernel_rfl)).trans rfl) cc.R0 rfl Try.underlying24 (by kernel_rfl) ⟨_, rfl, ⟨cc.bw, cc.ms, cc.R0, cc.R1, fun _ => rfl, fun h => cc.c1 (T 1 (by decide) h), by obtain ⟨c', k2, k3, k4⟩ := cc.c2; exact ⟨c', k2, k3, fun h6 => k4 (T 2 (by decide) h6)⟩, by obtain ⟨c', k2, k3, k4⟩ := cc.c3; exact ⟨c', k2, k3, fun h6 => k4 (T 3 (by decide) h6)⟩⟩⟩
      · simp at ho
        subst ho
        have T : ∀ j, j ≠ 1 → (listed.setIfInBounds 1 true).getD j false = true → listed.getD j false = true := fun j hj h => (done_set h).resolve_left hj
        have S : ∀ j, listed.getD j false = true → (listed.setIfInBounds 1 true).getD j false = true := fun j h => done_keep h
        exact wp_rowF 24 (.tmp 7) rfl (g9) ((hF.old (by kernel_rfl)).trans rfl) cc.R1 rfl Try.underlying24 (by kernel_rfl) ⟨_, rfl, ⟨cc.bw, cc.ms, cc.R0, cc.R1, fun h => cc.c0 (T 0 (by decide) h), fun _ => rfl, by obtain ⟨c', k2, k3, k4⟩ := cc.c2; exact ⟨c', k2, k3, fun h6 => k4 (T 2 (by decide) h6)⟩, by obtain ⟨c', k2, k3, k4⟩ := cc.c3; exact ⟨c', k2, k3, fun h6 => k4 (T 3 (by decide) h6)⟩⟩⟩
      · simp at ho
        subst ho
        have T : ∀ j, j ≠ 2 → (listed.setIfInBounds 2 true).getD j false = true → listed.getD j false = true := fun j hj h => (done_set h).resolve_left hj
        have S : ∀ j, listed.getD j false = true → (listed.setIfInBounds 2 true).getD j false = true := fun j h => done_keep h
        have hv := ((hF.new (t := 27) (i := 0) (by kernel_rfl) (by simp) (waits_done (i := 2) (j := 0) (by kernel_rfl) hi)).trans (cc.c0 (waits_done (i := 2) (j := 0) (by kernel_rfl) hi)))
        obtain ⟨c, h2, h3, h4⟩ := cc.c2
        exact wp_rowS 24 (.tmp 4) (.tmp 27) rfl (w.heap.size + 1 + 1) (c' := #[B (l0 nq), B (l1 nq), B (l2 nq), B (l3 nq)]) ((hF.old (by kernel_rfl)).trans rfl) hv h2 h3 rfl (by simp [Value.oneCell']) (by kernel_rfl) ⟨_, rfl, ⟨below_setRow cc.bw (by omega) _, by rw [size_setRow]; exact cc.ms, cc.R0.set_other _ (by omega), cc.R1.set_other _ (by omega), fun h => cc.c0 (T 0 (by decide) h), fun h => cc.c1 (T 1 (by decide) h), ⟨_, h2.set_same _, rfl, fun _ => rfl⟩, by obtain ⟨c', k2, k3, k4⟩ := cc.c3; exact ⟨c', k2.set_other _ (by omega), k3, fun h6 => k4 (T 3 (by decide) h6)⟩⟩⟩
      · simp at ho
        subst ho
        have T : ∀ j, j ≠ 3 → (listed.setIfInBounds 3 true).getD j false = true → listed.getD j false = true := fun j hj h => (done_set h).resolve_left hj
        have S : ∀ j, listed.getD j false = true → (listed.setIfInBounds 3 true).getD j false = true := fun j h => done_keep h
        have hv := ((hF.new (t := 28) (i := 1) (by kernel_rfl) (by simp) (waits_done (i := 3) (j := 1) (by kernel_rfl) hi)).trans (cc.c1 (waits_done (i := 3) (j := 1) (by kernel_rfl) hi)))
        obtain ⟨c, h2, h3, h4⟩ := cc.c3
        exact wp_rowS 24 (.tmp 5) (.tmp 28) rfl (w.heap.size + 1 + 1 + 1) (c' := #[B (l0 r), B (l1 r), B (l2 r), B (l3 r)]) ((hF.old (by kernel_rfl)).trans rfl) hv h2 h3 rfl (by simp [Value.oneCell']) (by kernel_rfl) ⟨_, rfl, ⟨below_setRow cc.bw (by omega) _, by rw [size_setRow]; exact cc.ms, cc.R0.set_other _ (by omega), cc.R1.set_other _ (by omega), fun h => cc.c0 (T 0 (by decide) h), fun h => cc.c1 (T 1 (by decide) h), by obtain ⟨c', k2, k3, k4⟩ := cc.c2; exact ⟨c', k2.set_other _ (by omega), k3, fun h6 => k4 (T 2 (by decide) h6)⟩, ⟨_, h2.set_same _, rfl, fun _ => rfl⟩⟩⟩
    · intro listed vs a' w' hd hF cc
      obtain ⟨c, h2, h3, h4⟩ := cc.c2
      obtain ⟨c', k2, k3, k4⟩ := cc.c3
      have hx4 : a'.eval (.tmp 4) = .pointer (some ⟨w.heap.size + 1 + 1, 0, none⟩) := (hF.old (by kernel_rfl)).trans rfl
      have hx5 : a'.eval (.tmp 5) = .pointer (some ⟨w.heap.size + 1 + 1 + 1, 0, none⟩) := (hF.old (by kernel_rfl)).trans rfl
      have hr := results_cell2 (P := Try.prog) (fn := Try.f8) rfl a' w' hx4 hx5 h2 k2 h3 k3 Try.underlying24 (by kernel_rfl) Try.underlying24 (by kernel_rfl)
      rw [h4 (hd 2 (by simp)), k4 (hd 3 (by simp))] at hr
      have HR : Hid _ := hr
      have HB : Hid _ := cc.bw
      have HD : Hid (a'.defers = []) := hF.1
      clear hr cc hF hx4 hx5 h2 h3 h4 k2 k3 k4
      go_wp2
      exact bodyPost_ret HR.out HD.out ⟨rfl, HB.out⟩

set_option maxRecDepth 100000 in
set_option maxHeartbeats 4000000 in
theorem rdiv_ff (a b x y q r : Nat)
    (hs1 : Hid (∀ w, Calls Try.prog 26 #[U a] w fun e w' => e = .returned (U x) ∧ Below w.heap.size w w'))
    (hs2 : Hid (∀ w, Calls Try.prog 26 #[U b] w fun e w' => e = .returned (U y) ∧ Below w.heap.size w w'))
    (hd : Hid (∀ w, Calls Try.prog 25 #[U x, U y] w fun e w' => e = .returned (.tuple #[U q, U r]) ∧ Below w.heap.size w w'))
    (ha : Hid (∀ w, Calls Try.prog 27 #[U a] w fun e w' => e = .returned (.bool false) ∧ Below w.heap.size w w'))
    (hb : Hid (∀ w, Calls Try.prog 27 #[U b] w fun e w' => e = .returned (.bool false) ∧ Below w.heap.size w w')) (w : World) :
    Calls Try.prog 8 #[U a, U b] w fun e w' => e = .returned (.tuple #[U q, U r]) ∧ Below w.heap.size w w' := by
  go_enter Try.func8, Try.ntmps8
  go_wp2_with fail
  refine name_world _ ?_
  intro wF hF0
  have RF0 : Hid (HasRow wF (w.heap.size) #[B (l0 a), B (l1 a), B (l2 a), B (l3 a)]) := by rw [hF0]; exact (HasRow.old (HasRow.old (HasRow.old (HasRow.last (by simp)))))
  have RF1 : Hid (HasRow wF (w.heap.size + 1) #[B (l0 b), B (l1 b), B (l2 b), B (l3 b)]) := by rw [hF0]; exact (HasRow.old (HasRow.old (HasRow.last (by simp))))
  have RF2 : Hid (HasRow wF (w.heap.size + 1 + 1) #[.int .u64 0, .int .u64 0, .int .u64 0, .int .u64 0]) := by rw [hF0]; exact (HasRow.old (HasRow.last (by simp)))
  have RF3 : Hid (HasRow wF (w.heap.size + 1 + 1 + 1) #[.int .u64 0, .int .u64 0, .int .u64 0, .int .u64 0]) := by rw [hF0]; exact (HasRow.last (by simp))
  have BF : Hid (Below w.heap.size w wF) := by rw [hF0]; exact (bel_alloc (bel_alloc (bel_alloc (bel_alloc (Below.refl _ _) _) _) _) _)
  clear hF0
  obtain ⟨N0, hN0⟩ : ∃ n, n = wF.heap.size := ⟨_, rfl⟩
  have qF0 : w.heap.size < N0 := by rw [hN0]; exact RF0.out.lt
  have qF1 : w.heap.size + 1 < N0 := by rw [hN0]; exact RF1.out.lt
  have qF2 : w.heap.size + 1 + 1 < N0 := by rw [hN0]; exact RF2.out.lt
  have qF3 : w.heap.size + 1 + 1 + 1 < N0 := by rw [hN0]; exact RF3.out.lt
  refine wp_region_vals2 (by kernel_rfl) (by kernel_rfl) (by kernel_rfl) (CSD w N0 a b x y q r) ?_ ?_ ?_
  · refine ⟨BF.out.drew, by rw [hN0]; exact Nat.le_refl _, RF0.out, RF1.out, RF2.out, RF3.out, ?_, ?_, ?_, ?_, ?_, ?_, ?_, ?_, ?_, ?_, ?_, ?_, ?_⟩ <;> (intro h; simp [Array.getD] at h)
  · intro listed vs a' w' i o' hs ho hi hF cc
    have hin : i < 12 := by have := (Array.getElem?_eq_some_iff.1 ho).1; simpa using this
    have hcase : i = 0 ∨ i = 1 ∨ i = 2 ∨ i = 3 ∨ i = 4 ∨ i = 5 ∨ i = 6 ∨ i = 7 ∨ i = 8 ∨ i = 9 ∨ i = 10 ∨ i = 11 := by omega
    rcases hcase with rfl | rfl | rfl | rfl | rfl | rfl | rfl | rfl | rfl | rfl | rfl | rfl
    · simp at ho
      subst ho
      have T : ∀ j, j ≠ 0 → (listed.setIfInBounds 0 true).getD j false = true → listed.getD j false = true := fun j hj h => (done_set h).resolve_left hj
      have S : ∀ j, listed.getD j false = true → (listed.setIfInBounds 0 true).getD j false = true := fun j h => done_keep h
      exact wp_rowF 24 (.tmp 2) rfl (w.heap.size) ((hF.old (by kernel_rfl)).trans rfl) cc.R0 rfl Try.underlying24 (by kernel_rfl) ⟨_, rfl, ⟨cc.bw, cc.ms, cc.R0, cc.R1, cc.R2, cc.R3, fun _ => rfl, fun h => cc.c1 (T 1 (by decide) h), fun h => cc.c2 (T 2 (by decide) h), fun h => cc.c3 (T 3 (by decide) h), fun h => cc.c4 (T 4 (by decide) h), fun h => cc.c5 (T 5 (by decide) h), fun h => cc.c6 (T 6 (by decide) h), fun h => cc.c7 (T 7 (by decide) h), fun h => by obtain ⟨g', c', e', k1, k2, k3, k4⟩ := cc.c8 (T 8 (by decide) h); exact ⟨g', c', e', k1, k2, k3, fun h6 => k4 (T 10 (by decide) h6)⟩, fun h => by obtain ⟨g', c', e', k1, k2, k3, k4⟩ := cc.c9 (T 9 (by decide) h); exact ⟨g', c', e', k1, k2, k3, fun h6 => k4 (T 11 (by decide) h6)⟩, fun h => S 8 (cc.c10 (T 10 (by decide) h)), fun h => S 9 (cc.c11 (T 11 (by decide) h)), fun h h' => cc.ne8_9 (T 8 (by decide) h) (T 9 (by decide) h')⟩⟩
    · simp at ho
      subst ho
      have T : ∀ j, j ≠ 1 → (listed.setIfInBounds 1 true).getD j false = true → listed.getD j false = true := fun j hj h => (done_set h).resolve_left hj
      have S : ∀ j, listed.getD j false = true → (listed.setIfInBounds 1 true).getD j false = true := fun j h => done_keep h
      have hv0 := ((hF.new (t := 9) (i := 0) (by kernel_rfl) (by simp) (waits_done (i := 1) (j := 0) (by kernel_rfl) hi)).trans (cc.c0 (waits_done (i := 1) (j := 0) (by kernel_rfl) hi)))
      refine wp_callF (f := 26) (args := #[U a]) (v := U x) (by simp [execOp_call_go, ev hv0, go_sem]) (hs1.out w') ?_
      intro w'' hb''
      exact ⟨_, rfl, ⟨cc.bw.trans (hb''.mono cc.bw.size), Nat.le_trans cc.ms hb''.size, cc.R0.below hb'', cc.R1.below hb'', cc.R2.below hb'', cc.R3.below hb'', fun h => cc.c0 (T 0 (by decide) h), fun _ => rfl, fun h => cc.c2 (T 2 (by decide) h), fun h => cc.c3 (T 3 (by decide) h), fun h => cc.c4 (T 4 (by decide) h), fun h => cc.c5 (T 5 (by decide) h), fun h => cc.c6 (T 6 (by decide) h), fun h => cc.c7 (T 7 (by decide) h), fun h => by obtain ⟨g', c', e', k1, k2, k3, k4⟩ := cc.c8 (T 8 (by decide) h); exact ⟨g', c', e', k1, k2.below hb'', k3, fun h6 => k4 (T 10 (by decide) h6)⟩, fun h => by obtain ⟨g', c', e', k1, k2, k3, k4⟩ := cc.c9 (T 9 (by decide) h); exact ⟨g', c', e', k1, k2.below hb'', k3, fun h6 => k4 (T 11 (by decide) h6)⟩, fun h => S 8 (cc.c10 (T 10 (by decide) h)), fun h => S 9 (cc.c11 (T 11 (by decide) h)), fun h h' => cc.ne8_9 (T 8 (by decide) h) (T 9 (by decide) h')⟩⟩
    · simp at ho
      subst ho
      have T : ∀ j, j ≠ 2 → (listed.setIfInBounds 2 true).getD j false = true → listed.getD j false = true := fun j hj h => (done_set h).resolve_left hj
      have S : ∀ j, listed.getD j false = true → (listed.setIfInBounds 2 true).getD j false = true := fun j h => done_keep h
      exact wp_rowF 24 (.tmp 3) rfl (w.heap.size + 1) ((hF.old (by kernel_rfl)).trans rfl) cc.R1 rfl Try.underlying24 (by kernel_rfl) ⟨_, rfl, ⟨cc.bw, cc.ms, cc.R0, cc.R1, cc.R2, cc.R3, fun h => cc.c0 (T 0 (by decide) h), fun h => cc.c1 (T 1 (by decide) h), fun _ => rfl, fun h => cc.c3 (T 3 (by decide) h), fun h => cc.c4 (T 4 (by decide) h), fun h => cc.c5 (T 5 (by decide) h), fun h => cc.c6 (T 6 (by decide) h), fun h => cc.c7 (T 7 (by decide) h), fun h => by obtain ⟨g', c', e', k1, k2, k3, k4⟩ := cc.c8 (T 8 (by decide) h); exact ⟨g', c', e', k1, k2, k3, fun h6 => k4 (T 10 (by decide) h6)⟩, fun h => by obtain ⟨g', c', e', k1, k2, k3, k4⟩ := cc.c9 (T 9 (by decide) h); exact ⟨g', c', e', k1, k2, k3, fun h6 => k4 (T 11 (by decide) h6)⟩, fun h => S 8 (cc.c10 (T 10 (by decide) h)), fun h => S 9 (cc.c11 (T 11 (by decide) h)), fun h h' => cc.ne8_9 (T 8 (by decide) h) (T 9 (by decide) h')⟩⟩
    · simp at ho
      subst ho
      have T : ∀ j, j ≠ 3 → (listed.setIfInBounds 3 true).getD j false = true → listed.getD j false = true := fun j hj h => (done_set h).resolve_left hj
      have S : ∀ j, listed.getD j false = true → (listed.setIfInBounds 3 true).getD j false = true := fun j h => done_keep h
      have hv0 := ((hF.new (t := 11) (i := 2) (by kernel_rfl) (by simp) (waits_done (i := 3) (j := 2) (by kernel_rfl) hi)).trans (cc.c2 (waits_done (i := 3) (j := 2) (by kernel_rfl) hi)))
      refine wp_callF (f := 26) (args := #[U b]) (v := U y) (by simp [execOp_call_go, ev hv0, go_sem]) (hs2.out w') ?_
      intro w'' hb''
      exact ⟨_, rfl, ⟨cc.bw.trans (hb''.mono cc.bw.size), Nat.le_trans cc.ms hb''.size, cc.R0.below hb'', cc.R1.below hb'', cc.R2.below hb'', cc.R3.below hb'', fun h => cc.c0 (T 0 (by decide) h), fun h => cc.c1 (T 1 (by decide) h), fun h => cc.c2 (T 2 (by decide) h), fun _ => rfl, fun h => cc.c4 (T 4 (by decide) h), fun h => cc.c5 (T 5 (by decide) h), fun h => cc.c6 (T 6 (by decide) h), fun h => cc.c7 (T 7 (by decide) h), fun h => by obtain ⟨g', c', e', k1, k2, k3, k4⟩ := cc.c8 (T 8 (by decide) h); exact ⟨g', c', e', k1, k2.below hb'', k3, fun h6 => k4 (T 10 (by decide) h6)⟩, fun h => by obtain ⟨g', c', e', k1, k2, k3, k4⟩ := cc.c9 (T 9 (by decide) h); exact ⟨g', c', e', k1, k2.below hb'', k3, fun h6 => k4 (T 11 (by decide) h6)⟩, fun h => S 8 (cc.c10 (T 10 (by decide) h)), fun h => S 9 (cc.c11 (T 11 (by decide) h)), fun h h' => cc.ne8_9 (T 8 (by decide) h) (T 9 (by decide) h')⟩⟩
    · simp at ho
      subst ho
      have T : ∀ j, j ≠ 4 → (listed.setIfInBounds 4 true).getD j false = true → listed.getD j false = true := fun j hj h => (done_set h).resolve_left hj
      have S : ∀ j, listed.getD j false = true → (listed.setIfInBounds 4 true).getD j false = true := fun j h => done_keep h
      have hv0 := ((hF.new (t := 10) (i := 1) (by kernel_rfl) (by simp) (waits_done (i := 4) (j := 1) (by kernel_rfl) hi)).trans (cc.c1 (waits_done (i := 4) (j := 1) (by kernel_rfl) hi)))
      have hv1 := ((hF.new (t := 12) (i := 3) (by kernel_rfl) (by simp) (waits_done (i := 4) (j := 3) (by kernel_rfl) hi)).trans (cc.c3 (waits_done (i := 4) (j := 3) (by kernel_rfl) hi)))
      refine wp_callF (f := 25) (args := #[U x, U y]) (v := .tuple #[U q, U r]) (by simp [execOp_call_go, ev hv0, ev hv1, go_sem]) (hd.out w') ?_
      intro w'' hb''
      exact ⟨_, rfl, ⟨cc.bw.trans (hb''.mono cc.bw.size), Nat.le_trans cc.ms hb''.size, cc.R0.below hb'', cc.R1.below hb'', cc.R2.below hb'', cc.R3.below hb'', fun h => cc.c0 (T 0 (by decide) h), fun h => cc.c1 (T 1 (by decide) h), fun h => cc.c2 (T 2 (by decide) h), fun h => cc.c3 (T 3 (by decide) h), fun _ => rfl, fun h => cc.c5 (T 5 (by decide) h), fun h => cc.c6 (T 6 (by decide) h), fun h => cc.c7 (T 7 (by decide) h), fun h => by obtain ⟨g', c', e', k1, k2, k3, k4⟩ := cc.c8 (T 8 (by decide) h); exact ⟨g', c', e', k1, k2.below hb'', k3, fun h6 => k4 (T 10 (by decide) h6)⟩, fun h => by obtain ⟨g', c', e', k1, k2, k3, k4⟩ := cc.c9 (T 9 (by decide) h); exact ⟨g', c', e', k1, k2.below hb'', k3, fun h6 => k4 (T 11 (by decide) h6)⟩, fun h => S 8 (cc.c10 (T 10 (by decide) h)), fun h => S 9 (cc.c11 (T 11 (by decide) h)), fun h h' => cc.ne8_9 (T 8 (by decide) h) (T 9 (by decide) h')⟩⟩
    · simp at ho
      subst ho
      have T : ∀ j, j ≠ 5 → (listed.setIfInBounds 5 true).getD j false = true → listed.getD j false = true := fun j hj h => (done_set h).resolve_left hj
      have S : ∀ j, listed.getD j false = true → (listed.setIfInBounds 5 true).getD j false = true := fun j h => done_keep h
      have hv := ((hF.new (t := 13) (i := 4) (by kernel_rfl) (by simp) (waits_done (i := 5) (j := 4) (by kernel_rfl) hi)).trans (cc.c4 (waits_done (i := 5) (j := 4) (by kernel_rfl) hi)))
      exact wp_valF (v := .tuple #[U q, U r]) (w1 := w') (by simp [execOp, go_sem, ev hv]) ⟨_, rfl, ⟨cc.bw, cc.ms, cc.R0, cc.R1, cc.R2, cc.R3, fun h => cc.c0 (T 0 (by decide) h), fun h => cc.c1 (T 1 (by decide) h), fun h => cc.c2 (T 2 (by decide) h), fun h => cc.c3 (T 3 (by decide) h), fun h => cc.c4 (T 4 (by decide) h), fun _ => rfl, fun h => cc.c6 (T 6 (by decide) h), fun h => cc.c7 (T 7 (by decide) h), fun h => by obtain ⟨g', c', e', k1, k2, k3, k4⟩ := cc.c8 (T 8 (by decide) h); exact ⟨g', c', e', k1, k2, k3, fun h6 => k4 (T 10 (by decide) h6)⟩, fun h => by obtain ⟨g', c', e', k1, k2, k3, k4⟩ := cc.c9 (T 9 (by decide) h); exact ⟨g', c', e', k1, k2, k3, fun h6 => k4 (T 11 (by decide) h6)⟩, fun h => S 8 (cc.c10 (T 10 (by decide) h)), fun h => S 9 (cc.c11 (T 11 (by decide) h)), fun h h' => cc.ne8_9 (T 8 (by decide) h) (T 9 (by decide) h')⟩⟩
    · simp at ho
      subst ho
      have T : ∀ j, j ≠ 6 → (listed.setIfInBounds 6 true).getD j false = true → listed.getD j false = true := fun j hj h => (done_set h).resolve_left hj
      have S : ∀ j, listed.getD j false = true → (listed.setIfInBounds 6 true).getD j false = true := fun j h => done_keep h
      have hv := ((hF.new (t := 8) (i := 5) (by kernel_rfl) (by simp) (waits_done (i := 6) (j := 5) (by kernel_rfl) hi)).trans (cc.c5 (waits_done (i := 6) (j := 5) (by kernel_rfl) hi)))
      exact wp_valF (v := U q) (w1 := w') (by simp [execOp, go_sem, ev hv]) ⟨_, rfl, ⟨cc.bw, cc.ms, cc.R0, cc.R1, cc.R2, cc.R3, fun h => cc.c0 (T 0 (by decide) h), fun h => cc.c1 (T 1 (by decide) h), fun h => cc.c2 (T 2 (by decide) h), fun h => cc.c3 (T 3 (by decide) h), fun h => cc.c4 (T 4 (by decide) h), fun h => cc.c5 (T 5 (by decide) h), fun _ => rfl, fun h => cc.c7 (T 7 (by decide) h), fun h => by obtain ⟨g', c', e', k1, k2, k3, k4⟩ := cc.c8 (T 8 (by decide) h); exact ⟨g', c', e', k1, k2, k3, fun h6 => k4 (T 10 (by decide) h6)⟩, fun h => by obtain ⟨g', c', e', k1, k2, k3, k4⟩ := cc.c9 (T 9 (by decide) h); exact ⟨g', c', e', k1, k2, k3, fun h6 => k4 (T 11 (by decide) h6)⟩, fun h => S 8 (cc.c10 (T 10 (by decide) h)), fun h => S 9 (cc.c11 (T 11 (by decide) h)), fun h h' => cc.ne8_9 (T 8 (by decide) h) (T 9 (by decide) h')⟩⟩
    · simp at ho
      subst ho
      have T : ∀ j, j ≠ 7 → (listed.setIfInBounds 7 true).getD j false = true → listed.getD j false = true := fun j hj h => (done_set h).resolve_left hj
      have S : ∀ j, listed.getD j false = true → (listed.setIfInBounds 7 true).getD j false = true := fun j h => done_keep h
      have hv := ((hF.new (t := 8) (i := 5) (by kernel_rfl) (by simp) (waits_done (i := 7) (j := 5) (by kernel_rfl) hi)).trans (cc.c5 (waits_done (i := 7) (j := 5) (by kernel_rfl) hi)))
      exact wp_valF (v := U r) (w1 := w') (by simp [execOp, go_sem, ev hv]) ⟨_, rfl, ⟨cc.bw, cc.ms, cc.R0, cc.R1, cc.R2, cc.R3, fun h => cc.c0 (T 0 (by decide) h), fun h => cc.c1 (T 1 (by decide) h), fun h => cc.c2 (T 2 (by decide) h), fun h => cc.c3 (T 3 (by decide) h), fun h => cc.c4 (T 4 (by decide) h), fun h => cc.c5 (T 5 (by decide) h), fun h => cc.c6 (T 6 (by decide) h), fun _ => rfl, fun h => by obtain ⟨g', c', e', k1, k2, k3, k4⟩ := cc.c8 (T 8 (by decide) h); exact ⟨g', c', e', k1, k2, k3, fun h6 => k4 (T 10 (by decide) h6)⟩, fun h => by obtain ⟨g', c', e', k1, k2, k3, k4⟩ := cc.c9 (T 9 (by decide) h); exact ⟨g', c', e', k1, k2, k3, fun h6 => k4 (T 11 (by decide) h6)⟩, fun h => S 8 (cc.c10 (T 10 (by decide) h)), fun h => S 9 (cc.c11 (T 11 (by decide) h)), fun h h' => cc.ne8_9 (T 8 (by decide) h) (T 9 (by decide) h')⟩⟩
    · simp at ho
      subst ho
      have T : ∀ j, j ≠ 8 → (listed.setIfInBounds 8 true).getD j false = true → listed.getD j false = true := fun j hj h => (done_set h).resolve_left hj
      have S : ∀ j, listed.getD j false = true → (listed.setIfInBounds 8 true).getD j false = true := fun j h => done_keep h
      have hun : ¬ listed.getD 8 false = true := fun h => undone hi hs h
      exact wp_valF (v := .pointer (some ⟨w'.heap.size, 0, none⟩)) (w1 := w'.alloc (.cells #[.int .u64 0, .int .u64 0, .int .u64 0, .int .u64 0] 24)) (by simp [execOp, go_sem]) ⟨_, rfl, ⟨bel_alloc cc.bw _, by have := cc.ms; simp; omega, cc.R0.old, cc.R1.old, cc.R2.old, cc.R3.old, fun h => cc.c0 (T 0 (by decide) h), fun h => cc.c1 (T 1 (by decide) h), fun h => cc.c2 (T 2 (by decide) h), fun h => cc.c3 (T 3 (by decide) h), fun h => cc.c4 (T 4 (by decide) h), fun h => cc.c5 (T 5 (by decide) h), fun h => cc.c6 (T 6 (by decide) h), fun h => cc.c7 (T 7 (by decide) h), fun _ => ⟨w'.heap.size, #[.int .u64 0, .int .u64 0, .int .u64 0, .int .u64 0], rfl, cc.ms, HasRow.last rfl, rfl, fun h6 => absurd (cc.c10 (T 10 (by decide) h6)) hun⟩, fun h => by obtain ⟨g', c', e', k1, k2, k3, k4⟩ := cc.c9 (T 9 (by decide) h); exact ⟨g', c', e', k1, k2.old, k3, fun h6 => k4 (T 11 (by decide) h6)⟩, fun h => S 8 (cc.c10 (T 10 (by decide) h)), fun h => S 9 (cc.c11 (T 11 (by decide) h)), fun _ h => by obtain ⟨g', c', e', k1, k2, k3, k4⟩ := cc.c9 (T 9 (by decide) h); have := k2.lt; show Value.pointer (some ⟨w'.heap.size, 0, none⟩) ≠ vs 9; rw [e']; intro q; simp at q; try omega⟩⟩
    · simp at ho
      subst ho
      have T : ∀ j, j ≠ 9 → (listed.setIfInBounds 9 true).getD j false = true → listed.getD j false = true := fun j hj h => (done_set h).resolve_left hj
      have S : ∀ j, listed.getD j false = true → (listed.setIfInBounds 9 true).getD j false = true := fun j h => done_keep h
      have hun : ¬ listed.getD 9 false = true := fun h => undone hi hs h
      exact wp_valF (v := .pointer (some ⟨w'.heap.size, 0, none⟩)) (w1 := w'.alloc (.cells #[.int .u64 0, .int .u64 0, .int .u64 0, .int .u64 0] 24)) (by simp [execOp, go_sem]) ⟨_, rfl, ⟨bel_alloc cc.bw _, by have := cc.ms; simp; omega, cc.R0.old, cc.R1.old, cc.R2.old, cc.R3.old, fun h => cc.c0 (T 0 (by decide) h), fun h => cc.c1 (T 1 (by decide) h), fun h => cc.c2 (T 2 (by decide) h), fun h => cc.c3 (T 3 (by decide) h), fun h => cc.c4 (T 4 (by decide) h), fun h => cc.c5 (T 5 (by decide) h), fun h => cc.c6 (T 6 (by decide) h), fun h => cc.c7 (T 7 (by decide) h), fun h => by obtain ⟨g', c', e', k1, k2, k3, k4⟩ := cc.c8 (T 8 (by decide) h); exact ⟨g', c', e', k1, k2.old, k3, fun h6 => k4 (T 10 (by decide) h6)⟩, fun _ => ⟨w'.heap.size, #[.int .u64 0, .int .u64 0, .int .u64 0, .int .u64 0], rfl, cc.ms, HasRow.last rfl, rfl, fun h6 => absurd (cc.c11 (T 11 (by decide) h6)) hun⟩, fun h => S 8 (cc.c10 (T 10 (by decide) h)), fun h => S 9 (cc.c11 (T 11 (by decide) h)), fun h _ => by obtain ⟨g', c', e', k1, k2, k3, k4⟩ := cc.c8 (T 8 (by decide) h); have := k2.lt; show vs 8 ≠ Value.pointer (some ⟨w'.heap.size, 0, none⟩); rw [e']; intro q; simp at q; try omega⟩⟩
    · simp at ho
      subst ho
      have T : ∀ j, j ≠ 10 → (listed.setIfInBounds 10 true).getD j false = true → listed.getD j false = true := fun j hj h => (done_set h).resolve_left hj
      have S : ∀ j, listed.getD j false = true → (listed.setIfInBounds 10 true).getD j false = true := fun j h => done_keep h
      have d4 := (waits_done (i := 10) (j := 8) (by kernel_rfl) hi)
      obtain ⟨g, c, e, h1, h2, h3, h4⟩ := cc.c8 d4
      have hx := (hF.new (t := 6) (i := 8) (by kernel_rfl) (by simp) d4).trans e
      have hv := ((hF.new (t := 14) (i := 6) (by kernel_rfl) (by simp) (waits_done (i := 10) (j := 6) (by kernel_rfl) hi)).trans (cc.c6 (waits_done (i := 10) (j := 6) (by kernel_rfl) hi)))
      exact wp_rowS 24 (.tmp 6) (.tmp 14) rfl g (c' := #[B (l0 q), B (l1 q), B (l2 q), B (l3 q)]) hx hv h2 h3 rfl (by simp [Value.oneCell']) (by kernel_rfl) ⟨_, rfl, ⟨below_setRow cc.bw (by omega) _, by rw [size_setRow]; exact cc.ms, cc.R0.set_other _ (by omega), cc.R1.set_other _ (by omega), cc.R2.set_other _ (by omega), cc.R3.set_other _ (by omega), fun h => cc.c0 (T 0 (by decide) h), fun h => cc.c1 (T 1 (by decide) h), fun h => cc.c2 (T 2 (by decide) h), fun h => cc.c3 (T 3 (by decide) h), fun h => cc.c4 (T 4 (by decide) h), fun h => cc.c5 (T 5 (by decide) h), fun h => cc.c6 (T 6 (by decide) h), fun h => cc.c7 (T 7 (by decide) h), fun h => ⟨g, _, e, h1, h2.set_same _, rfl, fun _ => rfl⟩, fun h => by obtain ⟨g', c', e', k1, k2, k3, k4⟩ := cc.c9 (T 9 (by decide) h); exact ⟨g', c', e', k1, k2.set_other _ (by rintro rfl; exact cc.ne8_9 d4 (T 9 (by decide) h) (by rw [e, e'])), k3, fun h6 => k4 (T 11 (by decide) h6)⟩, fun _ => S 8 d4, fun h => S 9 (cc.c11 (T 11 (by decide) h)), fun h h' => cc.ne8_9 (T 8 (by decide) h) (T 9 (by decide) h')⟩⟩
    · simp at ho
      subst ho
      have T : ∀ j, j ≠ 11 → (listed.setIfInBounds 11 true).getD j false = true → listed.getD j false = true := fun j hj h => (done_set h).resolve_left hj
      have S : ∀ j, listed.getD j false = true → (listed.setIfInBounds 11 true).getD j false = true := fun j h => done_keep h
      have d4 := (waits_done (i := 11) (j := 9) (by kernel_rfl) hi)
      obtain ⟨g, c, e, h1, h2, h3, h4⟩ := cc.c9 d4
      have hx := (hF.new (t := 7) (i := 9) (by kernel_rfl) (by simp) d4).trans e
      have hv := ((hF.new (t := 15) (i := 7) (by kernel_rfl) (by simp) (waits_done (i := 11) (j := 7) (by kernel_rfl) hi)).trans (cc.c7 (waits_done (i := 11) (j := 7) (by kernel_rfl) hi)))
      exact wp_rowS 24 (.tmp 7) (.tmp 15) rfl g (c' := #[B (l0 r), B (l1 r), B (l2 r), B (l3 r)]) hx hv h2 h3 rfl (by simp [Value.oneCell']) (by kernel_rfl) ⟨_, rfl, ⟨below_setRow cc.bw (by omega) _, by rw [size_setRow]; exact cc.ms, cc.R0.set_other _ (by omega), cc.R1.set_other _ (by omega), cc.R2.set_other _ (by omega), cc.R3.set_other _ (by omega), fun h => cc.c0 (T 0 (by decide) h), fun h => cc.c1 (T 1 (by decide) h), fun h => cc.c2 (T 2 (by decide) h), fun h => cc.c3 (T 3 (by decide) h), fun h => cc.c4 (T 4 (by decide) h), fun h => cc.c5 (T 5 (by decide) h), fun h => cc.c6 (T 6 (by decide) h), fun h => cc.c7 (T 7 (by decide) h), fun h => by obtain ⟨g', c', e', k1, k2, k3, k4⟩ := cc.c8 (T 8 (by decide) h); exact ⟨g', c', e', k1, k2.set_other _ (by rintro rfl; exact cc.ne8_9 (T 8 (by decide) h) d4 (by rw [e, e'])), k3, fun h6 => k4 (T 10 (by decide) h6)⟩, fun h => ⟨g, _, e, h1, h2.set_same _, rfl, fun _ => rfl⟩, fun h => S 8 (cc.c10 (T 10 (by decide) h)), fun _ => S 9 d4, fun h h' => cc.ne8_9 (T 8 (by decide) h) (T 9 (by decide) h')⟩⟩
  · intro listed vs a' w1 hd hF cc
    have e : a' = ({ tmps := #[U a, U b, .pointer (some ⟨w.heap.size, 0, none⟩), .pointer (some ⟨w.heap.size + 1, 0, none⟩), .pointer (some ⟨w.heap.size + 1 + 1, 0, none⟩), .pointer (some ⟨w.heap.size + 1 + 1 + 1, 0, none⟩), vs 8, vs 9, vs 5, vs 0, vs 1, vs 2, vs 3, vs 4, vs 6, vs 7, undef, undef, undef, undef, undef, undef, undef, undef, undef, undef, undef, undef, undef], defers := [] } : Act) := (hF.all hd).trans (by kernel_rfl)
    subst e
    obtain ⟨g8, cx, e8, h18, h2, h3, h4⟩ := cc.c8 (hd 8 (by simp))
    rw [h4 (hd 10 (by simp))] at h2
    have RX8 : Hid (HasRow w1 g8 #[B (l0 q), B (l1 q), B (l2 q), B (l3 q)]) := h2
    clear h2 h3 h4
    obtain ⟨g9, cx, e9, h19, h2, h3, h4⟩ := cc.c9 (hd 9 (by simp))
    rw [h4 (hd 11 (by simp))] at h2
    have RX9 : Hid (HasRow w1 g9 #[B (l0 r), B (l1 r), B (l2 r), B (l3 r)]) := h2
    clear h2 h3 h4
    have ne8_9 : g8 ≠ g9 := fun h => cc.ne8_9 (hd 8 (by simp)) (hd 9 (by simp)) (by rw [e8, e9, h])
    have R0_1 : Hid (HasRow w1 (w.heap.size) #[B (l0 a), B (l1 a), B (l2 a), B (l3 a)]) := cc.R0
    have R1_1 : Hid (HasRow w1 (w.heap.size + 1) #[B (l0 b), B (l1 b), B (l2 b), B (l3 b)]) := cc.R1
    have R2_1 : Hid (HasRow w1 (w.heap.size + 1 + 1) #[.int .u64 0, .int .u64 0, .int .u64 0, .int .u64 0]) := cc.R2
    have R3_1 : Hid (HasRow w1 (w.heap.size + 1 + 1 + 1) #[.int .u64 0, .int .u64 0, .int .u64 0, .int .u64 0]) := cc.R3
    have B1 : Hid (Below w.heap.size w w1) := cc.bw
    rw [e8, e9]
    clear cc hd hF BF e8 e9 RF0 RF1 RF2 RF3
    have R4_1 : Hid (HasRow w1 g8 #[B (l0 q), B (l1 q), B (l2 q), B (l3 q)]) := RX8
    clear RX8
    have R5_1 : Hid (HasRow w1 g9 #[B (l0 r), B (l1 r), B (l2 r), B (l3 r)]) := RX9
    clear RX9
    have q0_1 := R0_1.out.lt
    have q1_1 := R1_1.out.lt
    have q2_1 := R2_1.out.lt
    have q3_1 := R3_1.out.lt
    have q4_1 := R4_1.out.lt
    have q5_1 := R5_1.out.lt
    have c0_0_1 : w1.cell? ⟨w.heap.size, 0, none⟩ = some (B (l0 a)) := R0_1.out.cell 0
    have c0_1_1 : w1.cell? ⟨w.heap.size, 1, none⟩ = some (B (l1 a)) := R0_1.out.cell 1
    have c0_2_1 : w1.cell? ⟨w.heap.size, 2, none⟩ = some (B (l2 a)) := R0_1.out.cell 2
    have c0_3_1 : w1.cell? ⟨w.heap.size, 3, none⟩ = some (B (l3 a)) := R0_1.out.cell 3
    have c1_0_1 : w1.cell? ⟨w.heap.size + 1, 0, none⟩ = some (B (l0 b)) := R1_1.out.cell 0
    have c1_1_1 : w1.cell? ⟨w.heap.size + 1, 1, none⟩ = some (B (l1 b)) := R1_1.out.cell 1
    have c1_2_1 : w1.cell? ⟨w.heap.size + 1, 2, none⟩ = some (B (l2 b)) := R1_1.out.cell 2
    have c1_3_1 : w1.cell? ⟨w.heap.size + 1, 3, none⟩ = some (B (l3 b)) := R1_1.out.cell 3
    go_wp2_with fail
    refine name_world _ ?_
    intro wF hF
    have RF0 : Hid (HasRow wF (w.heap.size) #[B (l0 a), B (l1 a), B (l2 a), B (l3 a)]) := by rw [hF]; exact R0_1.out
    have RF1 : Hid (HasRow wF (w.heap.size + 1) #[B (l0 b), B (l1 b), B (l2 b), B (l3 b)]) := by rw [hF]; exact R1_1.out
    have RF2 : Hid (HasRow wF (w.heap.size + 1 + 1) #[.int .u64 0, .int .u64 0, .int .u64 0, .int .u64 0]) := by rw [hF]; exact R2_1.out
    have RF3 : Hid (HasRow wF (w.heap.size + 1 + 1 + 1) #[.int .u64 0, .int .u64 0, .int .u64 0, .int .u64 0]) := by rw [hF]; exact R3_1.out
    have RF4 : Hid (HasRow wF (g8) #[B (l0 q), B (l1 q), B (l2 q), B (l3 q)]) := by rw [hF]; exact R4_1.out
    have RF5 : Hid (HasRow wF (g9) #[B (l0 r), B (l1 r), B (l2 r), B (l3 r)]) := by rw [hF]; exact R5_1.out
    have BF : Hid (Below w.heap.size w wF) := by rw [hF]; exact B1.out
    clear hF
    clear q0_1 q1_1 q2_1 q3_1 q4_1 q5_1 c0_0_1 c0_1_1 c0_2_1 c0_3_1 c1_0_1 c1_1_1 c1_2_1 c1_3_1
    clear B1 R0_1 R1_1 R2_1 R3_1 R4_1 R5_1
    have d0_0 : wF.cell? ⟨w.heap.size, 0, none⟩ = some (B (l0 a)) := RF0.out.cell 0
    replace d0_0 := cell_regrown d0_0
    have d0_1 : wF.cell? ⟨w.heap.size, 1, none⟩ = some (B (l1 a)) := RF0.out.cell 1
    replace d0_1 := cell_regrown d0_1
    have d0_2 : wF.cell? ⟨w.heap.size, 2, none⟩ = some (B (l2 a)) := RF0.out.cell 2
    replace d0_2 := cell_regrown d0_2
    have d0_3 : wF.cell? ⟨w.heap.size, 3, none⟩ = some (B (l3 a)) := RF0.out.cell 3
    replace d0_3 := cell_regrown d0_3
    have d1_0 : wF.cell? ⟨w.heap.size + 1, 0, none⟩ = some (B (l0 b)) := RF1.out.cell 0
    replace d1_0 := cell_regrown d1_0
    have d1_1 : wF.cell? ⟨w.heap.size + 1, 1, none⟩ = some (B (l1 b)) := RF1.out.cell 1
    replace d1_1 := cell_regrown d1_1
    have d1_2 : wF.cell? ⟨w.heap.size + 1, 2, none⟩ = some (B (l2 b)) := RF1.out.cell 2
    replace d1_2 := cell_regrown d1_2
    have d1_3 : wF.cell? ⟨w.heap.size + 1, 3, none⟩ = some (B (l3 b)) := RF1.out.cell 3
    replace d1_3 := cell_regrown d1_3
    refine wp_region_quiet_below (by kernel_rfl) (by kernel_rfl) ?_
    repeat (go_big_quiet_step (fail))
    go_big_quiet_step ((exact Calls.regrown_of (ha.out _)))
    repeat (go_big_quiet_step (fail))
    go_big_quiet_step ((exact Calls.regrown_of (hb.out _)))
    repeat (go_big_quiet_step (fail))
    refine wpQuiet_nil ?_
    intro w2 hw'
    have hb2 : Below wF.heap.size wF w2 := by obtain ⟨p, rfl⟩ := hw'; exact below_regrown _ _ _
    clear hw'
    clear d0_0 d0_1 d0_2 d0_3
    clear d1_0 d1_1 d1_2 d1_3
    have R0_2 : Hid (HasRow w2 (w.heap.size) #[B (l0 a), B (l1 a), B (l2 a), B (l3 a)]) := RF0.out.below hb2
    have R1_2 : Hid (HasRow w2 (w.heap.size + 1) #[B (l0 b), B (l1 b), B (l2 b), B (l3 b)]) := RF1.out.below hb2
    have R2_2 : Hid (HasRow w2 (w.heap.size + 1 + 1) #[.int .u64 0, .int .u64 0, .int .u64 0, .int .u64 0]) := RF2.out.below hb2
    have R3_2 : Hid (HasRow w2 (w.heap.size + 1 + 1 + 1) #[.int .u64 0, .int .u64 0, .int .u64 0, .int .u64 0]) := RF3.out.below hb2
    have R4_2 : Hid (HasRow w2 (g8) #[B (l0 q), B (l1 q), B (l2 q), B (l3 q)]) := RF4.out.below hb2
    have R5_2 : Hid (HasRow w2 (g9) #[B (l0 r), B (l1 r), B (l2 r), B (l3 r)]) := RF5.out.below hb2
    have B2 : Hid (Below w.heap.size w w2) := bel_call BF.out hb2
    clear hb2 BF RF0 RF1 RF2 RF3 RF4 RF5
    clear wF
    have q0_2 := R0_2.out.lt
    have q1_2 := R1_2.out.lt
    have q2_2 := R2_2.out.lt
    have q3_2 := R3_2.out.lt
    have q4_2 := R4_2.out.lt
    have q5_2 := R5_2.out.lt
    have c0_0_2 : w2.cell? ⟨w.heap.size, 0, none⟩ = some (B (l0 a)) := R0_2.out.cell 0
    have c0_1_2 : w2.cell? ⟨w.heap.size, 1, none⟩ = some (B (l1 a)) := R0_2.out.cell 1
    have c0_2_2 : w2.cell? ⟨w.heap.size, 2, none⟩ = some (B (l2 a)) := R0_2.out.cell 2
    have c0_3_2 : w2.cell? ⟨w.heap.size, 3, none⟩ = some (B (l3 a)) := R0_2.out.cell 3
    go_wp2_with fail
    refine (ha.out _).mono ?_
    rintro e w3 ⟨rfl, hb3⟩
    have R0_3 : Hid (HasRow w3 (w.heap.size) #[B (l0 a), B (l1 a), B (l2 a), B (l3 a)]) := R0_2.out.below hb3
    have R1_3 : Hid (HasRow w3 (w.heap.size + 1) #[B (l0 b), B (l1 b), B (l2 b), B (l3 b)]) := R1_2.out.below hb3
    have R2_3 : Hid (HasRow w3 (w.heap.size + 1 + 1) #[.int .u64 0, .int .u64 0, .int .u64 0, .int .u64 0]) := R2_2.out.below hb3
    have R3_3 : Hid (HasRow w3 (w.heap.size + 1 + 1 + 1) #[.int .u64 0, .int .u64 0, .int .u64 0, .int .u64 0]) := R3_2.out.below hb3
    have R4_3 : Hid (HasRow w3 (g8) #[B (l0 q), B (l1 q), B (l2 q), B (l3 q)]) := R4_2.out.below hb3
    have R5_3 : Hid (HasRow w3 (g9) #[B (l0 r), B (l1 r), B (l2 r), B (l3 r)]) := R5_2.out.below hb3
    have B3 : Hid (Below w.heap.size w w3) := bel_call B2.out hb3
    clear hb3
    clear q0_2 q1_2 q2_2 q3_2 q4_2 q5_2 c0_0_2 c0_1_2 c0_2_2 c0_3_2
    have q0_3 := R0_3.out.lt
    have q1_3 := R1_3.out.lt
    have q2_3 := R2_3.out.lt
    have q3_3 := R3_3.out.lt
    have q4_3 := R4_3.out.lt
    have q5_3 := R5_3.out.lt
    have c2_0_3 : w3.cell? ⟨w.heap.size + 1 + 1, 0, none⟩ = some (.int .u64 0) := R2_3.out.cell 0
    have c2_1_3 : w3.cell? ⟨w.heap.size + 1 + 1, 1, none⟩ = some (.int .u64 0) := R2_3.out.cell 1
    have c2_2_3 : w3.cell? ⟨w.heap.size + 1 + 1, 2, none⟩ = some (.int .u64 0) := R2_3.out.cell 2
    have c2_3_3 : w3.cell? ⟨w.heap.size + 1 + 1, 3, none⟩ = some (.int .u64 0) := R2_3.out.cell 3
    have c3_0_3 : w3.cell? ⟨w.heap.size + 1 + 1 + 1, 0, none⟩ = some (.int .u64 0) := R3_3.out.cell 0
    have c3_1_3 : w3.cell? ⟨w.heap.size + 1 + 1 + 1, 1, none⟩ = some (.int .u64 0) := R3_3.out.cell 1
    have c3_2_3 : w3.cell? ⟨w.heap.size + 1 + 1 + 1, 2, none⟩ = some (.int .u64 0) := R3_3.out.cell 2
    have c3_3_3 : w3.cell? ⟨w.heap.size + 1 + 1 + 1, 3, none⟩ = some (.int .u64 0) := R3_3.out.cell 3
    have c4_0_3 : w3.cell? ⟨g8, 0, none⟩ = some (B (l0 q)) := R4_3.out.cell 0
    have c4_1_3 : w3.cell? ⟨g8, 1, none⟩ = some (B (l1 q)) := R4_3.out.cell 1
    have c4_2_3 : w3.cell? ⟨g8, 2, none⟩ = some (B (l2 q)) := R4_3.out.cell 2
    have c4_3_3 : w3.cell? ⟨g8, 3, none⟩ = some (B (l3 q)) := R4_3.out.cell 3
    have c5_0_3 : w3.cell? ⟨g9, 0, none⟩ = some (B (l0 r)) := R5_3.out.cell 0
    have c5_1_3 : w3.cell? ⟨g9, 1, none⟩ = some (B (l1 r)) := R5_3.out.cell 1
    have c5_2_3 : w3.cell? ⟨g9, 2, none⟩ = some (B (l2 r)) := R5_3.out.cell 2
    have c5_3_3 : w3.cell? ⟨g9, 3, none⟩ = some (B (l3 r)) := R5_3.out.cell 3
    have z2_0_3 := R2_3.out.frozen 0
    have z2_1_3 := R2_3.out.frozen 1
    have z2_2_3 := R2_3.out.frozen 2
    have z2_3_3 := R2_3.out.frozen 3
    have z3_0_3 := R3_3.out.frozen 0
    have z3_1_3 := R3_3.out.frozen 1
    have z3_2_3 := R3_3.out.frozen 2
    have z3_3_3 := R3_3.out.frozen 3
    go_wp2_with fail
    refine wp_region_vals2 (by kernel_rfl) (by kernel_rfl) (by kernel_rfl) (CSR w 0 g8 g9 q r) ?_ ?_ ?_
    · refine ⟨B3.out.drew, Nat.zero_le _, R4_3.out, R5_3.out, ?_, ?_, ⟨_, R2_3.out, rfl, ?_⟩, ⟨_, R3_3.out, rfl, ?_⟩⟩ <;> (intro h; simp [Array.getD] at h)
    · intro listed vs a' w' i o' hs ho hi hF cc
      have hin : i < 4 := by have := (Array.getElem?_eq_some_iff.1 ho).1; simpa using this
      have hcase : i = 0 ∨ i = 1 ∨ i = 2 ∨ i = 3 := by omega
      rcases hcase with rfl | rfl | rfl | rfl
      · simp at ho
        subst ho
        have T : ∀ j, j ≠ 0 → (listed.setIfInBounds 0 true).getD j false = true → listed.getD j false = true := fun j hj h => (done_set h).resolve_left hj
        have S : ∀ j, listed.getD j false = true → (listed.setIfInBounds 0 true).getD j false = true := fun j h => done_keep h
        exact wp_rowF 24 (.tmp 6) rfl (g8) ((hF.old (by kernel_rfl)).trans rfl) cc.R0 rfl Try.underlying24 (by kernel_rfl) ⟨_, rfl, ⟨cc.bw, cc.ms, cc.R0, cc.R1, fun _ => rfl, fun h => cc.c1 (T 1 (by decide) h), by obtain ⟨c', k2, k3, k4⟩ := cc.c2; exact ⟨c', k2, k3, fun h6 => k4 (T 2 (by decide) h6)⟩, by obtain ⟨c', k2, k3, k4⟩ := cc.c3; exact ⟨c', k2, k3, fun h6 => k4 (T 3 (by decide) h6)⟩⟩⟩
      · simp at ho
        subst ho
        have T : ∀ j, j ≠ 1 → (listed.setIfInBounds 1 true).getD j false = true → listed.getD j false = true := fun j hj h => (done_set h).resolve_left hj
        have S : ∀ j, listed.getD j false = true → (listed.setIfInBounds 1 true).getD j false = true := fun j h => done_keep h
        exact wp_rowF 24 (.tmp 7) rfl (g9) ((hF.old (by kernel_rfl)).trans rfl) cc.R1 rfl Try.underlying24 (by kernel_rfl) ⟨_, rfl, ⟨cc.bw, cc.ms, cc.R0, cc.R1, fun h => cc.c0 (T 0 (by decide) h), fun _ => rfl, by obtain ⟨c', k2, k3, k4⟩ := cc.c2; exact ⟨c', k2, k3, fun h6 => k4 (T 2 (by decide) h6)⟩, by obtain ⟨c', k2, k3, k4⟩ := cc.c3; exact ⟨c', k2, k3, fun h6 => k4 (T 3 (by decide) h6)⟩⟩⟩
      · simp at ho
        subst ho
        have T : ∀ j, j ≠ 2 → (listed.setIfInBounds 2 true).getD j false = true → listed.getD j false = true := fun j hj h => (done_set h).resolve_left hj
        have S : ∀ j, listed.getD j false = true → (listed.setIfInBounds 2 true).getD j false = true := fun j h => done_keep h
        have hv := ((hF.new (t := 27) (i := 0) (by kernel_rfl) (by simp) (waits_done (i := 2) (j := 0) (by kernel_rfl) hi)).trans (cc.c0 (waits_done (i := 2) (j := 0) (by kernel_rfl) hi)))
        obtain ⟨c, h2, h3, h4⟩ := cc.c2
        exact wp_rowS 24 (.tmp 4) (.tmp 27) rfl (w.heap.size + 1 + 1) (c' := #[B (l0 q), B (l1 q), B (l2 q), B (l3 q)]) ((hF.old (by kernel_rfl)).trans rfl) hv h2 h3 rfl (by simp [Value.oneCell']) (by kernel_rfl) ⟨_, rfl, ⟨below_setRow cc.bw (by omega) _, by rw [size_setRow]; exact cc.ms, cc.R0.set_other _ (by omega), cc.R1.set_other _ (by omega), fun h => cc.c0 (T 0 (by decide) h), fun h => cc.c1 (T 1 (by decide) h), ⟨_, h2.set_same _, rfl, fun _ => rfl⟩, by obtain ⟨c', k2, k3, k4⟩ := cc.c3; exact ⟨c', k2.set_other _ (by omega), k3, fun h6 => k4 (T 3 (by decide) h6)⟩⟩⟩
      · simp at ho
        subst ho
        have T : ∀ j, j ≠ 3 → (listed.setIfInBounds 3 true).getD j false = true → listed.getD j false = true := fun j hj h => (done_set h).resolve_left hj
        have S : ∀ j, listed.getD j false = true → (listed.setIfInBounds 3 true).getD j false = true := fun j h => done_keep h
        have hv := ((hF.new (t := 28) (i := 1) (by kernel_rfl) (by simp) (waits_done (i := 3) (j := 1) (by kernel_rfl) hi)).trans (cc.c1 (waits_done (i := 3) (j := 1) (by kernel_rfl) hi)))
        obtain ⟨c, h2, h3, h4⟩ := cc.c3
        exact wp_rowS 24 (.tmp 5) (.tmp 28) rfl (w.heap.size + 1 + 1 + 1) (c' := #[B (l0 r), B (l1 r), B (l2 r), B (l3 r)]) ((hF.old (by kernel_rfl)).trans rfl) hv h2 h3 rfl (by simp [Value.oneCell']) (by kernel_rfl) ⟨_, rfl, ⟨below_setRow cc.bw (by omega) _, by rw [size_setRow]; exact cc.ms, cc.R0.set_other _ (by omega), cc.R1.set_other _ (by omega), fun h => cc.c0 (T 0 (by decide) h), fun h => cc.c1 (T 1 (by decide) h), by obtain ⟨c', k2, k3, k4⟩ := cc.c2; exact ⟨c', k2.set_other _ (by omega), k3, fun h6 => k4 (T 2 (by decide) h6)⟩, ⟨_, h2.set_same _, rfl, fun _ => rfl⟩⟩⟩
    · intro listed vs a' w' hd hF cc
      obtain ⟨c, h2, h3, h4⟩ := cc.c2
      obtain ⟨c', k2, k3, k4⟩ := cc.c3
      have hx4 : a'.eval (.tmp 4) = .pointer (some ⟨w.heap.size + 1 + 1, 0, none⟩) := (hF.old (by kernel_rfl)).trans rfl
      have hx5 : a'.eval (.tmp 5) = .pointer (some ⟨w.heap.size + 1 + 1 + 1, 0, none⟩) := (hF.old (by kernel_rfl)).trans rfl
      have hr := results_cell2 (P := Try.prog) (fn := Try.f8) rfl a' w' hx4 hx5 h2 k2 h3 k3 Try.underlying24 (by kernel_rfl) Try.underlying24 (by kernel_rfl)
      rw [h4 (hd 2 (by simp)), k4 (hd 3 (by simp))] at hr
      have HR : Hid _ := hr
      have HB : Hid _ := cc.bw
      have HD : Hid (a'.defers = []) := hF.1
      clear hr cc hF hx4 hx5 h2 h3 h4 k2 k3 k4
      go_wp2
      exact bodyPost_ret HR.out HD.out ⟨rfl, HB.out⟩

theorem wp_boolS {o : Oper} {a : Act} {w : World} {K : Act → World → Prop} {Q : Exit → Act → World → Prop} (x y : Operand) (ho : o.op = .store 4 x y) (g : Nat) {c : Array Value} {b : Bool}
    (hx : a.eval x = .pointer (some ⟨g, 0, none⟩)) (hy : a.eval y = .bool b) (hr : HasRow w g c) (hn : c.size = 1) (h : K (a.put o.dst undef) (w.setRow g #[.bool b])) : o.wp Try.prog a w K Q := by
  have hz := hr.frozen 0
  have hc : w.cell? ⟨g, 0, none⟩ = some c[0] := by rw [hr.cell 0]; simp [hn]
  have e : w.setCell ⟨g, 0, none⟩ (.bool b) = w.setRow g #[.bool b] := by
    rw [hr.setCell]
    congr 1
    apply Array.ext
    · simp [hn]
    · intro i h1 h2
      simp [hn] at h1
      subst h1
      simp
  unfold Oper.wp
  have hrun : ∀ ev : Operand → Value, ev x = .pointer (some ⟨g, 0, none⟩) → ev y = .bool b → (execOp ev o).run Try.prog w = .ok .skip (w.setRow g #[.bool b]) := by
    intro ev hx hy
    simp [execOp, ho, hx, hy, go_sem, hc, hz, e]
  rw [hrun _ hx hy]
  simpa [go_sem] using h
theorem wp_boolF {o : Oper} {a : Act} {w : World} {K : Act → World → Prop} {Q : Exit → Act → World → Prop} (x : Operand) (ho : o.op = .load 4 x) (g : Nat) {b : Bool}
    (hx : a.eval x = .pointer (some ⟨g, 0, none⟩)) (hr : HasRow w g #[.bool b]) (h : K (a.put o.dst (.bool b)) w) : o.wp Try.prog a w K Q := by
  have hc : w.cell? ⟨g, 0, none⟩ = some (.bool b) := hr.cell 0
  have hrun : ∀ ev : Operand → Value, ev x = .pointer (some ⟨g, 0, none⟩) → (execOp ev o).run Try.prog w = .ok (.value (.bool b)) w := by
    intro ev hx
    simp [execOp, ho, hx, go_sem, hc]
  exact wp_valF (v := .bool b) (w1 := w) (hrun _ hx) h
structure CS1 (w : World) (N0 : Nat) (a b : Nat) (p s : Bool) (listed : Array Bool) (vs : Nat → Value) (w' : World) : Prop where
  bw : Below w.heap.size w w'
  ms : N0 ≤ w'.heap.size
  R0 : HasRow w' (w.heap.size) #[B (l0 a), B (l1 a), B (l2 a), B (l3 a)]
  R1 : HasRow w' (w.heap.size + 1) #[B (l0 b), B (l1 b), B (l2 b), B (l3 b)]
  R2 : HasRow w' (w.heap.size + 1 + 1) #[.int .u64 0, .int .u64 0, .int .u64 0, .int .u64 0]
  R3 : HasRow w' (w.heap.size + 1 + 1 + 1) #[.int .u64 0, .int .u64 0, .int .u64 0, .int .u64 0]
  c0 : listed.getD 0 false = true → vs 0 = U a
  c1 : listed.getD 1 false = true → vs 1 = .bool p
  c2 : listed.getD 2 false = true → vs 2 = U b
  c3 : listed.getD 3 false = true → vs 3 = .bool s
  c4 : listed.getD 4 false = true → ∃ g c, vs 4 = .pointer (some ⟨g, 0, none⟩) ∧ N0 ≤ g ∧ HasRow w' g c ∧ c.size = 1 ∧ (listed.getD 6 false = true → c = #[.bool p])
  c5 : listed.getD 5 false = true → ∃ g c, vs 5 = .pointer (some ⟨g, 0, none⟩) ∧ N0 ≤ g ∧ HasRow w' g c ∧ c.size = 1 ∧ (listed.getD 7 false = true → c = #[.bool s])
  c6 : listed.getD 6 false = true → listed.getD 4 false = true
  c7 : listed.getD 7 false = true → listed.getD 5 false = true
  ne4_5 : listed.getD 4 false = true → listed.getD 5 false = true → vs 4 ≠ vs 5

set_option maxRecDepth 100000 in
set_option maxHeartbeats 4000000 in
theorem laid_on (q r x y gq g4 g5 gl : Nat) (p s : Bool)
    (ht1 : Hid (∀ w, Calls Try.prog 47 #[U q, .bool (p != s)] w fun e w' => e = .returned (U x) ∧ Below w.heap.size w w'))
    (ht2 : Hid (∀ w, Calls Try.prog 47 #[U r, .bool p] w fun e w' => e = .returned (U y) ∧ Below w.heap.size w w')) (u : FrameMode) (w w1 : World)
    (R0_1 : Hid (HasRow w1 gq #[B (l0 q), B (l1 q), B (l2 q), B (l3 q)])) (R1_1 : Hid (HasRow w1 g4 #[.bool p])) (R2_1 : Hid (HasRow w1 g5 #[.bool s])) (R3_1 : Hid (HasRow w1 gl #[B (l0 r), B (l1 r), B (l2 r), B (l3 r)])) (B1 : Hid (Below w.heap.size w w1))
    (k0 : w.heap.size ≤ gq) (k1 : w.heap.size ≤ gl) (n1 : gq < gl) (n2 : gl < g4) (n3 : gl < g5) :
    CallsD Try.prog 46 #[.pointer (some ⟨gq, 0, none⟩), .pointer (some ⟨g4, 0, none⟩), .pointer (some ⟨g5, 0, none⟩), .pointer (some ⟨gl, 0, none⟩)] u w1 fun e u' w' => u' = u ∧ e = .returned (.tuple #[]) ∧ HasRow w' gq #[B (l0 x), B (l1 x), B (l2 x), B (l3 x)] ∧ HasRow w' gl #[B (l0 y), B (l1 y), B (l2 y), B (l3 y)] ∧ Below w.heap.size w w' := by
  go_enter_d Try.func46, Try.ntmps46
  have q0_1 := R0_1.out.lt
  have q1_1 := R1_1.out.lt
  have q2_1 := R2_1.out.lt
  have q3_1 := R3_1.out.lt
  have c0_0_1 : w1.cell? ⟨gq, 0, none⟩ = some (B (l0 q)) := R0_1.out.cell 0
  have c0_1_1 : w1.cell? ⟨gq, 1, none⟩ = some (B (l1 q)) := R0_1.out.cell 1
  have c0_2_1 : w1.cell? ⟨gq, 2, none⟩ = some (B (l2 q)) := R0_1.out.cell 2
  have c0_3_1 : w1.cell? ⟨gq, 3, none⟩ = some (B (l3 q)) := R0_1.out.cell 3
  have c1_0_1 : w1.cell? ⟨g4, 0, none⟩ = some (.bool p) := R1_1.out.cell 0
  have c2_0_1 : w1.cell? ⟨g5, 0, none⟩ = some (.bool s) := R2_1.out.cell 0
  go_wp2_with fail
  refine (ht1.out _).mono ?_
  rintro e w2 ⟨rfl, hb2⟩
  have R0_2 : Hid (HasRow w2 (gq) #[B (l0 q), B (l1 q), B (l2 q), B (l3 q)]) := R0_1.out.below hb2
  have R1_2 : Hid (HasRow w2 (g4) #[.bool p]) := R1_1.out.below hb2
  have R2_2 : Hid (HasRow w2 (g5) #[.bool s]) := R2_1.out.below hb2
  have R3_2 : Hid (HasRow w2 (gl) #[B (l0 r), B (l1 r), B (l2 r), B (l3 r)]) := R3_1.out.below hb2
  have B2 : Hid (Below w.heap.size w w2) := bel_call B1.out hb2
  clear hb2
  clear q0_1 q1_1 q2_1 q3_1 c0_0_1 c0_1_1 c0_2_1 c0_3_1 c1_0_1 c2_0_1
  have q0_2 := R0_2.out.lt
  have q1_2 := R1_2.out.lt
  have q2_2 := R2_2.out.lt
  have q3_2 := R3_2.out.lt
  have c0_0_2 : w2.cell? ⟨gq, 0, none⟩ = some (B (l0 q)) := R0_2.out.cell 0
  have c0_1_2 : w2.cell? ⟨gq, 1, none⟩ = some (B (l1 q)) := R0_2.out.cell 1
  have c0_2_2 : w2.cell? ⟨gq, 2, none⟩ = some (B (l2 q)) := R0_2.out.cell 2
  have c0_3_2 : w2.cell? ⟨gq, 3, none⟩ = some (B (l3 q)) := R0_2.out.cell 3
  have z0_0_2 := R0_2.out.frozen 0
  have z0_1_2 := R0_2.out.frozen 1
  have z0_2_2 := R0_2.out.frozen 2
  have z0_3_2 := R0_2.out.frozen 3
  go_upto_region 1 with fail
  refine name_world _ ?_
  intro w3 hF
  rw [set4 R0_2.out rfl] at hF
  have R0_3 : Hid (HasRow w3 (gq) #[B (l0 x), B (l1 x), B (l2 x), B (l3 x)]) := by rw [hF]; exact (R0_2.out.set_same _)
  have R1_3 : Hid (HasRow w3 (g4) #[.bool p]) := by rw [hF]; exact (R1_2.out.set_other _ (by omega))
  have R2_3 : Hid (HasRow w3 (g5) #[.bool s]) := by rw [hF]; exact (R2_2.out.set_other _ (by omega))
  have R3_3 : Hid (HasRow w3 (gl) #[B (l0 r), B (l1 r), B (l2 r), B (l3 r)]) := by rw [hF]; exact (R3_2.out.set_other _ (by omega))
  have B3 : Hid (Below w.heap.size w w3) := by rw [hF]; exact (below_setRow B2.out (by omega) _)
  clear hF
  clear q0_2 q1_2 q2_2 q3_2 c0_0_2 c0_1_2 c0_2_2 c0_3_2 z0_0_2 z0_1_2 z0_2_2 z0_3_2
  clear B2 R0_2 R1_2 R2_2 R3_2
  have q0_3 := R0_3.out.lt
  have q1_3 := R1_3.out.lt
  have q2_3 := R2_3.out.lt
  have q3_3 := R3_3.out.lt
  have c1_0_3 : w3.cell? ⟨g4, 0, none⟩ = some (.bool p) := R1_3.out.cell 0
  have c3_0_3 : w3.cell? ⟨gl, 0, none⟩ = some (B (l0 r)) := R3_3.out.cell 0
  have c3_1_3 : w3.cell? ⟨gl, 1, none⟩ = some (B (l1 r)) := R3_3.out.cell 1
  have c3_2_3 : w3.cell? ⟨gl, 2, none⟩ = some (B (l2 r)) := R3_3.out.cell 2
  have c3_3_3 : w3.cell? ⟨gl, 3, none⟩ = some (B (l3 r)) := R3_3.out.cell 3
  go_wp2_with fail
  refine (ht2.out _).mono ?_
  rintro e w4 ⟨rfl, hb4⟩
  have R0_4 : Hid (HasRow w4 (gq) #[B (l0 x), B (l1 x), B (l2 x), B (l3 x)]) := R0_3.out.below hb4
  have R1_4 : Hid (HasRow w4 (g4) #[.bool p]) := R1_3.out.below hb4
  have R2_4 : Hid (HasRow w4 (g5) #[.bool s]) := R2_3.out.below hb4
  have R3_4 : Hid (HasRow w4 (gl) #[B (l0 r), B (l1 r), B (l2 r), B (l3 r)]) := R3_3.out.below hb4
  have B4 : Hid (Below w.heap.size w w4) := bel_call B3.out hb4
  clear hb4
  clear q0_3 q1_3 q2_3 q3_3 c1_0_3 c3_0_3 c3_1_3 c3_2_3 c3_3_3
  have q0_4 := R0_4.out.lt
  have q1_4 := R1_4.out.lt
  have q2_4 := R2_4.out.lt
  have q3_4 := R3_4.out.lt
  have c3_0_4 : w4.cell? ⟨gl, 0, none⟩ = some (B (l0 r)) := R3_4.out.cell 0
  have c3_1_4 : w4.cell? ⟨gl, 1, none⟩ = some (B (l1 r)) := R3_4.out.cell 1
  have c3_2_4 : w4.cell? ⟨gl, 2, none⟩ = some (B (l2 r)) := R3_4.out.cell 2
  have c3_3_4 : w4.cell? ⟨gl, 3, none⟩ = some (B (l3 r)) := R3_4.out.cell 3
  have z3_0_4 := R3_4.out.frozen 0
  have z3_1_4 := R3_4.out.frozen 1
  have z3_2_4 := R3_4.out.frozen 2
  have z3_3_4 := R3_4.out.frozen 3
  go_wp2
  rw [set4 R3_4.out rfl]
  go_end0
  exact ⟨rfl, R0_4.out.set_other _ (by omega), R3_4.out.set_same _, below_setRow B4.out (by omega) _⟩
structure CS3 (w : World) (N0 : Nat) (a b x y q r : Nat) (p s : Bool) (g4 g5 : Nat) (listed : Array Bool) (vs : Nat → Value) (w' : World) : Prop where
  bw : Below w.heap.size w w'
  ms : N0 ≤ w'.heap.size
  R0 : HasRow w' (w.heap.size) #[B (l0 a), B (l1 a), B (l2 a), B (l3 a)]
  R1 : HasRow w' (w.heap.size + 1) #[B (l0 b), B (l1 b), B (l2 b), B (l3 b)]
  R2 : HasRow w' (g4) #[.bool p]
  R3 : HasRow w' (g5) #[.bool s]
  c0 : listed.getD 0 false = true → vs 0 = U a
  c1 : listed.getD 1 false = true → vs 1 = .bool p
  c2 : listed.getD 2 false = true → vs 2 = U x
  c3 : listed.getD 3 false = true → vs 3 = U b
  c4 : listed.getD 4 false = true → vs 4 = .bool s
  c5 : listed.getD 5 false = true → vs 5 = U y
  c6 : listed.getD 6 false = true → vs 6 = .tuple #[U q, U r]
  c7 : listed.getD 7 false = true → vs 7 = U q
  c8 : listed.getD 8 false = true → vs 8 = U r
  c9 : ∃ c, HasRow w' (w.heap.size + 1 + 1) c ∧ c.size = 4 ∧ (listed.getD 9 false = true → c = #[B (l0 q), B (l1 q), B (l2 q), B (l3 q)])
  c10 : ∃ c, HasRow w' (w.heap.size + 1 + 1 + 1) c ∧ c.size = 4 ∧ (listed.getD 10 false = true → c = #[B (l0 r), B (l1 r), B (l2 r), B (l3 r)])

set_option maxRecDepth 100000 in
set_option maxHeartbeats 4000000 in
theorem sdivide_raw (a b x y q r x' y' : Nat) (p s : Bool)
    (h1 : Hid (∀ w, Calls Try.prog 30 #[U a] w fun e w' => e = .returned (.bool p) ∧ Below w.heap.size w w'))
    (h2 : Hid (∀ w, Calls Try.prog 30 #[U b] w fun e w' => e = .returned (.bool s) ∧ Below w.heap.size w w'))
    (h3 : Hid (∀ w, Calls Try.prog 47 #[U a, .bool p] w fun e w' => e = .returned (U x) ∧ Below w.heap.size w w'))
    (h4 : Hid (∀ w, Calls Try.prog 47 #[U b, .bool s] w fun e w' => e = .returned (U y) ∧ Below w.heap.size w w'))
    (h5 : Hid (∀ w, Calls Try.prog 48 #[U x, U y] w fun e w' => e = .returned (.tuple #[U q, U r]) ∧ Below w.heap.size w w'))
    (h6 : Hid (∀ w, Calls Try.prog 47 #[U q, .bool (p != s)] w fun e w' => e = .returned (U x') ∧ Below w.heap.size w w'))
    (h7 : Hid (∀ w, Calls Try.prog 47 #[U r, .bool p] w fun e w' => e = .returned (U y') ∧ Below w.heap.size w w')) (w : World) :
    Calls Try.prog 24 #[U a, U b] w fun e w' => e = .returned (.tuple #[U x', U y']) ∧ Below w.heap.size w w' := by
  have hmf : ∀ (fn : Fn) (first cap : Array Value) (w : World), (Instr.makeFunc fn first cap).run Try.prog w = .ok (.func fn first cap) w := fun _ _ _ _ => rfl
  go_enter_defers Try.func24, Try.ntmps24
  go_wp2_with fail
  refine name_world _ ?_
  intro wF hF0
  have RF0 : Hid (HasRow wF (w.heap.size) #[B (l0 a), B (l1 a), B (l2 a), B (l3 a)]) := by rw [hF0]; exact (HasRow.old (HasRow.old (HasRow.old (HasRow.last (by simp)))))
  have RF1 : Hid (HasRow wF (w.heap.size + 1) #[B (l0 b), B (l1 b), B (l2 b), B (l3 b)]) := by rw [hF0]; exact (HasRow.old (HasRow.old (HasRow.last (by simp))))
  have RF2 : Hid (HasRow wF (w.heap.size + 1 + 1) #[.int .u64 0, .int .u64 0, .int .u64 0, .int .u64 0]) := by rw [hF0]; exact (HasRow.old (HasRow.last (by simp)))
  have RF3 : Hid (HasRow wF (w.heap.size + 1 + 1 + 1) #[.int .u64 0, .int .u64 0, .int .u64 0, .int .u64 0]) := by rw [hF0]; exact (HasRow.last (by simp))
  have BF : Hid (Below w.heap.size w wF) := by rw [hF0]; exact (bel_alloc (bel_alloc (bel_alloc (bel_alloc (Below.refl _ _) _) _) _) _)
  clear hF0
  obtain ⟨N0, hN0⟩ : ∃ n, n = wF.heap.size := ⟨_, rfl⟩
  have qF0 : w.heap.size < N0 := by rw [hN0]; exact RF0.out.lt
  have qF1 : w.heap.size + 1 < N0 := by rw [hN0]; exact RF1.out.lt
  have qF2 : w.heap.size + 1 + 1 < N0 := by rw [hN0]; exact RF2.out.lt
  have qF3 : w.heap.size + 1 + 1 + 1 < N0 := by rw [hN0]; exact RF3.out.lt
  refine wp_region_vals2 (by kernel_rfl) (by kernel_rfl) (by kernel_rfl) (CS1 w N0 a b p s) ?_ ?_ ?_
  · refine ⟨BF.out.drew, by rw [hN0]; exact Nat.le_refl _, RF0.out, RF1.out, RF2.out, RF3.out, ?_, ?_, ?_, ?_, ?_, ?_, ?_, ?_, ?_⟩ <;> (intro h; simp [Array.getD] at h)
  · intro listed vs a' w' i o' hs ho hi hF cc
    have hin : i < 8 := by have := (Array.getElem?_eq_some_iff.1 ho).1; simpa using this
    have hcase : i = 0 ∨ i = 1 ∨ i = 2 ∨ i = 3 ∨ i = 4 ∨ i = 5 ∨ i = 6 ∨ i = 7 := by omega
    rcases hcase with rfl | rfl | rfl | rfl | rfl | rfl | rfl | rfl
    · simp at ho
      subst ho
      have T : ∀ j, j ≠ 0 → (listed.setIfInBounds 0 true).getD j false = true → listed.getD j false = true := fun j hj h => (done_set h).resolve_left hj
      have S : ∀ j, listed.getD j false = true → (listed.setIfInBounds 0 true).getD j false = true := fun j h => done_keep h
      exact wp_rowF 24 (.tmp 2) rfl (w.heap.size) ((hF.old (by kernel_rfl)).trans rfl) cc.R0 rfl Try.underlying24 (by kernel_rfl) ⟨_, rfl, ⟨cc.bw, cc.ms, cc.R0, cc.R1, cc.R2, cc.R3, fun _ => rfl, fun h => cc.c1 (T 1 (by decide) h), fun h => cc.c2 (T 2 (by decide) h), fun h => cc.c3 (T 3 (by decide) h), fun h => by obtain ⟨g', c', e', k1, k2, k3, k4⟩ := cc.c4 (T 4 (by decide) h); exact ⟨g', c', e', k1, k2, k3, fun h6 => k4 (T 6 (by decide) h6)⟩, fun h => by obtain ⟨g', c', e', k1, k2, k3, k4⟩ := cc.c5 (T 5 (by decide) h); exact ⟨g', c', e', k1, k2, k3, fun h6 => k4 (T 7 (by decide) h6)⟩, fun h => S 4 (cc.c6 (T 6 (by decide) h)), fun h => S 5 (cc.c7 (T 7 (by decide) h)), fun h h' => cc.ne4_5 (T 4 (by decide) h) (T 5 (by decide) h')⟩⟩
    · simp at ho
      subst ho
      have T : ∀ j, j ≠ 1 → (listed.setIfInBounds 1 true).getD j false = true → listed.getD j false = true := fun j hj h => (done_set h).resolve_left hj
      have S : ∀ j, listed.getD j false = true → (listed.setIfInBounds 1 true).getD j false = true := fun j h => done_keep h
      have hv0 := ((hF.new (t := 8) (i := 0) (by kernel_rfl) (by simp) (waits_done (i := 1) (j := 0) (by kernel_rfl) hi)).trans (cc.c0 (waits_done (i := 1) (j := 0) (by kernel_rfl) hi)))
      refine wp_callF (f := 30) (args := #[U a]) (v := .bool p) (by simp [execOp_call_go, ev hv0, go_sem]) (h1.out w') ?_
      intro w'' hb''
      exact ⟨_, rfl, ⟨cc.bw.trans (hb''.mono cc.bw.size), Nat.le_trans cc.ms hb''.size, cc.R0.below hb'', cc.R1.below hb'', cc.R2.below hb'', cc.R3.below hb'', fun h => cc.c0 (T 0 (by decide) h), fun _ => rfl, fun h => cc.c2 (T 2 (by decide) h), fun h => cc.c3 (T 3 (by decide) h), fun h => by obtain ⟨g', c', e', k1, k2, k3, k4⟩ := cc.c4 (T 4 (by decide) h); exact ⟨g', c', e', k1, k2.below hb'', k3, fun h6 => k4 (T 6 (by decide) h6)⟩, fun h => by obtain ⟨g', c', e', k1, k2, k3, k4⟩ := cc.c5 (T 5 (by decide) h); exact ⟨g', c', e', k1, k2.below hb'', k3, fun h6 => k4 (T 7 (by decide) h6)⟩, fun h => S 4 (cc.c6 (T 6 (by decide) h)), fun h => S 5 (cc.c7 (T 7 (by decide) h)), fun h h' => cc.ne4_5 (T 4 (by decide) h) (T 5 (by decide) h')⟩⟩
    · simp at ho
      subst ho
      have T : ∀ j, j ≠ 2 → (listed.setIfInBounds 2 true).getD j false = true → listed.getD j false = true := fun j hj h => (done_set h).resolve_left hj
      have S : ∀ j, listed.getD j false = true → (listed.setIfInBounds 2 true).getD j false = true := fun j h => done_keep h
      exact wp_rowF 24 (.tmp 3) rfl (w.heap.size + 1) ((hF.old (by kernel_rfl)).trans rfl) cc.R1 rfl Try.underlying24 (by kernel_rfl) ⟨_, rfl, ⟨cc.bw, cc.ms, cc.R0, cc.R1, cc.R2, cc.R3, fun h => cc.c0 (T 0 (by decide) h), fun h => cc.c1 (T 1 (by decide) h), fun _ => rfl, fun h => cc.c3 (T 3 (by decide) h), fun h => by obtain ⟨g', c', e', k1, k2, k3, k4⟩ := cc.c4 (T 4 (by decide) h); exact ⟨g', c', e', k1, k2, k3, fun h6 => k4 (T 6 (by decide) h6)⟩, fun h => by obtain ⟨g', c', e', k1, k2, k3, k4⟩ := cc.c5 (T 5 (by decide) h); exact ⟨g', c', e', k1, k2, k3, fun h6 => k4 (T 7 (by decide) h6)⟩, fun h => S 4 (cc.c6 (T 6 (by decide) h)), fun h => S 5 (cc.c7 (T 7 (by decide) h)), fun h h' => cc.ne4_5 (T 4 (by decide) h) (T 5 (by decide) h')⟩⟩
    · simp at ho
      subst ho
      have T : ∀ j, j ≠ 3 → (listed.setIfInBounds 3 true).getD j false = true → listed.getD j false = true := fun j hj h => (done_set h).resolve_left hj
      have S : ∀ j, listed.getD j false = true → (listed.setIfInBounds 3 true).getD j false = true := fun j h => done_keep h
      have hv0 := ((hF.new (t := 10) (i := 2) (by kernel_rfl) (by simp) (waits_done (i := 3) (j := 2) (by kernel_rfl) hi)).trans (cc.c2 (waits_done (i := 3) (j := 2) (by kernel_rfl) hi)))
      refine wp_callF (f := 30) (args := #[U b]) (v := .bool s) (by simp [execOp_call_go, ev hv0, go_sem]) (h2.out w') ?_
      intro w'' hb''
      exact ⟨_, rfl, ⟨cc.bw.trans (hb''.mono cc.bw.size), Nat.le_trans cc.ms hb''.size, cc.R0.below hb'', cc.R1.below hb'', cc.R2.below hb'', cc.R3.below hb'', fun h => cc.c0 (T 0 (by decide) h), fun h => cc.c1 (T 1 (by decide) h), fun h => cc.c2 (T 2 (by decide) h), fun _ => rfl, fun h => by obtain ⟨g', c', e', k1, k2, k3, k4⟩ := cc.c4 (T 4 (by decide) h); exact ⟨g', c', e', k1, k2.below hb'', k3, fun h6 => k4 (T 6 (by decide) h6)⟩, fun h => by obtain ⟨g', c', e', k1, k2, k3, k4⟩ := cc.c5 (T 5 (by decide) h); exact ⟨g', c', e', k1, k2.below hb'', k3, fun h6 => k4 (T 7 (by decide) h6)⟩, fun h => S 4 (cc.c6 (T 6 (by decide) h)), fun h => S 5 (cc.c7 (T 7 (by decide) h)), fun h h' => cc.ne4_5 (T 4 (by decide) h) (T 5 (by decide) h')⟩⟩
    · simp at ho
      subst ho
      have T : ∀ j, j ≠ 4 → (listed.setIfInBounds 4 true).getD j false = true → listed.getD j false = true := fun j hj h => (done_set h).resolve_left hj
      have S : ∀ j, listed.getD j false = true → (listed.setIfInBounds 4 true).getD j false = true := fun j h => done_keep h
      have hun : ¬ listed.getD 4 false = true := fun h => undone hi hs h
      exact wp_valF (v := .pointer (some ⟨w'.heap.size, 0, none⟩)) (w1 := w'.alloc (.cells #[.bool false] 4)) (by simp [execOp, go_sem]) ⟨_, rfl, ⟨bel_alloc cc.bw _, by have := cc.ms; simp; omega, cc.R0.old, cc.R1.old, cc.R2.old, cc.R3.old, fun h => cc.c0 (T 0 (by decide) h), fun h => cc.c1 (T 1 (by decide) h), fun h => cc.c2 (T 2 (by decide) h), fun h => cc.c3 (T 3 (by decide) h), fun _ => ⟨w'.heap.size, #[.bool false], rfl, cc.ms, HasRow.last rfl, rfl, fun h6 => absurd (cc.c6 (T 6 (by decide) h6)) hun⟩, fun h => by obtain ⟨g', c', e', k1, k2, k3, k4⟩ := cc.c5 (T 5 (by decide) h); exact ⟨g', c', e', k1, k2.old, k3, fun h6 => k4 (T 7 (by decide) h6)⟩, fun h => S 4 (cc.c6 (T 6 (by decide) h)), fun h => S 5 (cc.c7 (T 7 (by decide) h)), fun _ h => by obtain ⟨g', c', e', k1, k2, k3, k4⟩ := cc.c5 (T 5 (by decide) h); have := k2.lt; show Value.pointer (some ⟨w'.heap.size, 0, none⟩) ≠ vs 5; rw [e']; intro q; simp at q; try omega⟩⟩
    · simp at ho
      subst ho
      have T : ∀ j, j ≠ 5 → (listed.setIfInBounds 5 true).getD j false = true → listed.getD j false = true := fun j hj h => (done_set h).resolve_left hj
      have S : ∀ j, listed.getD j false = true → (listed.setIfInBounds 5 true).getD j false = true := fun j h => done_keep h
      have hun : ¬ listed.getD 5 false = true := fun h => undone hi hs h
      exact wp_valF (v := .pointer (some ⟨w'.heap.size, 0, none⟩)) (w1 := w'.alloc (.cells #[.bool false] 4)) (by simp [execOp, go_sem]) ⟨_, rfl, ⟨bel_alloc cc.bw _, by have := cc.ms; simp; omega, cc.R0.old, cc.R1.old, cc.R2.old, cc.R3.old, fun h => cc.c0 (T 0 (by decide) h), fun h => cc.c1 (T 1 (by decide) h), fun h => cc.c2 (T 2 (by decide) h), fun h => cc.c3 (T 3 (by decide) h), fun h => by obtain ⟨g', c', e', k1, k2, k3, k4⟩ := cc.c4 (T 4 (by decide) h); exact ⟨g', c', e', k1, k2.old, k3, fun h6 => k4 (T 6 (by decide) h6)⟩, fun _ => ⟨w'.heap.size, #[.bool false], rfl, cc.ms, HasRow.last rfl, rfl, fun h6 => absurd (cc.c7 (T 7 (by decide) h6)) hun⟩, fun h => S 4 (cc.c6 (T 6 (by decide) h)), fun h => S 5 (cc.c7 (T 7 (by decide) h)), fun h _ => by obtain ⟨g', c', e', k1, k2, k3, k4⟩ := cc.c4 (T 4 (by decide) h); have := k2.lt; show vs 4 ≠ Value.pointer (some ⟨w'.heap.size, 0, none⟩); rw [e']; intro q; simp at q; try omega⟩⟩
    · simp at ho
      subst ho
      have T : ∀ j, j ≠ 6 → (listed.setIfInBounds 6 true).getD j false = true → listed.getD j false = true := fun j hj h => (done_set h).resolve_left hj
      have S : ∀ j, listed.getD j false = true → (listed.setIfInBounds 6 true).getD j false = true := fun j h => done_keep h
      have d4 := (waits_done (i := 6) (j := 4) (by kernel_rfl) hi)
      obtain ⟨g, c, e, h1, h2, h3, h4⟩ := cc.c4 d4
      have hx := (hF.new (t := 6) (i := 4) (by kernel_rfl) (by simp) d4).trans e
      have hv := ((hF.new (t := 9) (i := 1) (by kernel_rfl) (by simp) (waits_done (i := 6) (j := 1) (by kernel_rfl) hi)).trans (cc.c1 (waits_done (i := 6) (j := 1) (by kernel_rfl) hi)))
      exact wp_boolS (.tmp 6) (.tmp 9) rfl g hx hv h2 h3 ⟨_, rfl, ⟨below_setRow cc.bw (by omega) _, by rw [size_setRow]; exact cc.ms, cc.R0.set_other _ (by omega), cc.R1.set_other _ (by omega), cc.R2.set_other _ (by omega), cc.R3.set_other _ (by omega), fun h => cc.c0 (T 0 (by decide) h), fun h => cc.c1 (T 1 (by decide) h), fun h => cc.c2 (T 2 (by decide) h), fun h => cc.c3 (T 3 (by decide) h), fun h => ⟨g, _, e, h1, h2.set_same _, rfl, fun _ => rfl⟩, fun h => by obtain ⟨g', c', e', k1, k2, k3, k4⟩ := cc.c5 (T 5 (by decide) h); exact ⟨g', c', e', k1, k2.set_other _ (by rintro rfl; exact cc.ne4_5 d4 (T 5 (by decide) h) (by rw [e, e'])), k3, fun h6 => k4 (T 7 (by decide) h6)⟩, fun _ => S 4 d4, fun h => S 5 (cc.c7 (T 7 (by decide) h)), fun h h' => cc.ne4_5 (T 4 (by decide) h) (T 5 (by decide) h')⟩⟩
    · simp at ho
      subst ho
      have T : ∀ j, j ≠ 7 → (listed.setIfInBounds 7 true).getD j false = true → listed.getD j false = true := fun j hj h => (done_set h).resolve_left hj
      have S : ∀ j, listed.getD j false = true → (listed.setIfInBounds 7 true).getD j false = true := fun j h => done_keep h
      have d4 := (waits_done (i := 7) (j := 5) (by kernel_rfl) hi)
      obtain ⟨g, c, e, h1, h2, h3, h4⟩ := cc.c5 d4
      have hx := (hF.new (t := 7) (i := 5) (by kernel_rfl) (by simp) d4).trans e
      have hv := ((hF.new (t := 11) (i := 3) (by kernel_rfl) (by simp) (waits_done (i := 7) (j := 3) (by kernel_rfl) hi)).trans (cc.c3 (waits_done (i := 7) (j := 3) (by kernel_rfl) hi)))
      exact wp_boolS (.tmp 7) (.tmp 11) rfl g hx hv h2 h3 ⟨_, rfl, ⟨below_setRow cc.bw (by omega) _, by rw [size_setRow]; exact cc.ms, cc.R0.set_other _ (by omega), cc.R1.set_other _ (by omega), cc.R2.set_other _ (by omega), cc.R3.set_other _ (by omega), fun h => cc.c0 (T 0 (by decide) h), fun h => cc.c1 (T 1 (by decide) h), fun h => cc.c2 (T 2 (by decide) h), fun h => cc.c3 (T 3 (by decide) h), fun h => by obtain ⟨g', c', e', k1, k2, k3, k4⟩ := cc.c4 (T 4 (by decide) h); exact ⟨g', c', e', k1, k2.set_other _ (by rintro rfl; exact cc.ne4_5 (T 4 (by decide) h) d4 (by rw [e, e'])), k3, fun h6 => k4 (T 6 (by decide) h6)⟩, fun h => ⟨g, _, e, h1, h2.set_same _, rfl, fun _ => rfl⟩, fun h => S 4 (cc.c6 (T 6 (by decide) h)), fun _ => S 5 d4, fun h h' => cc.ne4_5 (T 4 (by decide) h) (T 5 (by decide) h')⟩⟩
  · intro listed vs a' w1 hd hF cc
    have e : a' = ({ tmps := #[U a, U b, .pointer (some ⟨w.heap.size, 0, none⟩), .pointer (some ⟨w.heap.size + 1, 0, none⟩), .pointer (some ⟨w.heap.size + 1 + 1, 0, none⟩), .pointer (some ⟨w.heap.size + 1 + 1 + 1, 0, none⟩), vs 4, vs 5, vs 0, vs 1, vs 2, vs 3, undef, undef, undef, undef, undef, undef, undef, undef, undef, undef], defers := [] } : Act) := (hF.all hd).trans (by kernel_rfl)
    subst e
    obtain ⟨g4, cx, e4, h14, h2, h3, h4⟩ := cc.c4 (hd 4 (by simp))
    rw [h4 (hd 6 (by simp))] at h2
    have RX4 : Hid (HasRow w1 g4 #[.bool p]) := h2
    clear h2 h3 h4
    obtain ⟨g5, cx, e5, h15, h2, h3, h4⟩ := cc.c5 (hd 5 (by simp))
    rw [h4 (hd 7 (by simp))] at h2
    have RX5 : Hid (HasRow w1 g5 #[.bool s]) := h2
    clear h2 h3 h4
    have ne4_5 : g4 ≠ g5 := fun h => cc.ne4_5 (hd 4 (by simp)) (hd 5 (by simp)) (by rw [e4, e5, h])
    have R0_1 : Hid (HasRow w1 (w.heap.size) #[B (l0 a), B (l1 a), B (l2 a), B (l3 a)]) := cc.R0
    have R1_1 : Hid (HasRow w1 (w.heap.size + 1) #[B (l0 b), B (l1 b), B (l2 b), B (l3 b)]) := cc.R1
    have R2_1 : Hid (HasRow w1 (w.heap.size + 1 + 1) #[.int .u64 0, .int .u64 0, .int .u64 0, .int .u64 0]) := cc.R2
    have R3_1 : Hid (HasRow w1 (w.heap.size + 1 + 1 + 1) #[.int .u64 0, .int .u64 0, .int .u64 0, .int .u64 0]) := cc.R3
    have B1 : Hid (Below w.heap.size w w1) := cc.bw
    rw [e4, e5]
    clear cc hd hF BF e4 e5 RF0 RF1 RF2 RF3
    have R4_1 : Hid (HasRow w1 g4 #[.bool p]) := RX4
    clear RX4
    have R5_1 : Hid (HasRow w1 g5 #[.bool s]) := RX5
    clear RX5
    have q0_1 := R0_1.out.lt
    have q1_1 := R1_1.out.lt
    have q2_1 := R2_1.out.lt
    have q3_1 := R3_1.out.lt
    have q4_1 := R4_1.out.lt
    have q5_1 := R5_1.out.lt
    have c0_0_1 : w1.cell? ⟨w.heap.size, 0, none⟩ = some (B (l0 a)) := R0_1.out.cell 0
    have c0_1_1 : w1.cell? ⟨w.heap.size, 1, none⟩ = some (B (l1 a)) := R0_1.out.cell 1
    have c0_2_1 : w1.cell? ⟨w.heap.size, 2, none⟩ = some (B (l2 a)) := R0_1.out.cell 2
    have c0_3_1 : w1.cell? ⟨w.heap.size, 3, none⟩ = some (B (l3 a)) := R0_1.out.cell 3
    have c1_0_1 : w1.cell? ⟨w.heap.size + 1, 0, none⟩ = some (B (l0 b)) := R1_1.out.cell 0
    have c1_1_1 : w1.cell? ⟨w.heap.size + 1, 1, none⟩ = some (B (l1 b)) := R1_1.out.cell 1
    have c1_2_1 : w1.cell? ⟨w.heap.size + 1, 2, none⟩ = some (B (l2 b)) := R1_1.out.cell 2
    have c1_3_1 : w1.cell? ⟨w.heap.size + 1, 3, none⟩ = some (B (l3 b)) := R1_1.out.cell 3
    go_wp2_with fail
    generalize vs 0 = v0, vs 1 = v1, vs 2 = v2, vs 3 = v3 at *
    refine wp_region_vals2 (by kernel_rfl) (by kernel_rfl) (by kernel_rfl) (CS3 w 0 a b x y q r p s g4 g5) ?_ ?_ ?_
    · refine ⟨B1.out.drew, Nat.zero_le _, R0_1.out, R1_1.out, R4_1.out, R5_1.out, ?_, ?_, ?_, ?_, ?_, ?_, ?_, ?_, ?_, ⟨_, R2_1.out, rfl, ?_⟩, ⟨_, R3_1.out, rfl, ?_⟩⟩ <;> (intro h; simp [Array.getD] at h)
    · intro listed vs a' w' i o' hs ho hi hF cc
      have hin : i < 11 := by have := (Array.getElem?_eq_some_iff.1 ho).1; simpa using this
      have hcase : i = 0 ∨ i = 1 ∨ i = 2 ∨ i = 3 ∨ i = 4 ∨ i = 5 ∨ i = 6 ∨ i = 7 ∨ i = 8 ∨ i = 9 ∨ i = 10 := by omega
      rcases hcase with rfl | rfl | rfl | rfl | rfl | rfl | rfl | rfl | rfl | rfl | rfl
      · simp at ho
        subst ho
        have T : ∀ j, j ≠ 0 → (listed.setIfInBounds 0 true).getD j false = true → listed.getD j false = true := fun j hj h => (done_set h).resolve_left hj
        have S : ∀ j, listed.getD j false = true → (listed.setIfInBounds 0 true).getD j false = true := fun j h => done_keep h
        exact wp_rowF 24 (.tmp 2) rfl (w.heap.size) ((hF.old (by kernel_rfl)).trans rfl) cc.R0 rfl Try.underlying24 (by kernel_rfl) ⟨_, rfl, ⟨cc.bw, cc.ms, cc.R0, cc.R1, cc.R2, cc.R3, fun _ => rfl, fun h => cc.c1 (T 1 (by decide) h), fun h => cc.c2 (T 2 (by decide) h), fun h => cc.c3 (T 3 (by decide) h), fun h => cc.c4 (T 4 (by decide) h), fun h => cc.c5 (T 5 (by decide) h), fun h => cc.c6 (T 6 (by decide) h), fun h => cc.c7 (T 7 (by decide) h), fun h => cc.c8 (T 8 (by decide) h), by obtain ⟨c', k2, k3, k4⟩ := cc.c9; exact ⟨c', k2, k3, fun h6 => k4 (T 9 (by decide) h6)⟩, by obtain ⟨c', k2, k3, k4⟩ := cc.c10; exact ⟨c', k2, k3, fun h6 => k4 (T 10 (by decide) h6)⟩⟩⟩
      · simp at ho
        subst ho
        have T : ∀ j, j ≠ 1 → (listed.setIfInBounds 1 true).getD j false = true → listed.getD j false = true := fun j hj h => (done_set h).resolve_left hj
        have S : ∀ j, listed.getD j false = true → (listed.setIfInBounds 1 true).getD j false = true := fun j h => done_keep h
        exact wp_boolF (.tmp 6) rfl (g4) ((hF.old (by kernel_rfl)).trans rfl) cc.R2 ⟨_, rfl, ⟨cc.bw, cc.ms, cc.R0, cc.R1, cc.R2, cc.R3, fun h => cc.c0 (T 0 (by decide) h), fun _ => rfl, fun h => cc.c2 (T 2 (by decide) h), fun h => cc.c3 (T 3 (by decide) h), fun h => cc.c4 (T 4 (by decide) h), fun h => cc.c5 (T 5 (by decide) h), fun h => cc.c6 (T 6 (by decide) h), fun h => cc.c7 (T 7 (by decide) h), fun h => cc.c8 (T 8 (by decide) h), by obtain ⟨c', k2, k3, k4⟩ := cc.c9; exact ⟨c', k2, k3, fun h6 => k4 (T 9 (by decide) h6)⟩, by obtain ⟨c', k2, k3, k4⟩ := cc.c10; exact ⟨c', k2, k3, fun h6 => k4 (T 10 (by decide) h6)⟩⟩⟩
      · simp at ho
        subst ho
        have T : ∀ j, j ≠ 2 → (listed.setIfInBounds 2 true).getD j false = true → listed.getD j false = true := fun j hj h => (done_set h).resolve_left hj
        have S : ∀ j, listed.getD j false = true → (listed.setIfInBounds 2 true).getD j false = true := fun j h => done_keep h
        have hv0 := ((hF.new (t := 13) (i := 0) (by kernel_rfl) (by simp) (waits_done (i := 2) (j := 0) (by kernel_rfl) hi)).trans (cc.c0 (waits_done (i := 2) (j := 0) (by kernel_rfl) hi)))
        have hv1 := ((hF.new (t := 14) (i := 1) (by kernel_rfl) (by simp) (waits_done (i := 2) (j := 1) (by kernel_rfl) hi)).trans (cc.c1 (waits_done (i := 2) (j := 1) (by kernel_rfl) hi)))
        refine wp_callF (f := 47) (args := #[U a, .bool p]) (v := U x) (by simp [execOp_call_go, ev hv0, ev hv1, go_sem]) (h3.out w') ?_
        intro w'' hb''
        exact ⟨_, rfl, ⟨cc.bw.trans (hb''.mono cc.bw.size), Nat.le_trans cc.ms hb''.size, cc.R0.below hb'', cc.R1.below hb'', cc.R2.below hb'', cc.R3.below hb'', fun h => cc.c0 (T 0 (by decide) h), fun h => cc.c1 (T 1 (by decide) h), fun _ => rfl, fun h => cc.c3 (T 3 (by decide) h), fun h => cc.c4 (T 4 (by decide) h), fun h => cc.c5 (T 5 (by decide) h), fun h => cc.c6 (T 6 (by decide) h), fun h => cc.c7 (T 7 (by decide) h), fun h => cc.c8 (T 8 (by decide) h), by obtain ⟨c', k2, k3, k4⟩ := cc.c9; exact ⟨c', k2.below hb'', k3, fun h6 => k4 (T 9 (by decide) h6)⟩, by obtain ⟨c', k2, k3, k4⟩ := cc.c10; exact ⟨c', k2.below hb'', k3, fun h6 => k4 (T 10 (by decide) h6)⟩⟩⟩
      · simp at ho
        subst ho
        have T : ∀ j, j ≠ 3 → (listed.setIfInBounds 3 true).getD j false = true → listed.getD j false = true := fun j hj h => (done_set h).resolve_left hj
        have S : ∀ j, listed.getD j false = true → (listed.setIfInBounds 3 true).getD j false = true := fun j h => done_keep h
        exact wp_rowF 24 (.tmp 3) rfl (w.heap.size + 1) ((hF.old (by kernel_rfl)).trans rfl) cc.R1 rfl Try.underlying24 (by kernel_rfl) ⟨_, rfl, ⟨cc.bw, cc.ms, cc.R0, cc.R1, cc.R2, cc.R3, fun h => cc.c0 (T 0 (by decide) h), fun h => cc.c1 (T 1 (by decide) h), fun h => cc.c2 (T 2 (by decide) h), fun _ => rfl, fun h => cc.c4 (T 4 (by decide) h), fun h => cc.c5 (T 5 (by decide) h), fun h => cc.c6 (T 6 (by decide) h), fun h => cc.c7 (T 7 (by decide) h), fun h => cc.c8 (T 8 (by decide) h), by obtain ⟨c', k2, k3, k4⟩ := cc.c9; exact ⟨c', k2, k3, fun h6 => k4 (T 9 (by decide) h6)⟩, by obtain ⟨c', k2, k3, k4⟩ := cc.c10; exact ⟨c', k2, k3, fun h6 => k4 (T 10 (by decide) h6)⟩⟩⟩
      · simp at ho
        subst ho
        have T : ∀ j, j ≠ 4 → (listed.setIfInBounds 4 true).getD j false = true → listed.getD j false = true := fun j hj h => (done_set h).resolve_left hj
        have S : ∀ j, listed.getD j false = true → (listed.setIfInBounds 4 true).getD j false = true := fun j h => done_keep h
        exact wp_boolF (.tmp 7) rfl (g5) ((hF.old (by kernel_rfl)).trans rfl) cc.R3 ⟨_, rfl, ⟨cc.bw, cc.ms, cc.R0, cc.R1, cc.R2, cc.R3, fun h => cc.c0 (T 0 (by decide) h), fun h => cc.c1 (T 1 (by decide) h), fun h => cc.c2 (T 2 (by decide) h), fun h => cc.c3 (T 3 (by decide) h), fun _ => rfl, fun h => cc.c5 (T 5 (by decide) h), fun h => cc.c6 (T 6 (by decide) h), fun h => cc.c7 (T 7 (by decide) h), fun h => cc.c8 (T 8 (by decide) h), by obtain ⟨c', k2, k3, k4⟩ := cc.c9; exact ⟨c', k2, k3, fun h6 => k4 (T 9 (by decide) h6)⟩, by obtain ⟨c', k2, k3, k4⟩ := cc.c10; exact ⟨c', k2, k3, fun h6 => k4 (T 10 (by decide) h6)⟩⟩⟩
      · simp at ho
        subst ho
        have T : ∀ j, j ≠ 5 → (listed.setIfInBounds 5 true).getD j false = true → listed.getD j false = true := fun j hj h => (done_set h).resolve_left hj
        have S : ∀ j, listed.getD j false = true → (listed.setIfInBounds 5 true).getD j false = true := fun j h => done_keep h
        have hv0 := ((hF.new (t := 16) (i := 3) (by kernel_rfl) (by simp) (waits_done (i := 5) (j := 3) (by kernel_rfl) hi)).trans (cc.c3 (waits_done (i := 5) (j := 3) (by kernel_rfl) hi)))
        have hv1 := ((hF.new (t := 17) (i := 4) (by kernel_rfl) (by simp) (waits_done (i := 5) (j := 4) (by kernel_rfl) hi)).trans (cc.c4 (waits_done (i := 5) (j := 4) (by kernel_rfl) hi)))
        refine wp_callF (f := 47) (args := #[U b, .bool s]) (v := U y) (by simp [execOp_call_go, ev hv0, ev hv1, go_sem]) (h4.out w') ?_
        intro w'' hb''
        exact ⟨_, rfl, ⟨cc.bw.trans (hb''.mono cc.bw.size), Nat.le_trans cc.ms hb''.size, cc.R0.below hb'', cc.R1.below hb'', cc.R2.below hb'', cc.R3.below hb'', fun h => cc.c0 (T 0 (by decide) h), fun h => cc.c1 (T 1 (by decide) h), fun h => cc.c2 (T 2 (by decide) h), fun h => cc.c3 (T 3 (by decide) h), fun h => cc.c4 (T 4 (by decide) h), fun _ => rfl, fun h => cc.c6 (T 6 (by decide) h), fun h => cc.c7 (T 7 (by decide) h), fun h => cc.c8 (T 8 (by decide) h), by obtain ⟨c', k2, k3, k4⟩ := cc.c9; exact ⟨c', k2.below hb'', k3, fun h6 => k4 (T 9 (by decide) h6)⟩, by obtain ⟨c', k2, k3, k4⟩ := cc.c10; exact ⟨c', k2.below hb'', k3, fun h6 => k4 (T 10 (by decide) h6)⟩⟩⟩
      · simp at ho
        subst ho
        have T : ∀ j, j ≠ 6 → (listed.setIfInBounds 6 true).getD j false = true → listed.getD j false = true := fun j hj h => (done_set h).resolve_left hj
        have S : ∀ j, listed.getD j false = true → (listed.setIfInBounds 6 true).getD j false = true := fun j h => done_keep h
        have hv0 := ((hF.new (t := 15) (i := 2) (by kernel_rfl) (by simp) (waits_done (i := 6) (j := 2) (by kernel_rfl) hi)).trans (cc.c2 (waits_done (i := 6) (j := 2) (by kernel_rfl) hi)))
        have hv1 := ((hF.new (t := 18) (i := 5) (by kernel_rfl) (by simp) (waits_done (i := 6) (j := 5) (by kernel_rfl) hi)).trans (cc.c5 (waits_done (i := 6) (j := 5) (by kernel_rfl) hi)))
        refine wp_callF (f := 48) (args := #[U x, U y]) (v := .tuple #[U q, U r]) (by simp [execOp_call_go, ev hv0, ev hv1, go_sem]) (h5.out w') ?_
        intro w'' hb''
        exact ⟨_, rfl, ⟨cc.bw.trans (hb''.mono cc.bw.size), Nat.le_trans cc.ms hb''.size, cc.R0.below hb'', cc.R1.below hb'', cc.R2.below hb'', cc.R3.below hb'', fun h => cc.c0 (T 0 (by decide) h), fun h => cc.c1 (T 1 (by decide) h), fun h => cc.c2 (T 2 (by decide) h), fun h => cc.c3 (T 3 (by decide) h), fun h => cc.c4 (T 4 (by decide) h), fun h => cc.c5 (T 5 (by decide) h), fun _ => rfl, fun h => cc.c7 (T 7 (by decide) h), fun h => cc.c8 (T 8 (by decide) h), by obtain ⟨c', k2, k3, k4⟩ := cc.c9; exact ⟨c', k2.below hb'', k3, fun h6 => k4 (T 9 (by decide) h6)⟩, by obtain ⟨c', k2, k3, k4⟩ := cc.c10; exact ⟨c', k2.below hb'', k3, fun h6 => k4 (T 10 (by decide) h6)⟩⟩⟩
      · simp at ho
        subst ho
        have T : ∀ j, j ≠ 7 → (listed.setIfInBounds 7 true).getD j false = true → listed.getD j false = true := fun j hj h => (done_set h).resolve_left hj
        have S : ∀ j, listed.getD j false = true → (listed.setIfInBounds 7 true).getD j false = true := fun j h => done_keep h
        have hv := ((hF.new (t := 19) (i := 6) (by kernel_rfl) (by simp) (waits_done (i := 7) (j := 6) (by kernel_rfl) hi)).trans (cc.c6 (waits_done (i := 7) (j := 6) (by kernel_rfl) hi)))
        exact wp_valF (v := U q) (w1 := w') (by simp [execOp, go_sem, ev hv]) ⟨_, rfl, ⟨cc.bw, cc.ms, cc.R0, cc.R1, cc.R2, cc.R3, fun h => cc.c0 (T 0 (by decide) h), fun h => cc.c1 (T 1 (by decide) h), fun h => cc.c2 (T 2 (by decide) h), fun h => cc.c3 (T 3 (by decide) h), fun h => cc.c4 (T 4 (by decide) h), fun h => cc.c5 (T 5 (by decide) h), fun h => cc.c6 (T 6 (by decide) h), fun _ => rfl, fun h => cc.c8 (T 8 (by decide) h), by obtain ⟨c', k2, k3, k4⟩ := cc.c9; exact ⟨c', k2, k3, fun h6 => k4 (T 9 (by decide) h6)⟩, by obtain ⟨c', k2, k3, k4⟩ := cc.c10; exact ⟨c', k2, k3, fun h6 => k4 (T 10 (by decide) h6)⟩⟩⟩
      · simp at ho
        subst ho
        have T : ∀ j, j ≠ 8 → (listed.setIfInBounds 8 true).getD j false = true → listed.getD j false = true := fun j hj h => (done_set h).resolve_left hj
        have S : ∀ j, listed.getD j false = true → (listed.setIfInBounds 8 true).getD j false = true := fun j h => done_keep h
        have hv := ((hF.new (t := 19) (i := 6) (by kernel_rfl) (by simp) (waits_done (i := 8) (j := 6) (by kernel_rfl) hi)).trans (cc.c6 (waits_done (i := 8) (j := 6) (by kernel_rfl) hi)))
        exact wp_valF (v := U r) (w1 := w') (by simp [execOp, go_sem, ev hv]) ⟨_, rfl, ⟨cc.bw, cc.ms, cc.R0, cc.R1, cc.R2, cc.R3, fun h => cc.c0 (T 0 (by decide) h), fun h => cc.c1 (T 1 (by decide) h), fun h => cc.c2 (T 2 (by decide) h), fun h => cc.c3 (T 3 (by decide) h), fun h => cc.c4 (T 4 (by decide) h), fun h => cc.c5 (T 5 (by decide) h), fun h => cc.c6 (T 6 (by decide) h), fun h => cc.c7 (T 7 (by decide) h), fun _ => rfl, by obtain ⟨c', k2, k3, k4⟩ := cc.c9; exact ⟨c', k2, k3, fun h6 => k4 (T 9 (by decide) h6)⟩, by obtain ⟨c', k2, k3, k4⟩ := cc.c10; exact ⟨c', k2, k3, fun h6 => k4 (T 10 (by decide) h6)⟩⟩⟩
      · simp at ho
        subst ho
        have T : ∀ j, j ≠ 9 → (listed.setIfInBounds 9 true).getD j false = true → listed.getD j false = true := fun j hj h => (done_set h).resolve_left hj
        have S : ∀ j, listed.getD j false = true → (listed.setIfInBounds 9 true).getD j false = true := fun j h => done_keep h
        have hv := ((hF.new (t := 20) (i := 7) (by kernel_rfl) (by simp) (waits_done (i := 9) (j := 7) (by kernel_rfl) hi)).trans (cc.c7 (waits_done (i := 9) (j := 7) (by kernel_rfl) hi)))
        obtain ⟨c, h2, h3, h4⟩ := cc.c9
        exact wp_rowS 24 (.tmp 4) (.tmp 20) rfl (w.heap.size + 1 + 1) (c' := #[B (l0 q), B (l1 q), B (l2 q), B (l3 q)]) ((hF.old (by kernel_rfl)).trans rfl) hv h2 h3 rfl (by simp [Value.oneCell']) (by kernel_rfl) ⟨_, rfl, ⟨below_setRow cc.bw (by omega) _, by rw [size_setRow]; exact cc.ms, cc.R0.set_other _ (by omega), cc.R1.set_other _ (by omega), cc.R2.set_other _ (by omega), cc.R3.set_other _ (by omega), fun h => cc.c0 (T 0 (by decide) h), fun h => cc.c1 (T 1 (by decide) h), fun h => cc.c2 (T 2 (by decide) h), fun h => cc.c3 (T 3 (by decide) h), fun h => cc.c4 (T 4 (by decide) h), fun h => cc.c5 (T 5 (by decide) h), fun h => cc.c6 (T 6 (by decide) h), fun h => cc.c7 (T 7 (by decide) h), fun h => cc.c8 (T 8 (by decide) h), ⟨_, h2.set_same _, rfl, fun _ => rfl⟩, by obtain ⟨c', k2, k3, k4⟩ := cc.c10; exact ⟨c', k2.set_other _ (by omega), k3, fun h6 => k4 (T 10 (by decide) h6)⟩⟩⟩
      · simp at ho
        subst ho
        have T : ∀ j, j ≠ 10 → (listed.setIfInBounds 10 true).getD j false = true → listed.getD j false = true := fun j hj h => (done_set h).resolve_left hj
        have S : ∀ j, listed.getD j false = true → (listed.setIfInBounds 10 true).getD j false = true := fun j h => done_keep h
        have hv := ((hF.new (t := 21) (i := 8) (by kernel_rfl) (by simp) (waits_done (i := 10) (j := 8) (by kernel_rfl) hi)).trans (cc.c8 (waits_done (i := 10) (j := 8) (by kernel_rfl) hi)))
        obtain ⟨c, h2, h3, h4⟩ := cc.c10
        exact wp_rowS 24 (.tmp 5) (.tmp 21) rfl (w.heap.size + 1 + 1 + 1) (c' := #[B (l0 r), B (l1 r), B (l2 r), B (l3 r)]) ((hF.old (by kernel_rfl)).trans rfl) hv h2 h3 rfl (by simp [Value.oneCell']) (by kernel_rfl) ⟨_, rfl, ⟨below_setRow cc.bw (by omega) _, by rw [size_setRow]; exact cc.ms, cc.R0.set_other _ (by omega), cc.R1.set_other _ (by omega), cc.R2.set_other _ (by omega), cc.R3.set_other _ (by omega), fun h => cc.c0 (T 0 (by decide) h), fun h => cc.c1 (T 1 (by decide) h), fun h => cc.c2 (T 2 (by decide) h), fun h => cc.c3 (T 3 (by decide) h), fun h => cc.c4 (T 4 (by decide) h), fun h => cc.c5 (T 5 (by decide) h), fun h => cc.c6 (T 6 (by decide) h), fun h => cc.c7 (T 7 (by decide) h), fun h => cc.c8 (T 8 (by decide) h), by obtain ⟨c', k2, k3, k4⟩ := cc.c9; exact ⟨c', k2.set_other _ (by omega), k3, fun h6 => k4 (T 9 (by decide) h6)⟩, ⟨_, h2.set_same _, rfl, fun _ => rfl⟩⟩⟩
    · intro listed vs a' w' hd hF cc
      obtain ⟨c, h2, h3, h4⟩ := cc.c9
      obtain ⟨c', k2, k3, k4⟩ := cc.c10
      rw [h4 (hd 9 (by simp))] at h2
      rw [k4 (hd 10 (by simp))] at k2
      have e : a' = ({ tmps := #[U a, U b, .pointer (some ⟨w.heap.size, 0, none⟩), .pointer (some ⟨w.heap.size + 1, 0, none⟩), .pointer (some ⟨w.heap.size + 1 + 1, 0, none⟩), .pointer (some ⟨w.heap.size + 1 + 1 + 1, 0, none⟩), .pointer (some ⟨g4, 0, none⟩), .pointer (some ⟨g5, 0, none⟩), v0, v1, v2, v3, .func (.func 46) #[] #[.pointer (some ⟨w.heap.size + 1 + 1, 0, none⟩), .pointer (some ⟨g4, 0, none⟩), .pointer (some ⟨g5, 0, none⟩), .pointer (some ⟨w.heap.size + 1 + 1 + 1, 0, none⟩)], vs 0, vs 1, vs 2, vs 3, vs 4, vs 5, vs 6, vs 7, vs 8], defers := [{ target := .fn (.func 46) #[.pointer (some ⟨w.heap.size + 1 + 1, 0, none⟩), .pointer (some ⟨g4, 0, none⟩), .pointer (some ⟨g5, 0, none⟩), .pointer (some ⟨w.heap.size + 1 + 1 + 1, 0, none⟩)], args := #[] }] } : Act) := (hF.all hd).trans (by kernel_rfl)
      subst e
      have F4 : Hid (HasRow w' g4 #[.bool p]) := cc.R2
      have F5 : Hid (HasRow w' g5 #[.bool s]) := cc.R3
      have FQ : Hid (HasRow w' (w.heap.size + 1 + 1) #[B (l0 q), B (l1 q), B (l2 q), B (l3 q)]) := h2
      have FR : Hid (HasRow w' (w.heap.size + 1 + 1 + 1) #[B (l0 r), B (l1 r), B (l2 r), B (l3 r)]) := k2
      have FB : Hid _ := cc.bw
      clear cc hd hF h2 h3 h4 k2 k3 k4
      go_wp2
      refine leaves_cons (f := 46) (args := #[.pointer (some ⟨w.heap.size + 1 + 1, 0, none⟩), .pointer (some ⟨g4, 0, none⟩), .pointer (some ⟨g5, 0, none⟩), .pointer (some ⟨w.heap.size + 1 + 1 + 1, 0, none⟩)]) (by simp) (by simp [go_sem]) ?_
      refine (laid_on q r x' y' (w.heap.size + 1 + 1) g4 g5 (w.heap.size + 1 + 1 + 1) p s h6 h7 .returning w _ FQ F4 F5 FR FB (by omega) (by omega) (by omega) (by omega) (by omega)).mono ?_
      rintro e u' w'' ⟨rfl, rfl, X1, X2, X3⟩
      have hr := results_cell2 (P := Try.prog) (fn := Try.f24) rfl ({ tmps := #[U a, U b, .pointer (some ⟨w.heap.size, 0, none⟩), .pointer (some ⟨w.heap.size + 1, 0, none⟩), .pointer (some ⟨w.heap.size + 1 + 1, 0, none⟩), .pointer (some ⟨w.heap.size + 1 + 1 + 1, 0, none⟩), .pointer (some ⟨g4, 0, none⟩), .pointer (some ⟨g5, 0, none⟩), v0, v1, v2, v3, .func (.func 46) #[] #[.pointer (some ⟨w.heap.size + 1 + 1, 0, none⟩), .pointer (some ⟨g4, 0, none⟩), .pointer (some ⟨g5, 0, none⟩), .pointer (some ⟨w.heap.size + 1 + 1 + 1, 0, none⟩)], vs 0, vs 1, vs 2, vs 3, vs 4, vs 5, vs 6, vs 7, vs 8], defers := [] } : Act) w'' (g := w.heap.size + 1 + 1) (g2 := w.heap.size + 1 + 1 + 1) rfl rfl X1 X2 rfl rfl Try.underlying24 (by kernel_rfl) Try.underlying24 (by kernel_rfl)
      exact ⟨_, hr, rfl, X3⟩
end Go.Proofs.Ytbfgeinneglpdaa
