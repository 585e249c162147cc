/- Merged: Ma, Bt, Bu, Po, Pp, Rq, Eu, In, A3. -/
import Derived.Test.YtillbhdcnhcbhaaAw
import Derived.Test.YtillbhdcnhcbhaaQc
import Derived.Test.YtillbhdcnhcbhaaRd2
import Derived.Lib.QuietBelow
import Derived.BigQuiet
import Derived.Test.YtillbhdcnhcbhaaWt
import Derived.Test.YtillbhdcnhcbhaaOl
import Derived.Test.YtillbhdcnhcbhaaLa
import Derived.Deep.Light
import Derived.Test.YtillbhdcnhcbhaaCs
import Derived.Lib.ItoaNum
import Derived.Test.YtillbhdcnhcbhaaRz
import Derived.Test.YtillbhdcnhcbhaaDc
import Derived.WalkMore
/- Sums and products by a modulus: the program's and the document's. -/
namespace Go.Proofs.Ytillbhdcnhcbhaa
open Go.RowKit Go.Sort
set_option linter.unusedVariables false
attribute [local go_sem] run_eq4 run_eqU_same

set_option maxRecDepth 100000 in
set_option maxHeartbeats 4000000 in
theorem mulmod_raw (a b m h l x : Nat)
    (c1 : Hid (∀ w, Calls Try.prog 33 #[U a, U b] w fun e w' => e = .returned (.tuple #[U h, U l]) ∧ Below w.heap.size w w'))
    (c2 : Hid (∀ w, Calls Try.prog 11 #[U h, U l, U m] w fun e w' => e = .returned (U x) ∧ Below w.heap.size w w')) (w : World) :
    Calls Try.prog 18 #[U a, U b, U m] w fun e w' => e = .returned (U x) ∧ Below w.heap.size w w' := by
  go_enter Try.func18, Try.ntmps18
  go_wp2_with fail
  refine (c1.out _).mono ?_
  rintro e w1 ⟨rfl, hb1⟩
  have Rm : Hid (HasRow w1 (w.heap.size + 1 + 1) #[B (l0 m), B (l1 m), B (l2 m), B (l3 m)]) := (HasRow.old (HasRow.last (by simp))).below hb1
  have Rr : Hid (HasRow w1 (w.heap.size + 1 + 1 + 1) #[.int .u64 0, .int .u64 0, .int .u64 0, .int .u64 0]) := (HasRow.last (by simp)).below hb1
  have B1 : Hid (Below w.heap.size w w1) := bel_call (by (repeat (first | exact Below.refl _ _ | refine bel_alloc ?_ _))) hb1
  have m0 : w1.cell? ⟨w.heap.size + 1 + 1, 0, none⟩ = some (B (l0 m)) := Rm.out.cell 0
  have m1 : w1.cell? ⟨w.heap.size + 1 + 1, 1, none⟩ = some (B (l1 m)) := Rm.out.cell 1
  have m2 : w1.cell? ⟨w.heap.size + 1 + 1, 2, none⟩ = some (B (l2 m)) := Rm.out.cell 2
  have m3 : w1.cell? ⟨w.heap.size + 1 + 1, 3, none⟩ = some (B (l3 m)) := Rm.out.cell 3
  have mz := Rr.out.lt
  have mq0 : w.heap.size < w1.heap.size := by omega
  have mq1 : w.heap.size + 1 < w1.heap.size := by omega
  have mq2 : w.heap.size + 1 + 1 < w1.heap.size := by omega
  have mq3 : w.heap.size + 1 + 1 + 1 < w1.heap.size := by omega
  clear hb1
  go_wp2_with fail
  refine (c2.out _).mono ?_
  rintro e w2 ⟨rfl, hb2⟩
  have R2 : Hid (HasRow w2 (w.heap.size + 1 + 1 + 1) #[.int .u64 0, .int .u64 0, .int .u64 0, .int .u64 0]) := (HasRow.old (HasRow.old Rr.out)).below hb2
  have B2 : Hid (Below w.heap.size w w2) := bel_call (bel_alloc (bel_alloc B1.out _) _) hb2
  clear hb2 Rr B1 m0 m1 m2 m3 mq0 mq1 mq2 mq3 mz Rm
  have g0 : w2.cell? ⟨w.heap.size + 1 + 1 + 1, 0, none⟩ = some (.int .u64 0) := R2.out.cell 0
  have g1 : w2.cell? ⟨w.heap.size + 1 + 1 + 1, 1, none⟩ = some (.int .u64 0) := R2.out.cell 1
  have g2 : w2.cell? ⟨w.heap.size + 1 + 1 + 1, 2, none⟩ = some (.int .u64 0) := R2.out.cell 2
  have g3 : w2.cell? ⟨w.heap.size + 1 + 1 + 1, 3, none⟩ = some (.int .u64 0) := R2.out.cell 3
  have gz0 := R2.out.frozen 0
  have gz1 := R2.out.frozen 1
  have gz2 := R2.out.frozen 2
  have gz3 := R2.out.frozen 3
  have gq := R2.out.lt
  go_wp2
  rw [set4 R2.out rfl]
  exact bodyPost_ret (v := U x) (results_cell1 (p := 6) (ty := 24) rfl (g := w.heap.size + 1 + 1 + 1) rfl (R2.out.set_same _) rfl Try.underlying24 (by kernel_rfl)) rfl ⟨rfl, below_setRow B2.out (by omega) _⟩

set_option maxRecDepth 100000 in
set_option maxHeartbeats 4000000 in
theorem rmulmod_raw (a b m h l x : Nat)
    (c1 : Hid (∀ w, Calls Try.prog 25 #[U a, U b] w fun e w' => e = .returned (.tuple #[U h, U l]) ∧ Below w.heap.size w w'))
    (c2 : Hid (∀ w, Calls Try.prog 12 #[U h, U l, U m] w fun e w' => e = .returned (U x) ∧ Below w.heap.size w w')) (w : World) :
    Calls Try.prog 19 #[U a, U b, U m] w fun e w' => e = .returned (U x) ∧ Below w.heap.size w w' := by
  go_enter Try.func19, Try.ntmps19
  go_wp2_with fail
  refine (c1.out _).mono ?_
  rintro e w1 ⟨rfl, hb1⟩
  have Rm : Hid (HasRow w1 (w.heap.size + 1 + 1) #[B (l0 m), B (l1 m), B (l2 m), B (l3 m)]) := (HasRow.old (HasRow.last (by simp))).below hb1
  have Rr : Hid (HasRow w1 (w.heap.size + 1 + 1 + 1) #[.int .u64 0, .int .u64 0, .int .u64 0, .int .u64 0]) := (HasRow.last (by simp)).below hb1
  have B1 : Hid (Below w.heap.size w w1) := bel_call (by (repeat (first | exact Below.refl _ _ | refine bel_alloc ?_ _))) hb1
  have m0 : w1.cell? ⟨w.heap.size + 1 + 1, 0, none⟩ = some (B (l0 m)) := Rm.out.cell 0
  have m1 : w1.cell? ⟨w.heap.size + 1 + 1, 1, none⟩ = some (B (l1 m)) := Rm.out.cell 1
  have m2 : w1.cell? ⟨w.heap.size + 1 + 1, 2, none⟩ = some (B (l2 m)) := Rm.out.cell 2
  have m3 : w1.cell? ⟨w.heap.size + 1 + 1, 3, none⟩ = some (B (l3 m)) := Rm.out.cell 3
  have mz := Rr.out.lt
  have mq0 : w.heap.size < w1.heap.size := by omega
  have mq1 : w.heap.size + 1 < w1.heap.size := by omega
  have mq2 : w.heap.size + 1 + 1 < w1.heap.size := by omega
  have mq3 : w.heap.size + 1 + 1 + 1 < w1.heap.size := by omega
  clear hb1
  go_wp2_with fail
  refine (c2.out _).mono ?_
  rintro e w2 ⟨rfl, hb2⟩
  have R2 : Hid (HasRow w2 (w.heap.size + 1 + 1 + 1) #[.int .u64 0, .int .u64 0, .int .u64 0, .int .u64 0]) := (HasRow.old (HasRow.old Rr.out)).below hb2
  have B2 : Hid (Below w.heap.size w w2) := bel_call (bel_alloc (bel_alloc B1.out _) _) hb2
  clear hb2 Rr B1 m0 m1 m2 m3 mq0 mq1 mq2 mq3 mz Rm
  have g0 : w2.cell? ⟨w.heap.size + 1 + 1 + 1, 0, none⟩ = some (.int .u64 0) := R2.out.cell 0
  have g1 : w2.cell? ⟨w.heap.size + 1 + 1 + 1, 1, none⟩ = some (.int .u64 0) := R2.out.cell 1
  have g2 : w2.cell? ⟨w.heap.size + 1 + 1 + 1, 2, none⟩ = some (.int .u64 0) := R2.out.cell 2
  have g3 : w2.cell? ⟨w.heap.size + 1 + 1 + 1, 3, none⟩ = some (.int .u64 0) := R2.out.cell 3
  have gz0 := R2.out.frozen 0
  have gz1 := R2.out.frozen 1
  have gz2 := R2.out.frozen 2
  have gz3 := R2.out.frozen 3
  have gq := R2.out.lt
  go_wp2
  rw [set4 R2.out rfl]
  exact bodyPost_ret (v := U x) (results_cell1 (p := 6) (ty := 24) rfl (g := w.heap.size + 1 + 1 + 1) rfl (R2.out.set_same _) rfl Try.underlying24 (by kernel_rfl)) rfl ⟨rfl, below_setRow B2.out (by omega) _⟩

set_option maxRecDepth 100000 in
set_option maxHeartbeats 4000000 in
theorem addmod0_raw (a b m s x : Nat)
    (c1 : Hid (∀ w, Calls Try.prog 39 #[U a, U b] w fun e w' => e = .returned (.tuple #[U s, .bool false]) ∧ Below w.heap.size w w'))
    (c2 : Hid (∀ w, Calls Try.prog 11 #[I4 0 0 0 0, U s, U m] w fun e w' => e = .returned (U x) ∧ Below w.heap.size w w')) (w : World) :
    Calls Try.prog 16 #[U a, U b, U m] w fun e w' => e = .returned (U x) ∧ Below w.heap.size w w' := by
  go_enter Try.func16, Try.ntmps16
  go_wp2_with fail
  refine (c1.out _).mono ?_
  rintro e w1 ⟨rfl, hb1⟩
  have Rm : Hid (HasRow w1 (w.heap.size + 1 + 1) #[B (l0 m), B (l1 m), B (l2 m), B (l3 m)]) := (HasRow.old (HasRow.last (by simp))).below hb1
  have Rr : Hid (HasRow w1 (w.heap.size + 1 + 1 + 1) #[.int .u64 0, .int .u64 0, .int .u64 0, .int .u64 0]) := (HasRow.last (by simp)).below hb1
  have B1 : Hid (Below w.heap.size w w1) := bel_call (by (repeat (first | exact Below.refl _ _ | refine bel_alloc ?_ _))) hb1
  have m0 : w1.cell? ⟨w.heap.size + 1 + 1, 0, none⟩ = some (B (l0 m)) := Rm.out.cell 0
  have m1 : w1.cell? ⟨w.heap.size + 1 + 1, 1, none⟩ = some (B (l1 m)) := Rm.out.cell 1
  have m2 : w1.cell? ⟨w.heap.size + 1 + 1, 2, none⟩ = some (B (l2 m)) := Rm.out.cell 2
  have m3 : w1.cell? ⟨w.heap.size + 1 + 1, 3, none⟩ = some (B (l3 m)) := Rm.out.cell 3
  have mz := Rr.out.lt
  have mq0 : w.heap.size < w1.heap.size := by omega
  have mq1 : w.heap.size + 1 < w1.heap.size := by omega
  have mq2 : w.heap.size + 1 + 1 < w1.heap.size := by omega
  have mq3 : w.heap.size + 1 + 1 + 1 < w1.heap.size := by omega
  clear hb1
  go_wp2_with fail
  refine (c2.out _).mono ?_
  rintro e w2 ⟨rfl, hb2⟩
  have R2 : Hid (HasRow w2 (w.heap.size + 1 + 1 + 1) #[.int .u64 0, .int .u64 0, .int .u64 0, .int .u64 0]) := (HasRow.old (HasRow.old Rr.out)).below hb2
  have B2 : Hid (Below w.heap.size w w2) := bel_call (bel_alloc (bel_alloc B1.out _) _) hb2
  clear hb2 Rr B1 m0 m1 m2 m3 mq0 mq1 mq2 mq3 mz Rm
  have g0 : w2.cell? ⟨w.heap.size + 1 + 1 + 1, 0, none⟩ = some (.int .u64 0) := R2.out.cell 0
  have g1 : w2.cell? ⟨w.heap.size + 1 + 1 + 1, 1, none⟩ = some (.int .u64 0) := R2.out.cell 1
  have g2 : w2.cell? ⟨w.heap.size + 1 + 1 + 1, 2, none⟩ = some (.int .u64 0) := R2.out.cell 2
  have g3 : w2.cell? ⟨w.heap.size + 1 + 1 + 1, 3, none⟩ = some (.int .u64 0) := R2.out.cell 3
  have gz0 := R2.out.frozen 0
  have gz1 := R2.out.frozen 1
  have gz2 := R2.out.frozen 2
  have gz3 := R2.out.frozen 3
  have gq := R2.out.lt
  go_wp2
  rw [set4 R2.out rfl]
  exact bodyPost_ret (v := U x) (results_cell1 (p := 6) (ty := 24) rfl (g := w.heap.size + 1 + 1 + 1) rfl (R2.out.set_same _) rfl Try.underlying24 (by kernel_rfl)) rfl ⟨rfl, below_setRow B2.out (by omega) _⟩

set_option maxRecDepth 100000 in
set_option maxHeartbeats 4000000 in
theorem raddmod0_raw (a b m s x : Nat)
    (c1 : Hid (∀ w, Calls Try.prog 40 #[U a, U b] w fun e w' => e = .returned (.tuple #[U s, .bool false]) ∧ Below w.heap.size w w'))
    (c2 : Hid (∀ w, Calls Try.prog 12 #[I4 0 0 0 0, U s, U m] w fun e w' => e = .returned (U x) ∧ Below w.heap.size w w')) (w : World) :
    Calls Try.prog 17 #[U a, U b, U m] w fun e w' => e = .returned (U x) ∧ Below w.heap.size w w' := by
  go_enter Try.func17, Try.ntmps17
  go_wp2_with fail
  refine (c1.out _).mono ?_
  rintro e w1 ⟨rfl, hb1⟩
  have Rm : Hid (HasRow w1 (w.heap.size + 1 + 1) #[B (l0 m), B (l1 m), B (l2 m), B (l3 m)]) := (HasRow.old (HasRow.last (by simp))).below hb1
  have Rr : Hid (HasRow w1 (w.heap.size + 1 + 1 + 1) #[.int .u64 0, .int .u64 0, .int .u64 0, .int .u64 0]) := (HasRow.last (by simp)).below hb1
  have B1 : Hid (Below w.heap.size w w1) := bel_call (by (repeat (first | exact Below.refl _ _ | refine bel_alloc ?_ _))) hb1
  have m0 : w1.cell? ⟨w.heap.size + 1 + 1, 0, none⟩ = some (B (l0 m)) := Rm.out.cell 0
  have m1 : w1.cell? ⟨w.heap.size + 1 + 1, 1, none⟩ = some (B (l1 m)) := Rm.out.cell 1
  have m2 : w1.cell? ⟨w.heap.size + 1 + 1, 2, none⟩ = some (B (l2 m)) := Rm.out.cell 2
  have m3 : w1.cell? ⟨w.heap.size + 1 + 1, 3, none⟩ = some (B (l3 m)) := Rm.out.cell 3
  have mz := Rr.out.lt
  have mq0 : w.heap.size < w1.heap.size := by omega
  have mq1 : w.heap.size + 1 < w1.heap.size := by omega
  have mq2 : w.heap.size + 1 + 1 < w1.heap.size := by omega
  have mq3 : w.heap.size + 1 + 1 + 1 < w1.heap.size := by omega
  clear hb1
  go_wp2_with fail
  refine (c2.out _).mono ?_
  rintro e w2 ⟨rfl, hb2⟩
  have R2 : Hid (HasRow w2 (w.heap.size + 1 + 1 + 1) #[.int .u64 0, .int .u64 0, .int .u64 0, .int .u64 0]) := (HasRow.old (HasRow.old Rr.out)).below hb2
  have B2 : Hid (Below w.heap.size w w2) := bel_call (bel_alloc (bel_alloc B1.out _) _) hb2
  clear hb2 Rr B1 m0 m1 m2 m3 mq0 mq1 mq2 mq3 mz Rm
  have g0 : w2.cell? ⟨w.heap.size + 1 + 1 + 1, 0, none⟩ = some (.int .u64 0) := R2.out.cell 0
  have g1 : w2.cell? ⟨w.heap.size + 1 + 1 + 1, 1, none⟩ = some (.int .u64 0) := R2.out.cell 1
  have g2 : w2.cell? ⟨w.heap.size + 1 + 1 + 1, 2, none⟩ = some (.int .u64 0) := R2.out.cell 2
  have g3 : w2.cell? ⟨w.heap.size + 1 + 1 + 1, 3, none⟩ = some (.int .u64 0) := R2.out.cell 3
  have gz0 := R2.out.frozen 0
  have gz1 := R2.out.frozen 1
  have gz2 := R2.out.frozen 2
  have gz3 := R2.out.frozen 3
  have gq := R2.out.lt
  go_wp2
  rw [set4 R2.out rfl]
  exact bodyPost_ret (v := U x) (results_cell1 (p := 6) (ty := 24) rfl (g := w.heap.size + 1 + 1 + 1) rfl (R2.out.set_same _) rfl Try.underlying24 (by kernel_rfl)) rfl ⟨rfl, below_setRow B2.out (by omega) _⟩

set_option maxRecDepth 100000 in
set_option maxHeartbeats 4000000 in
theorem addmod1_raw (a b m s x : Nat)
    (c1 : Hid (∀ w, Calls Try.prog 39 #[U a, U b] w fun e w' => e = .returned (.tuple #[U s, .bool true]) ∧ Below w.heap.size w w'))
    (c0 : Hid (∀ w, Calls Try.prog 36 #[.int .u64 1] w fun e w' => e = .returned (I4 1 0 0 0) ∧ Below w.heap.size w w'))
    (c2 : Hid (∀ w, Calls Try.prog 11 #[I4 1 0 0 0, U s, U m] w fun e w' => e = .returned (U x) ∧ Below w.heap.size w w')) (w : World) :
    Calls Try.prog 16 #[U a, U b, U m] w fun e w' => e = .returned (U x) ∧ Below w.heap.size w w' := by
  go_enter Try.func16, Try.ntmps16
  go_wp2_with fail
  refine (c1.out _).mono ?_
  rintro e w1 ⟨rfl, hb1⟩
  have Rm : Hid (HasRow w1 (w.heap.size + 1 + 1) #[B (l0 m), B (l1 m), B (l2 m), B (l3 m)]) := (HasRow.old (HasRow.last (by simp))).below hb1
  have Rr : Hid (HasRow w1 (w.heap.size + 1 + 1 + 1) #[.int .u64 0, .int .u64 0, .int .u64 0, .int .u64 0]) := (HasRow.last (by simp)).below hb1
  have B1 : Hid (Below w.heap.size w w1) := bel_call (by (repeat (first | exact Below.refl _ _ | refine bel_alloc ?_ _))) hb1
  have m0 : w1.cell? ⟨w.heap.size + 1 + 1, 0, none⟩ = some (B (l0 m)) := Rm.out.cell 0
  have m1 : w1.cell? ⟨w.heap.size + 1 + 1, 1, none⟩ = some (B (l1 m)) := Rm.out.cell 1
  have m2 : w1.cell? ⟨w.heap.size + 1 + 1, 2, none⟩ = some (B (l2 m)) := Rm.out.cell 2
  have m3 : w1.cell? ⟨w.heap.size + 1 + 1, 3, none⟩ = some (B (l3 m)) := Rm.out.cell 3
  have mz := Rr.out.lt
  have mq0 : w.heap.size < w1.heap.size := by omega
  have mq1 : w.heap.size + 1 < w1.heap.size := by omega
  have mq2 : w.heap.size + 1 + 1 < w1.heap.size := by omega
  have mq3 : w.heap.size + 1 + 1 + 1 < w1.heap.size := by omega
  clear hb1
  go_wp2_with fail
  refine (c0.out _).mono ?_
  rintro e w2 ⟨rfl, hb2⟩
  have Rs : Hid (HasRow w2 w1.heap.size #[B (l0 s), B (l1 s), B (l2 s), B (l3 s)]) := (HasRow.old (HasRow.last (by simp))).below hb2
  have Rh : Hid (HasRow w2 (w1.heap.size + 1) #[.int .u64 0, .int .u64 0, .int .u64 0, .int .u64 0]) := (HasRow.last (by simp)).below hb2
  have Rm2 : Hid (HasRow w2 (w.heap.size + 1 + 1) #[B (l0 m), B (l1 m), B (l2 m), B (l3 m)]) := (HasRow.old (HasRow.old Rm.out)).below hb2
  have Rr2 : Hid (HasRow w2 (w.heap.size + 1 + 1 + 1) #[.int .u64 0, .int .u64 0, .int .u64 0, .int .u64 0]) := (HasRow.old (HasRow.old Rr.out)).below hb2
  have B2 : Hid (Below w.heap.size w w2) := bel_call (bel_alloc (bel_alloc B1.out _) _) hb2
  have hq : w.heap.size + 1 + 1 + 1 < w1.heap.size := Rr.out.lt
  clear hb2 Rr B1 m0 m1 m2 m3 mq0 mq1 mq2 mq3 mz Rm
  have g0 : w2.cell? ⟨w1.heap.size + 1, 0, none⟩ = some (.int .u64 0) := Rh.out.cell 0
  have g1 : w2.cell? ⟨w1.heap.size + 1, 1, none⟩ = some (.int .u64 0) := Rh.out.cell 1
  have g2 : w2.cell? ⟨w1.heap.size + 1, 2, none⟩ = some (.int .u64 0) := Rh.out.cell 2
  have g3 : w2.cell? ⟨w1.heap.size + 1, 3, none⟩ = some (.int .u64 0) := Rh.out.cell 3
  have gz0 := Rh.out.frozen 0
  have gz1 := Rh.out.frozen 1
  have gz2 := Rh.out.frozen 2
  have gz3 := Rh.out.frozen 3
  have gq := Rh.out.lt
  go_upto_region 5 with fail
  rw [set4 Rh.out rfl]
  have Qh : Hid (HasRow (w2.setRow (w1.heap.size + 1) #[.int .u64 1, .int .u64 0, .int .u64 0, .int .u64 0]) (w1.heap.size + 1) #[.int .u64 1, .int .u64 0, .int .u64 0, .int .u64 0]) := Rh.out.set_same _
  have Qs : Hid (HasRow (w2.setRow (w1.heap.size + 1) #[.int .u64 1, .int .u64 0, .int .u64 0, .int .u64 0]) w1.heap.size #[B (l0 s), B (l1 s), B (l2 s), B (l3 s)]) := Rs.out.set_other _ (by omega)
  have Qm : Hid (HasRow (w2.setRow (w1.heap.size + 1) #[.int .u64 1, .int .u64 0, .int .u64 0, .int .u64 0]) (w.heap.size + 1 + 1) #[B (l0 m), B (l1 m), B (l2 m), B (l3 m)]) := Rm2.out.set_other _ (by omega)
  have Qr : Hid (HasRow (w2.setRow (w1.heap.size + 1) #[.int .u64 1, .int .u64 0, .int .u64 0, .int .u64 0]) (w.heap.size + 1 + 1 + 1) #[.int .u64 0, .int .u64 0, .int .u64 0, .int .u64 0]) := Rr2.out.set_other _ (by omega)
  have QB : Hid (Below w.heap.size w (w2.setRow (w1.heap.size + 1) #[.int .u64 1, .int .u64 0, .int .u64 0, .int .u64 0])) := below_setRow B2.out (by omega) _
  clear Rh Rs Rm2 Rr2 B2 g0 g1 g2 g3 gz0 gz1 gz2 gz3 gq
  generalize w2.setRow (w1.heap.size + 1) #[.int .u64 1, .int .u64 0, .int .u64 0, .int .u64 0] = w3 at *
  have h0 : w3.cell? ⟨w1.heap.size + 1, 0, none⟩ = some (.int .u64 1) := Qh.out.cell 0
  have h1 : w3.cell? ⟨w1.heap.size + 1, 1, none⟩ = some (.int .u64 0) := Qh.out.cell 1
  have h2 : w3.cell? ⟨w1.heap.size + 1, 2, none⟩ = some (.int .u64 0) := Qh.out.cell 2
  have h3 : w3.cell? ⟨w1.heap.size + 1, 3, none⟩ = some (.int .u64 0) := Qh.out.cell 3
  have s0 : w3.cell? ⟨w1.heap.size, 0, none⟩ = some (B (l0 s)) := Qs.out.cell 0
  have s1 : w3.cell? ⟨w1.heap.size, 1, none⟩ = some (B (l1 s)) := Qs.out.cell 1
  have s2 : w3.cell? ⟨w1.heap.size, 2, none⟩ = some (B (l2 s)) := Qs.out.cell 2
  have s3 : w3.cell? ⟨w1.heap.size, 3, none⟩ = some (B (l3 s)) := Qs.out.cell 3
  have m0 : w3.cell? ⟨w.heap.size + 1 + 1, 0, none⟩ = some (B (l0 m)) := Qm.out.cell 0
  have m1 : w3.cell? ⟨w.heap.size + 1 + 1, 1, none⟩ = some (B (l1 m)) := Qm.out.cell 1
  have m2 : w3.cell? ⟨w.heap.size + 1 + 1, 2, none⟩ = some (B (l2 m)) := Qm.out.cell 2
  have m3 : w3.cell? ⟨w.heap.size + 1 + 1, 3, none⟩ = some (B (l3 m)) := Qm.out.cell 3
  have mq1 := Qh.out.lt
  have mq2 := Qs.out.lt
  have mq3 := Qm.out.lt
  go_wp2_with fail
  refine (c2.out _).mono ?_
  rintro e w4 ⟨rfl, hb4⟩
  have R2 : Hid (HasRow w4 (w.heap.size + 1 + 1 + 1) #[.int .u64 0, .int .u64 0, .int .u64 0, .int .u64 0]) := Qr.out.below hb4
  have B4 : Hid (Below w.heap.size w w4) := bel_call QB.out hb4
  clear hb4 Qh Qs Qm Qr QB h0 h1 h2 h3 s0 s1 s2 s3 m0 m1 m2 m3 mq1 mq2 mq3
  have g0 : w4.cell? ⟨w.heap.size + 1 + 1 + 1, 0, none⟩ = some (.int .u64 0) := R2.out.cell 0
  have g1 : w4.cell? ⟨w.heap.size + 1 + 1 + 1, 1, none⟩ = some (.int .u64 0) := R2.out.cell 1
  have g2 : w4.cell? ⟨w.heap.size + 1 + 1 + 1, 2, none⟩ = some (.int .u64 0) := R2.out.cell 2
  have g3 : w4.cell? ⟨w.heap.size + 1 + 1 + 1, 3, none⟩ = some (.int .u64 0) := R2.out.cell 3
  have gz0 := R2.out.frozen 0
  have gz1 := R2.out.frozen 1
  have gz2 := R2.out.frozen 2
  have gz3 := R2.out.frozen 3
  have gq := R2.out.lt
  go_wp2
  rw [set4 R2.out rfl]
  exact bodyPost_ret (v := U x) (results_cell1 (p := 6) (ty := 24) rfl (g := w.heap.size + 1 + 1 + 1) rfl (R2.out.set_same _) rfl Try.underlying24 (by kernel_rfl)) rfl ⟨rfl, below_setRow B4.out (by omega) _⟩

set_option maxRecDepth 100000 in
set_option maxHeartbeats 4000000 in
theorem raddmod1_raw (a b m s x : Nat)
    (c1 : Hid (∀ w, Calls Try.prog 40 #[U a, U b] w fun e w' => e = .returned (.tuple #[U s, .bool true]) ∧ Below w.heap.size w w'))
    (c2 : Hid (∀ w, Calls Try.prog 12 #[I4 1 0 0 0, U s, U m] w fun e w' => e = .returned (U x) ∧ Below w.heap.size w w')) (w : World) :
    Calls Try.prog 17 #[U a, U b, U m] w fun e w' => e = .returned (U x) ∧ Below w.heap.size w w' := by
  go_enter Try.func17, Try.ntmps17
  go_wp2_with fail
  refine (c1.out _).mono ?_
  rintro e w1 ⟨rfl, hb1⟩
  have Rm : Hid (HasRow w1 (w.heap.size + 1 + 1) #[B (l0 m), B (l1 m), B (l2 m), B (l3 m)]) := (HasRow.old (HasRow.last (by simp))).below hb1
  have Rr : Hid (HasRow w1 (w.heap.size + 1 + 1 + 1) #[.int .u64 0, .int .u64 0, .int .u64 0, .int .u64 0]) := (HasRow.last (by simp)).below hb1
  have B1 : Hid (Below w.heap.size w w1) := bel_call (by (repeat (first | exact Below.refl _ _ | refine bel_alloc ?_ _))) hb1
  have m0 : w1.cell? ⟨w.heap.size + 1 + 1, 0, none⟩ = some (B (l0 m)) := Rm.out.cell 0
  have m1 : w1.cell? ⟨w.heap.size + 1 + 1, 1, none⟩ = some (B (l1 m)) := Rm.out.cell 1
  have m2 : w1.cell? ⟨w.heap.size + 1 + 1, 2, none⟩ = some (B (l2 m)) := Rm.out.cell 2
  have m3 : w1.cell? ⟨w.heap.size + 1 + 1, 3, none⟩ = some (B (l3 m)) := Rm.out.cell 3
  have mz := Rr.out.lt
  have mq0 : w.heap.size < w1.heap.size := by omega
  have mq1 : w.heap.size + 1 < w1.heap.size := by omega
  have mq2 : w.heap.size + 1 + 1 < w1.heap.size := by omega
  have mq3 : w.heap.size + 1 + 1 + 1 < w1.heap.size := by omega
  clear hb1
  go_wp2_with fail
  refine (c2.out _).mono ?_
  rintro e w2 ⟨rfl, hb2⟩
  have R2 : Hid (HasRow w2 (w.heap.size + 1 + 1 + 1) #[.int .u64 0, .int .u64 0, .int .u64 0, .int .u64 0]) := (HasRow.old (HasRow.old Rr.out)).below hb2
  have B2 : Hid (Below w.heap.size w w2) := bel_call (bel_alloc (bel_alloc B1.out _) _) hb2
  clear hb2 Rr B1 m0 m1 m2 m3 mq0 mq1 mq2 mq3 mz Rm
  have g0 : w2.cell? ⟨w.heap.size + 1 + 1 + 1, 0, none⟩ = some (.int .u64 0) := R2.out.cell 0
  have g1 : w2.cell? ⟨w.heap.size + 1 + 1 + 1, 1, none⟩ = some (.int .u64 0) := R2.out.cell 1
  have g2 : w2.cell? ⟨w.heap.size + 1 + 1 + 1, 2, none⟩ = some (.int .u64 0) := R2.out.cell 2
  have g3 : w2.cell? ⟨w.heap.size + 1 + 1 + 1, 3, none⟩ = some (.int .u64 0) := R2.out.cell 3
  have gz0 := R2.out.frozen 0
  have gz1 := R2.out.frozen 1
  have gz2 := R2.out.frozen 2
  have gz3 := R2.out.frozen 3
  have gq := R2.out.lt
  go_wp2
  rw [set4 R2.out rfl]
  exact bodyPost_ret (v := U x) (results_cell1 (p := 6) (ty := 24) rfl (g := w.heap.size + 1 + 1 + 1) rfl (R2.out.set_same _) rfl Try.underlying24 (by kernel_rfl)) rfl ⟨rfl, below_setRow B2.out (by omega) _⟩

theorem mulmod_any (a b m : Nat) (ha : a < W) (hb : b < W) (hm : m < W) (w : World) : Calls Try.prog 18 #[U a, U b, U m] w fun e w' => e = .returned (U (rm (a * b) m)) ∧ Below w.heap.size w w' := by
  have hh : a * b / W < W := Nat.div_lt_of_lt_mul (Nat.mul_lt_mul'' ha hb)
  have hl : a * b % W < W := Nat.mod_lt _ W_pos
  have e : dr (a * b / W) (a * b % W) m = rm (a * b) m := by
    have hd := Nat.div_add_mod (a * b) W
    unfold dr rm
    rw [Nat.mul_comm (a * b / W), hd]
  refine mulmod_raw a b m _ _ _ (wide_any a b ha hb) (fun w => ?_) w
  have h := rest_any _ _ m hh hl hm w
  rw [e] at h
  exact h
theorem addmod_any (a b m : Nat) (ha : a < W) (hb : b < W) (hm : m < W) (w : World) : Calls Try.prog 16 #[U a, U b, U m] w fun e w' => e = .returned (U (rm (a + b) m)) ∧ Below w.heap.size w w' := by
  rcases Nat.lt_or_ge (a + b) W with ho | ho
  · have e1 : addW a b = a + b := Nat.mod_eq_of_lt ho
    have e2 : ovW a b = false := decide_eq_false (by omega)
    refine addmod0_raw a b m (a + b) _ (fun w => ?_) (fun w => ?_) w
    · have h := add_any a b ha hb w
      rw [e1, e2] at h
      exact h
    · have h := rest_any 0 (a + b) m W_pos ho hm w
      rw [U_zero] at h
      have e : dr 0 (a + b) m = rm (a + b) m := by unfold dr rm; rw [Nat.zero_mul, Nat.zero_add]
      rw [e] at h
      exact h
  · have e1 : addW a b = a + b - W := by unfold addW; rw [Nat.mod_eq_sub_mod ho, Nat.mod_eq_of_lt (by omega)]
    have e2 : ovW a b = true := decide_eq_true ho
    refine addmod1_raw a b m (a + b - W) _ (fun w => ?_) (fun w => ?_) (fun w => ?_) w
    · have h := add_any a b ha hb w
      rw [e1, e2] at h
      exact h
    · have h := of_any 1 (by decide) w
      rw [U_1] at h
      exact h
    · have h := rest_any 1 (a + b - W) m (by decide +kernel) (by omega) hm w
      rw [U_1] at h
      have e : dr 1 (a + b - W) m = rm (a + b) m := by unfold dr rm; rw [Nat.one_mul, Nat.add_sub_cancel' ho]
      rw [e] at h
      exact h

theorem rmulmod_any (a b m : Nat) (ha : a < W) (hb : b < W) (hm : m < W) (w : World) : Calls Try.prog 19 #[U a, U b, U m] w fun e w' => e = .returned (U (rm (a * b) m)) ∧ Below w.heap.size w w' := by
  have hh : a * b / W < W := Nat.div_lt_of_lt_mul (Nat.mul_lt_mul'' ha hb)
  have hl : a * b % W < W := Nat.mod_lt _ W_pos
  have e : dr (a * b / W) (a * b % W) m = rm (a * b) m := by
    have hd := Nat.div_add_mod (a * b) W
    unfold dr rm
    rw [Nat.mul_comm (a * b / W), hd]
  refine rmulmod_raw a b m _ _ _ (rwide_any a b ha hb) (fun w => ?_) w
  have h := rrest_any _ _ m hh hl hm w
  rw [e] at h
  exact h
theorem raddmod_any (a b m : Nat) (ha : a < W) (hb : b < W) (hm : m < W) (w : World) : Calls Try.prog 17 #[U a, U b, U m] w fun e w' => e = .returned (U (rm (a + b) m)) ∧ Below w.heap.size w w' := by
  rcases Nat.lt_or_ge (a + b) W with ho | ho
  · have e1 : addW a b = a + b := Nat.mod_eq_of_lt ho
    have e2 : ovW a b = false := decide_eq_false (by omega)
    refine raddmod0_raw a b m (a + b) _ (fun w => ?_) (fun w => ?_) w
    · have h := radd_any a b ha hb w
      rw [e1, e2] at h
      exact h
    · have h := rrest_any 0 (a + b) m W_pos ho hm w
      rw [U_zero] at h
      have e : dr 0 (a + b) m = rm (a + b) m := by unfold dr rm; rw [Nat.zero_mul, Nat.zero_add]
      rw [e] at h
      exact h
  · have e1 : addW a b = a + b - W := by unfold addW; rw [Nat.mod_eq_sub_mod ho, Nat.mod_eq_of_lt (by omega)]
    have e2 : ovW a b = true := decide_eq_true ho
    refine raddmod1_raw a b m (a + b - W) _ (fun w => ?_) (fun w => ?_) w
    · have h := radd_any a b ha hb w
      rw [e1, e2] at h
      exact h
    · have h := rrest_any 1 (a + b - W) m (by decide +kernel) (by omega) hm w
      rw [U_1] at h
      have e : dr 1 (a + b - W) m = rm (a + b) m := by unfold dr rm; rw [Nat.one_mul, Nat.add_sub_cancel' ho]
      rw [e] at h
      exact h
end Go.Proofs.Ytillbhdcnhcbhaa

/- Contracts of Bit, and of the loops of the document's shifts, of layer 1: over letters for the parts that stand so far. -/
namespace Go.Proofs.Ytillbhdcnhcbhaa
open Go.RowKit Go.Sort
set_option linter.unusedVariables false

set_option maxRecDepth 100000 in
set_option maxHeartbeats 1000000 in
theorem bit_0_raw (a0 a1 a2 a3 i : Nat) (hi : i ≤ 255) (hq : (i : Int) / 64 = 0) (w : World) : Calls Try.prog 44 #[U4 a0 a1 a2 a3, .int .i64 i] w fun e w' => e = .returned (.int .u64 (bits .and .u64 ((a0 : Int) / 2 ^ (i % 64)) 1)) ∧ Below w.heap.size w w' := by
  go_enter Try.func44, Try.ntmps44
  go_wp2
  go_ret
  exact ⟨rfl, (by repeat (first | exact Below.refl _ _ | apply Below.drew | refine bel_alloc ?_ _))⟩

set_option maxRecDepth 100000 in
set_option maxHeartbeats 1000000 in
theorem bit_1_raw (a0 a1 a2 a3 i : Nat) (hi : i ≤ 255) (hq : (i : Int) / 64 = 1) (w : World) : Calls Try.prog 44 #[U4 a0 a1 a2 a3, .int .i64 i] w fun e w' => e = .returned (.int .u64 (bits .and .u64 ((a1 : Int) / 2 ^ (i % 64)) 1)) ∧ Below w.heap.size w w' := by
  go_enter Try.func44, Try.ntmps44
  go_wp2
  go_ret
  exact ⟨rfl, (by repeat (first | exact Below.refl _ _ | apply Below.drew | refine bel_alloc ?_ _))⟩

set_option maxRecDepth 100000 in
set_option maxHeartbeats 1000000 in
theorem bit_2_raw (a0 a1 a2 a3 i : Nat) (hi : i ≤ 255) (hq : (i : Int) / 64 = 2) (w : World) : Calls Try.prog 44 #[U4 a0 a1 a2 a3, .int .i64 i] w fun e w' => e = .returned (.int .u64 (bits .and .u64 ((a2 : Int) / 2 ^ (i % 64)) 1)) ∧ Below w.heap.size w w' := by
  go_enter Try.func44, Try.ntmps44
  go_wp2
  go_ret
  exact ⟨rfl, (by repeat (first | exact Below.refl _ _ | apply Below.drew | refine bel_alloc ?_ _))⟩

set_option maxRecDepth 100000 in
set_option maxHeartbeats 1000000 in
theorem bit_3_raw (a0 a1 a2 a3 i : Nat) (hi : i ≤ 255) (hq : (i : Int) / 64 = 3) (w : World) : Calls Try.prog 44 #[U4 a0 a1 a2 a3, .int .i64 i] w fun e w' => e = .returned (.int .u64 (bits .and .u64 ((a3 : Int) / 2 ^ (i % 64)) 1)) ∧ Below w.heap.size w w' := by
  go_enter Try.func44, Try.ntmps44
  go_wp2
  go_ret
  exact ⟨rfl, (by repeat (first | exact Below.refl _ _ | apply Below.drew | refine bel_alloc ?_ _))⟩

end Go.Proofs.Ytillbhdcnhcbhaa

/- Contracts of the document's shifts of layer 1, told by numbers. -/
namespace Go.Proofs.Ytillbhdcnhcbhaa
open Go.RowKit
set_option linter.unusedVariables false

theorem part_bit (x r : Nat) (hr : r < 64) : x % M / 2 ^ r % 2 = x / 2 ^ r % 2 := by
  rw [M_pow, show (64 : Nat) = r + (64 - r) by omega, Nat.pow_add, Nat.mod_mul_right_div_self]
  refine Nat.mod_mod_of_dvd _ ?_
  exact Nat.pow_dvd_pow 2 (m := 1) (by omega)
theorem bit_int (n q i x : Nat) (hq : i / 64 = q) (hxM : x < M) (hx : x = n / 2 ^ (64 * q) % M) : bits .and .u64 ((x : Int) / 2 ^ (i % 64)) 1 = ((n / 2 ^ i % 2 : Nat) : Int) := by
  have h : x / 2 ^ (i % 64) % 2 = n / 2 ^ i % 2 := by
    rw [hx, part_bit _ _ (Nat.mod_lt _ (by decide)), Nat.div_div_eq_div_mul, ← Nat.pow_add, show 64 * q + i % 64 = i by omega]
  rw [← h, div_pow, show (1 : Int) = ((1 : Nat) : Int) from rfl, bits_and _ _ (Nat.lt_of_le_of_lt (Nat.div_le_self _ _) hxM) (by decide), Nat.and_one_is_mod]
theorem c_l0 (n : Nat) : l0 n = n / 2 ^ (64 * 0) % M := by unfold l0; simp
theorem c_l1 (n : Nat) : l1 n = n / 2 ^ (64 * 1) % M := by unfold l1; rw [M_pow]
theorem c_l2 (n : Nat) : l2 n = n / 2 ^ (64 * 2) % M := by unfold l2; rw [MM_pow]
theorem c_l3 (n : Nat) : l3 n = n / 2 ^ (64 * 3) % M := by unfold l3; rw [MMM_pow]
theorem bit_any (n i : Nat) (hi : i ≤ 255) (w : World) : Calls Try.prog 44 #[U n, .int .i64 i] w fun e w' => e = .returned (B (n / 2 ^ i % 2)) ∧ Below w.heap.size w w' := by
  have hq : i / 64 = 0 ∨ i / 64 = 1 ∨ i / 64 = 2 ∨ i / 64 = 3 := by omega
  rcases hq with hq | hq | hq | hq
  · have h := bit_0_raw (l0 n) (l1 n) (l2 n) (l3 n) i hi (by omega) w
    rw [bit_int n 0 i (l0 n) hq (l0_lt n) (c_l0 n)] at h; exact h
  · have h := bit_1_raw (l0 n) (l1 n) (l2 n) (l3 n) i hi (by omega) w
    rw [bit_int n 1 i (l1 n) hq (l1_lt n) (c_l1 n)] at h; exact h
  · have h := bit_2_raw (l0 n) (l1 n) (l2 n) (l3 n) i hi (by omega) w
    rw [bit_int n 2 i (l2 n) hq (l2_lt n) (c_l2 n)] at h; exact h
  · have h := bit_3_raw (l0 n) (l1 n) (l2 n) (l3 n) i hi (by omega) w
    rw [bit_int n 3 i (l3 n) hq (l3_lt n) (c_l3 n)] at h; exact h

theorem or_bit (x c r : Nat) (hx : x < 2 ^ r) (hc : c < 2) (hr : r < 64) :
    bits .or .u64 (x : Int) (IntKind.u64.wrap ((c : Int) * 2 ^ r)) = ((x + c * 2 ^ r : Nat) : Int) ∧ x + c * 2 ^ r < M := by
  have hM := two_split r hr
  have h2 : 2 ≤ 2 ^ (64 - r) := Nat.pow_le_pow_right (n := 2) (i := 1) (by decide) (by omega)
  have h1 : x + c * 2 ^ r < M := by
    rw [← hM]
    have : c * 2 ^ r ≤ 1 * 2 ^ r := Nat.mul_le_mul_right _ (by omega)
    have : 2 ^ r * 2 ≤ 2 ^ r * 2 ^ (64 - r) := Nat.mul_le_mul_left _ h2
    omega
  refine ⟨?_, h1⟩
  have e : x + c * 2 ^ r = x ||| c * 2 ^ r := by
    rw [Nat.add_comm, Nat.mul_comm, Nat.two_pow_add_eq_or_of_lt hx, Nat.or_comm]
  rw [wrap_mul, Nat.mod_eq_of_lt (by omega : c * 2 ^ r < M), bits_or _ _ (by omega) (by omega), e]
theorem low_part (Z j q : Nat) (hq : j / 64 = q) : Z % 2 ^ j / M ^ q < 2 ^ (j % 64) := by
  refine Nat.div_lt_of_lt_mul ?_
  rw [M_pow, ← Nat.pow_mul, ← Nat.pow_add, show 64 * q + j % 64 = j by omega]
  exact Nat.mod_lt _ (Nat.two_pow_pos _)
theorem low_step (Z j q : Nat) (hq : j / 64 = q) : Z % 2 ^ (j + 1) = Z % 2 ^ j + Z / 2 ^ j % 2 * 2 ^ (j % 64) * M ^ q := by
  rw [Nat.pow_succ, Nat.mod_mul, M_pow, ← Nat.pow_mul, Nat.mul_assoc, ← Nat.pow_add, show j % 64 + 64 * q = j by omega, Nat.mul_comm (2 ^ j)]
theorem low_ltW (Z j : Nat) (hj : j ≤ 256) : Z % 2 ^ j < W := by
  rw [W_pow]; exact Nat.lt_of_lt_of_le (Nat.mod_lt _ (Nat.two_pow_pos _)) (Nat.pow_le_pow_right (by decide) hj)

theorem low_q0 (Z j : Nat) (hj : j < 256) (hq : j / 64 = 0) : ((l0 (Z % 2 ^ (j + 1)) : Nat) : Int) = bits .or .u64 (l0 (Z % 2 ^ j) : Nat) (IntKind.u64.wrap (((Z / 2 ^ j % 2 : Nat) : Int) * 2 ^ (j % 64))) ∧ l1 (Z % 2 ^ (j + 1)) = l1 (Z % 2 ^ j) ∧ l2 (Z % 2 ^ (j + 1)) = l2 (Z % 2 ^ j) ∧ l3 (Z % 2 ^ (j + 1)) = l3 (Z % 2 ^ j) := by
  have hp := low_part Z j 0 hq
  have hx : l0 (Z % 2 ^ j) < 2 ^ (j % 64) := by
    unfold l0; rw [Nat.pow_zero, Nat.div_one] at hp; exact Nat.lt_of_le_of_lt (Nat.mod_le _ _) hp
  obtain ⟨eo, hlt⟩ := or_bit (l0 (Z % 2 ^ j)) (Z / 2 ^ j % 2) (j % 64) hx (Nat.mod_lt _ (by decide)) (Nat.mod_lt _ (by decide))
  have em := mk_parts (Z % 2 ^ j) (low_ltW Z j (by omega))
  have e : Z % 2 ^ (j + 1) = mk (l0 (Z % 2 ^ j) + Z / 2 ^ j % 2 * 2 ^ (j % 64)) (l1 (Z % 2 ^ j)) (l2 (Z % 2 ^ j)) (l3 (Z % 2 ^ j)) := by
    rw [low_step Z j 0 hq]
    conv => lhs; rw [← em]
    rw [Nat.pow_zero]
    generalize Z / 2 ^ j % 2 * 2 ^ (j % 64) = c
    unfold mk; grind
  obtain ⟨e0, e1, e2, e3⟩ := of_mk _ _ _ _ _ e hlt (l1_lt _) (l2_lt _) (l3_lt _)
  exact ⟨by rw [e0, eo], e1, e2, e3⟩

theorem low_q1 (Z j : Nat) (hj : j < 256) (hq : j / 64 = 1) : l0 (Z % 2 ^ (j + 1)) = l0 (Z % 2 ^ j) ∧ ((l1 (Z % 2 ^ (j + 1)) : Nat) : Int) = bits .or .u64 (l1 (Z % 2 ^ j) : Nat) (IntKind.u64.wrap (((Z / 2 ^ j % 2 : Nat) : Int) * 2 ^ (j % 64))) ∧ l2 (Z % 2 ^ (j + 1)) = l2 (Z % 2 ^ j) ∧ l3 (Z % 2 ^ (j + 1)) = l3 (Z % 2 ^ j) := by
  have hp := low_part Z j 1 hq
  have hx : l1 (Z % 2 ^ j) < 2 ^ (j % 64) := by
    unfold l1; rw [Nat.pow_one] at hp; exact Nat.lt_of_le_of_lt (Nat.mod_le _ _) hp
  obtain ⟨eo, hlt⟩ := or_bit (l1 (Z % 2 ^ j)) (Z / 2 ^ j % 2) (j % 64) hx (Nat.mod_lt _ (by decide)) (Nat.mod_lt _ (by decide))
  have em := mk_parts (Z % 2 ^ j) (low_ltW Z j (by omega))
  have e : Z % 2 ^ (j + 1) = mk (l0 (Z % 2 ^ j)) (l1 (Z % 2 ^ j) + Z / 2 ^ j % 2 * 2 ^ (j % 64)) (l2 (Z % 2 ^ j)) (l3 (Z % 2 ^ j)) := by
    rw [low_step Z j 1 hq]
    conv => lhs; rw [← em]
    rw [Nat.pow_one]
    generalize Z / 2 ^ j % 2 * 2 ^ (j % 64) = c
    unfold mk; grind
  obtain ⟨e0, e1, e2, e3⟩ := of_mk _ _ _ _ _ e (l0_lt _) hlt (l2_lt _) (l3_lt _)
  exact ⟨e0, by rw [e1, eo], e2, e3⟩

theorem low_q2 (Z j : Nat) (hj : j < 256) (hq : j / 64 = 2) : l0 (Z % 2 ^ (j + 1)) = l0 (Z % 2 ^ j) ∧ l1 (Z % 2 ^ (j + 1)) = l1 (Z % 2 ^ j) ∧ ((l2 (Z % 2 ^ (j + 1)) : Nat) : Int) = bits .or .u64 (l2 (Z % 2 ^ j) : Nat) (IntKind.u64.wrap (((Z / 2 ^ j % 2 : Nat) : Int) * 2 ^ (j % 64))) ∧ l3 (Z % 2 ^ (j + 1)) = l3 (Z % 2 ^ j) := by
  have hp := low_part Z j 2 hq
  have hx : l2 (Z % 2 ^ j) < 2 ^ (j % 64) := by
    unfold l2; rw [show M ^ 2 = M * M from by decide] at hp; exact Nat.lt_of_le_of_lt (Nat.mod_le _ _) hp
  obtain ⟨eo, hlt⟩ := or_bit (l2 (Z % 2 ^ j)) (Z / 2 ^ j % 2) (j % 64) hx (Nat.mod_lt _ (by decide)) (Nat.mod_lt _ (by decide))
  have em := mk_parts (Z % 2 ^ j) (low_ltW Z j (by omega))
  have e : Z % 2 ^ (j + 1) = mk (l0 (Z % 2 ^ j)) (l1 (Z % 2 ^ j)) (l2 (Z % 2 ^ j) + Z / 2 ^ j % 2 * 2 ^ (j % 64)) (l3 (Z % 2 ^ j)) := by
    rw [low_step Z j 2 hq]
    conv => lhs; rw [← em]
    rw [show M ^ 2 = M * M from by decide]
    generalize Z / 2 ^ j % 2 * 2 ^ (j % 64) = c
    unfold mk; grind
  obtain ⟨e0, e1, e2, e3⟩ := of_mk _ _ _ _ _ e (l0_lt _) (l1_lt _) hlt (l3_lt _)
  exact ⟨e0, e1, by rw [e2, eo], e3⟩

theorem low_q3 (Z j : Nat) (hj : j < 256) (hq : j / 64 = 3) : l0 (Z % 2 ^ (j + 1)) = l0 (Z % 2 ^ j) ∧ l1 (Z % 2 ^ (j + 1)) = l1 (Z % 2 ^ j) ∧ l2 (Z % 2 ^ (j + 1)) = l2 (Z % 2 ^ j) ∧ ((l3 (Z % 2 ^ (j + 1)) : Nat) : Int) = bits .or .u64 (l3 (Z % 2 ^ j) : Nat) (IntKind.u64.wrap (((Z / 2 ^ j % 2 : Nat) : Int) * 2 ^ (j % 64))) := by
  have hp := low_part Z j 3 hq
  have hx : l3 (Z % 2 ^ j) < 2 ^ (j % 64) := by
    unfold l3; rw [show M ^ 3 = M * M * M from by decide +kernel] at hp; exact Nat.lt_of_le_of_lt (Nat.mod_le _ _) hp
  obtain ⟨eo, hlt⟩ := or_bit (l3 (Z % 2 ^ j)) (Z / 2 ^ j % 2) (j % 64) hx (Nat.mod_lt _ (by decide)) (Nat.mod_lt _ (by decide))
  have em := mk_parts (Z % 2 ^ j) (low_ltW Z j (by omega))
  have e : Z % 2 ^ (j + 1) = mk (l0 (Z % 2 ^ j)) (l1 (Z % 2 ^ j)) (l2 (Z % 2 ^ j)) (l3 (Z % 2 ^ j) + Z / 2 ^ j % 2 * 2 ^ (j % 64)) := by
    rw [low_step Z j 3 hq]
    conv => lhs; rw [← em]
    rw [show M ^ 3 = M * M * M from by decide +kernel]
    generalize Z / 2 ^ j % 2 * 2 ^ (j % 64) = c
    unfold mk; grind
  obtain ⟨e0, e1, e2, e3⟩ := of_mk _ _ _ _ _ e (l0_lt _) (l1_lt _) (l2_lt _) hlt
  exact ⟨e0, e1, e2, by rw [e3, eo]⟩

theorem zero_parts : l0 0 = 0 ∧ l1 0 = 0 ∧ l2 0 = 0 ∧ l3 0 = 0 := by decide +kernel
end Go.Proofs.Ytillbhdcnhcbhaa

/- Powers, bit by bit: raw contracts. -/
namespace Go.Proofs.Ytillbhdcnhcbhaa
open Go.RowKit Go.Sort
set_option linter.unusedVariables false
attribute [local go_sem] run_eq4 run_eqU_same

theorem arr_dm (n q : Nat) (h : q < 4) : (#[B (l0 n), B (l1 n), B (l2 n), B (l3 n)] : Array Value)[q]? = some (.int .u64 ((dm n q : Nat) : Int)) := by
  obtain ⟨e0, e1, e2, e3⟩ := dm_parts n
  have hc : q = 0 ∨ q = 1 ∨ q = 2 ∨ q = 3 := by omega
  rcases hc with rfl | rfl | rfl | rfl
  · rw [e0]; rfl
  · rw [e1]; rfl
  · rw [e2]; rfl
  · rw [e3]; rfl
theorem bit_dm (n p : Nat) (h : p < 256) : bits BinOp.and IntKind.u64 (((dm n (p / 64) : Nat) : Int) / 2 ^ (p % 64)) 1 = ((n / 2 ^ p % 2 : Nat) : Int) := by
  obtain ⟨e0, e1, e2, e3⟩ := dm_parts n
  have hc : p / 64 = 0 ∨ p / 64 = 1 ∨ p / 64 = 2 ∨ p / 64 = 3 := by omega
  rcases hc with h | h | h | h
  · rw [h, e0]; exact bit_int n 0 p _ h (l0_lt n) (c_l0 n)
  · rw [h, e1]; exact bit_int n 1 p _ h (l1_lt n) (c_l1 n)
  · rw [h, e2]; exact bit_int n 2 p _ h (l2_lt n) (c_l2 n)
  · rw [h, e3]; exact bit_int n 3 p _ h (l3_lt n) (c_l3 n)

structure PW (w w' : World) (b1 a n x : Nat) : Prop where
  ra : HasRow w' (w.heap.size) #[B (l0 a), B (l1 a), B (l2 a), B (l3 a)]
  rn : HasRow w' (w.heap.size + 1) #[B (l0 n), B (l1 n), B (l2 n), B (l3 n)]
  rr : HasRow w' (w.heap.size + 1 + 1) #[.int .u64 0, .int .u64 0, .int .u64 0, .int .u64 0]
  oo : HasRow w' b1 #[B (l0 x), B (l1 x), B (l2 x), B (l3 x)]
  bw : Below w.heap.size w w'
  gg : w.heap.size + 1 + 1 < b1
theorem PW.call {w w' w'' : World} {b1 a n x : Nat} (h : PW w w' b1 a n x) (hb : Below w'.heap.size w' w'') : PW w w'' b1 a n x :=
  ⟨h.ra.below hb, h.rn.below hb, h.rr.below hb, h.oo.below hb, h.bw.trans (hb.mono h.bw.size), h.gg⟩
theorem PW.put {w w' : World} {b1 a n x : Nat} (h : PW w w' b1 a n x) (y : Nat) : PW w (w'.setRow b1 #[B (l0 y), B (l1 y), B (l2 y), B (l3 y)]) b1 a n y := by
  have hg := h.gg
  exact ⟨h.ra.set_other _ (by omega), h.rn.set_other _ (by omega), h.rr.set_other _ (by omega), h.oo.set_same _, below_setRow h.bw (by omega) _, hg⟩

set_option maxRecDepth 100000 in
set_option maxHeartbeats 4000000 in
theorem power_exp_raw (a n nb : Nat) (E Q : Nat → Nat) (hnb : nb ≤ 256) (w : World)
    (c0 : Hid (∀ w, Calls Try.prog 36 #[.int .u64 1] w fun e w' => e = .returned (U (E nb)) ∧ Below w.heap.size w w'))
    (cb : Hid (∀ w, Calls Try.prog 48 #[U n] w fun e w' => e = .returned (.int .i64 (nb : Nat)) ∧ Below w.heap.size w w'))
    (cs : Hid (∀ p, p < nb → ∀ w', Calls Try.prog 42 #[U (E (p + 1)), U (E (p + 1))] w' fun e w'' => e = .returned (U (Q p)) ∧ Below w'.heap.size w' w''))
    (cm : Hid (∀ p, p < nb → n / 2 ^ p % 2 = 1 → ∀ w', Calls Try.prog 42 #[U (Q p), U a] w' fun e w'' => e = .returned (U (E p)) ∧ Below w'.heap.size w' w''))
    (ce : Hid (∀ p, p < nb → n / 2 ^ p % 2 = 0 → Q p = E p)) :
    Calls Try.prog 41 #[U a, U n, Value.func (Fn.func 42) #[] #[]] w fun e w' => e = .returned (U (E 0)) ∧ Below w.heap.size w w' := by
  go_enter Try.func41, Try.ntmps41
  go_wp2_with fail
  refine (c0.out _).mono ?_
  rintro e w1 ⟨rfl, hb1⟩
  have Ra : Hid (HasRow w1 (w.heap.size) #[B (l0 a), B (l1 a), B (l2 a), B (l3 a)]) := (HasRow.old (HasRow.old (HasRow.last (by simp)))).below hb1
  have Rn : Hid (HasRow w1 (w.heap.size + 1) #[B (l0 n), B (l1 n), B (l2 n), B (l3 n)]) := (HasRow.old (HasRow.last (by simp))).below hb1
  have Rr : Hid (HasRow w1 (w.heap.size + 1 + 1) #[.int .u64 0, .int .u64 0, .int .u64 0, .int .u64 0]) := (HasRow.last (by simp)).below hb1
  have B1 : Hid (Below w.heap.size w w1) := bel_call (by (repeat (first | exact Below.refl _ _ | refine bel_alloc ?_ _))) hb1
  have n0 : w1.cell? ⟨w.heap.size + 1, 0, none⟩ = some (B (l0 n)) := Rn.out.cell 0
  have n1 : w1.cell? ⟨w.heap.size + 1, 1, none⟩ = some (B (l1 n)) := Rn.out.cell 1
  have n2 : w1.cell? ⟨w.heap.size + 1, 2, none⟩ = some (B (l2 n)) := Rn.out.cell 2
  have n3 : w1.cell? ⟨w.heap.size + 1, 3, none⟩ = some (B (l3 n)) := Rn.out.cell 3
  have mz := Rr.out.lt
  have mq0 : w.heap.size < w1.heap.size := by omega
  have mq1 : w.heap.size + 1 < w1.heap.size := by omega
  have mq2 : w.heap.size + 1 + 1 < w1.heap.size := by omega
  clear hb1
  go_wp2_with fail
  refine (cb.out _).mono ?_
  rintro e w2 ⟨rfl, hb2⟩
  have F0 : Hid (PW w w2 w1.heap.size a n (E nb)) := ⟨(HasRow.old Ra.out).below hb2, (HasRow.old Rn.out).below hb2, (HasRow.old Rr.out).below hb2, (HasRow.last rfl).below hb2, bel_call (bel_alloc B1.out _) hb2, mz⟩
  clear hb2 Ra Rn Rr B1 n0 n1 n2 n3 mq0 mq1 mq2 mz
  generalize w1.heap.size = b1 at *
  go_wp2
  go_loopw [8] (fun s w' => ∃ t : Nat, t ≤ nb ∧ s = .int .i64 ((t : Int) - 1) ∧ PW w w' b1 a n (E t)) (fun s _ => (intOf s + 1).toNat)
  case atStart => exact ⟨nb, Nat.le_refl _, rfl, F0.out⟩
  case round =>
    obtain ⟨t, ht, rfl, hS⟩ := hrel
    clear F0
    have KS : Hid _ := hS
    clear hS
    rcases t with _ | p
    · rw [show ((0 : Nat) : Int) - 1 = -1 by rfl]
      have o0 : wr.cell? ⟨b1, 0, none⟩ = some (B (l0 (E 0))) := KS.out.oo.cell 0
      have o1 : wr.cell? ⟨b1, 1, none⟩ = some (B (l1 (E 0))) := KS.out.oo.cell 1
      have o2 : wr.cell? ⟨b1, 2, none⟩ = some (B (l2 (E 0))) := KS.out.oo.cell 2
      have o3 : wr.cell? ⟨b1, 3, none⟩ = some (B (l3 (E 0))) := KS.out.oo.cell 3
      have g0 : wr.cell? ⟨w.heap.size + 1 + 1, 0, none⟩ = some (.int .u64 0) := KS.out.rr.cell 0
      have g1 : wr.cell? ⟨w.heap.size + 1 + 1, 1, none⟩ = some (.int .u64 0) := KS.out.rr.cell 1
      have g2 : wr.cell? ⟨w.heap.size + 1 + 1, 2, none⟩ = some (.int .u64 0) := KS.out.rr.cell 2
      have g3 : wr.cell? ⟨w.heap.size + 1 + 1, 3, none⟩ = some (.int .u64 0) := KS.out.rr.cell 3
      have gz0 := KS.out.rr.frozen 0
      have gz1 := KS.out.rr.frozen 1
      have gz2 := KS.out.rr.frozen 2
      have gz3 := KS.out.rr.frozen 3
      have gq := KS.out.rr.lt
      have oq := KS.out.oo.lt
      go_wp2
      rw [set4 KS.out.rr rfl]
      exact bodyPost_ret (v := U (E 0)) (results_cell1 (p := 6) (ty := 24) rfl (g := w.heap.size + 1 + 1) rfl (HasRow.set_same KS.out.rr _) rfl Try.underlying24 (by kernel_rfl)) rfl ⟨rfl, below_setRow KS.out.bw (by omega) _⟩
    · rw [show ((p + 1 : Nat) : Int) - 1 = (p : Int) by omega]
      have hp : p < nb := ht
      have o0 : wr.cell? ⟨b1, 0, none⟩ = some (B (l0 (E (p + 1)))) := KS.out.oo.cell 0
      have o1 : wr.cell? ⟨b1, 1, none⟩ = some (B (l1 (E (p + 1)))) := KS.out.oo.cell 1
      have o2 : wr.cell? ⟨b1, 2, none⟩ = some (B (l2 (E (p + 1)))) := KS.out.oo.cell 2
      have o3 : wr.cell? ⟨b1, 3, none⟩ = some (B (l3 (E (p + 1)))) := KS.out.oo.cell 3
      go_wp2_with fail
      refine (cs.out p hp _).mono ?_
      rintro e w5 ⟨rfl, hb5⟩
      have K5 : Hid (PW w w5 b1 a n (E (p + 1))) := KS.out.call hb5
      clear hb5 KS o0 o1 o2 o3
      have g0 : w5.cell? ⟨b1, 0, none⟩ = some (B (l0 (E (p + 1)))) := K5.out.oo.cell 0
      have g1 : w5.cell? ⟨b1, 1, none⟩ = some (B (l1 (E (p + 1)))) := K5.out.oo.cell 1
      have g2 : w5.cell? ⟨b1, 2, none⟩ = some (B (l2 (E (p + 1)))) := K5.out.oo.cell 2
      have g3 : w5.cell? ⟨b1, 3, none⟩ = some (B (l3 (E (p + 1)))) := K5.out.oo.cell 3
      have gz0 := K5.out.oo.frozen 0
      have gz1 := K5.out.oo.frozen 1
      have gz2 := K5.out.oo.frozen 2
      have gz3 := K5.out.oo.frozen 3
      have gq := K5.out.oo.lt
      go_upto_region 6 with fail
      rw [set4 K5.out.oo rfl]
      have K6 : Hid (PW w (w5.setRow b1 #[B (l0 (Q p)), B (l1 (Q p)), B (l2 (Q p)), B (l3 (Q p))]) b1 a n (Q p)) := K5.out.put (Q p)
      clear K5 g0 g1 g2 g3 gz0 gz1 gz2 gz3 gq
      generalize w5.setRow b1 #[B (l0 (Q p)), B (l1 (Q p)), B (l2 (Q p)), B (l3 (Q p))] = w6 at *
      have hx : w6.cell? ⟨w.heap.size + 1, p / 64, none⟩ = some (.int .u64 ((dm n (p / 64) : Nat) : Int)) := by
        rw [HasRow.cell K6.out.rn]
        exact arr_dm n (p / 64) (by omega)
      have hq := K6.out.rn.lt
      have hbit := bit_dm n p (by omega)
      by_cases hb : n / 2 ^ p % 2 = 1
      · rw [hb] at hbit
        have hbt : (bits BinOp.and IntKind.u64 (((dm n (p / 64) : Nat) : Int) / 2 ^ (p % 64)) 1 == 1) = true := by rw [hbit]; rfl
        clear hbit
        have o0 : w6.cell? ⟨b1, 0, none⟩ = some (B (l0 (Q p))) := K6.out.oo.cell 0
        have o1 : w6.cell? ⟨b1, 1, none⟩ = some (B (l1 (Q p))) := K6.out.oo.cell 1
        have o2 : w6.cell? ⟨b1, 2, none⟩ = some (B (l2 (Q p))) := K6.out.oo.cell 2
        have o3 : w6.cell? ⟨b1, 3, none⟩ = some (B (l3 (Q p))) := K6.out.oo.cell 3
        have a0 : w6.cell? ⟨w.heap.size, 0, none⟩ = some (B (l0 a)) := K6.out.ra.cell 0
        have a1 : w6.cell? ⟨w.heap.size, 1, none⟩ = some (B (l1 a)) := K6.out.ra.cell 1
        have a2 : w6.cell? ⟨w.heap.size, 2, none⟩ = some (B (l2 a)) := K6.out.ra.cell 2
        have a3 : w6.cell? ⟨w.heap.size, 3, none⟩ = some (B (l3 a)) := K6.out.ra.cell 3
        go_wp2_with fail
        refine (cm.out p hp hb _).mono ?_
        rintro e w8 ⟨rfl, hb8⟩
        have K8 : Hid (PW w w8 b1 a n (Q p)) := K6.out.call hb8
        clear hb8 K6 o0 o1 o2 o3 a0 a1 a2 a3
        have g0 : w8.cell? ⟨b1, 0, none⟩ = some (B (l0 (Q p))) := K8.out.oo.cell 0
        have g1 : w8.cell? ⟨b1, 1, none⟩ = some (B (l1 (Q p))) := K8.out.oo.cell 1
        have g2 : w8.cell? ⟨b1, 2, none⟩ = some (B (l2 (Q p))) := K8.out.oo.cell 2
        have g3 : w8.cell? ⟨b1, 3, none⟩ = some (B (l3 (Q p))) := K8.out.oo.cell 3
        have gz0 := K8.out.oo.frozen 0
        have gz1 := K8.out.oo.frozen 1
        have gz2 := K8.out.oo.frozen 2
        have gz3 := K8.out.oo.frozen 3
        have gq := K8.out.oo.lt
        go_upto_region 4 with fail
        rw [set4 K8.out.oo rfl]
        have K9 : Hid (PW w (w8.setRow b1 #[B (l0 (E p)), B (l1 (E p)), B (l2 (E p)), B (l3 (E p))]) b1 a n (E p)) := K8.out.put (E p)
        clear K8 g0 g1 g2 g3 gz0 gz1 gz2 gz3 gq
        generalize w8.setRow b1 #[B (l0 (E p)), B (l1 (E p)), B (l2 (E p)), B (l3 (E p))] = w9 at *
        go_wp2
        go_roundw
        case rel => exact ⟨p, by omega, rfl, K9.out⟩
        case measure => simp [intOf]; try omega
      · have hb0 : n / 2 ^ p % 2 = 0 := by omega
        rw [hb0] at hbit
        have hbt : (bits BinOp.and IntKind.u64 (((dm n (p / 64) : Nat) : Int) / 2 ^ (p % 64)) 1 == 1) = false := by rw [hbit]; rfl
        have hE := ce.out p hp hb0
        clear hbit
        go_wp2
        go_roundw
        case rel => exact ⟨p, by omega, rfl, hE ▸ K6.out⟩
        case measure => simp [intOf]; try omega

set_option maxRecDepth 100000 in
set_option maxHeartbeats 4000000 in
theorem power_pow_raw (a n nb bm : Nat) (E Q : Nat → Nat) (hnb : nb ≤ 256) (w : World)
    (c0 : Hid (∀ w, Calls Try.prog 36 #[.int .u64 1] w fun e w' => e = .returned (U (E nb)) ∧ Below w.heap.size w w'))
    (cb : Hid (∀ w, Calls Try.prog 48 #[U n] w fun e w' => e = .returned (.int .i64 (nb : Nat)) ∧ Below w.heap.size w w'))
    (cs : Hid (∀ p, p < nb → ∀ w', Below w.heap.size w w' → Calls Try.prog 45 #[U (E (p + 1)), U (E (p + 1)), .pointer (some ⟨bm, 0, none⟩)] w' fun e w'' => e = .returned (U (Q p)) ∧ Below w'.heap.size w' w''))
    (cm : Hid (∀ p, p < nb → n / 2 ^ p % 2 = 1 → ∀ w', Below w.heap.size w w' → Calls Try.prog 45 #[U (Q p), U a, .pointer (some ⟨bm, 0, none⟩)] w' fun e w'' => e = .returned (U (E p)) ∧ Below w'.heap.size w' w''))
    (ce : Hid (∀ p, p < nb → n / 2 ^ p % 2 = 0 → Q p = E p)) :
    Calls Try.prog 41 #[U a, U n, Value.func (Fn.func 45) #[] #[.pointer (some ⟨bm, 0, none⟩)]] w fun e w' => e = .returned (U (E 0)) ∧ Below w.heap.size w w' := by
  go_enter Try.func41, Try.ntmps41
  go_wp2_with fail
  refine (c0.out _).mono ?_
  rintro e w1 ⟨rfl, hb1⟩
  have Ra : Hid (HasRow w1 (w.heap.size) #[B (l0 a), B (l1 a), B (l2 a), B (l3 a)]) := (HasRow.old (HasRow.old (HasRow.last (by simp)))).below hb1
  have Rn : Hid (HasRow w1 (w.heap.size + 1) #[B (l0 n), B (l1 n), B (l2 n), B (l3 n)]) := (HasRow.old (HasRow.last (by simp))).below hb1
  have Rr : Hid (HasRow w1 (w.heap.size + 1 + 1) #[.int .u64 0, .int .u64 0, .int .u64 0, .int .u64 0]) := (HasRow.last (by simp)).below hb1
  have B1 : Hid (Below w.heap.size w w1) := bel_call (by (repeat (first | exact Below.refl _ _ | refine bel_alloc ?_ _))) hb1
  have n0 : w1.cell? ⟨w.heap.size + 1, 0, none⟩ = some (B (l0 n)) := Rn.out.cell 0
  have n1 : w1.cell? ⟨w.heap.size + 1, 1, none⟩ = some (B (l1 n)) := Rn.out.cell 1
  have n2 : w1.cell? ⟨w.heap.size + 1, 2, none⟩ = some (B (l2 n)) := Rn.out.cell 2
  have n3 : w1.cell? ⟨w.heap.size + 1, 3, none⟩ = some (B (l3 n)) := Rn.out.cell 3
  have mz := Rr.out.lt
  have mq0 : w.heap.size < w1.heap.size := by omega
  have mq1 : w.heap.size + 1 < w1.heap.size := by omega
  have mq2 : w.heap.size + 1 + 1 < w1.heap.size := by omega
  clear hb1
  go_wp2_with fail
  refine (cb.out _).mono ?_
  rintro e w2 ⟨rfl, hb2⟩
  have F0 : Hid (PW w w2 w1.heap.size a n (E nb)) := ⟨(HasRow.old Ra.out).below hb2, (HasRow.old Rn.out).below hb2, (HasRow.old Rr.out).below hb2, (HasRow.last rfl).below hb2, bel_call (bel_alloc B1.out _) hb2, mz⟩
  clear hb2 Ra Rn Rr B1 n0 n1 n2 n3 mq0 mq1 mq2 mz
  generalize w1.heap.size = b1 at *
  go_wp2
  go_loopw [8] (fun s w' => ∃ t : Nat, t ≤ nb ∧ s = .int .i64 ((t : Int) - 1) ∧ PW w w' b1 a n (E t)) (fun s _ => (intOf s + 1).toNat)
  case atStart => exact ⟨nb, Nat.le_refl _, rfl, F0.out⟩
  case round =>
    obtain ⟨t, ht, rfl, hS⟩ := hrel
    clear F0
    have KS : Hid _ := hS
    clear hS
    rcases t with _ | p
    · rw [show ((0 : Nat) : Int) - 1 = -1 by rfl]
      have o0 : wr.cell? ⟨b1, 0, none⟩ = some (B (l0 (E 0))) := KS.out.oo.cell 0
      have o1 : wr.cell? ⟨b1, 1, none⟩ = some (B (l1 (E 0))) := KS.out.oo.cell 1
      have o2 : wr.cell? ⟨b1, 2, none⟩ = some (B (l2 (E 0))) := KS.out.oo.cell 2
      have o3 : wr.cell? ⟨b1, 3, none⟩ = some (B (l3 (E 0))) := KS.out.oo.cell 3
      have g0 : wr.cell? ⟨w.heap.size + 1 + 1, 0, none⟩ = some (.int .u64 0) := KS.out.rr.cell 0
      have g1 : wr.cell? ⟨w.heap.size + 1 + 1, 1, none⟩ = some (.int .u64 0) := KS.out.rr.cell 1
      have g2 : wr.cell? ⟨w.heap.size + 1 + 1, 2, none⟩ = some (.int .u64 0) := KS.out.rr.cell 2
      have g3 : wr.cell? ⟨w.heap.size + 1 + 1, 3, none⟩ = some (.int .u64 0) := KS.out.rr.cell 3
      have gz0 := KS.out.rr.frozen 0
      have gz1 := KS.out.rr.frozen 1
      have gz2 := KS.out.rr.frozen 2
      have gz3 := KS.out.rr.frozen 3
      have gq := KS.out.rr.lt
      have oq := KS.out.oo.lt
      go_wp2
      rw [set4 KS.out.rr rfl]
      exact bodyPost_ret (v := U (E 0)) (results_cell1 (p := 6) (ty := 24) rfl (g := w.heap.size + 1 + 1) rfl (HasRow.set_same KS.out.rr _) rfl Try.underlying24 (by kernel_rfl)) rfl ⟨rfl, below_setRow KS.out.bw (by omega) _⟩
    · rw [show ((p + 1 : Nat) : Int) - 1 = (p : Int) by omega]
      have hp : p < nb := ht
      have o0 : wr.cell? ⟨b1, 0, none⟩ = some (B (l0 (E (p + 1)))) := KS.out.oo.cell 0
      have o1 : wr.cell? ⟨b1, 1, none⟩ = some (B (l1 (E (p + 1)))) := KS.out.oo.cell 1
      have o2 : wr.cell? ⟨b1, 2, none⟩ = some (B (l2 (E (p + 1)))) := KS.out.oo.cell 2
      have o3 : wr.cell? ⟨b1, 3, none⟩ = some (B (l3 (E (p + 1)))) := KS.out.oo.cell 3
      go_wp2_with fail
      refine (cs.out p hp _ KS.out.bw).mono ?_
      rintro e w5 ⟨rfl, hb5⟩
      have K5 : Hid (PW w w5 b1 a n (E (p + 1))) := KS.out.call hb5
      clear hb5 KS o0 o1 o2 o3
      have g0 : w5.cell? ⟨b1, 0, none⟩ = some (B (l0 (E (p + 1)))) := K5.out.oo.cell 0
      have g1 : w5.cell? ⟨b1, 1, none⟩ = some (B (l1 (E (p + 1)))) := K5.out.oo.cell 1
      have g2 : w5.cell? ⟨b1, 2, none⟩ = some (B (l2 (E (p + 1)))) := K5.out.oo.cell 2
      have g3 : w5.cell? ⟨b1, 3, none⟩ = some (B (l3 (E (p + 1)))) := K5.out.oo.cell 3
      have gz0 := K5.out.oo.frozen 0
      have gz1 := K5.out.oo.frozen 1
      have gz2 := K5.out.oo.frozen 2
      have gz3 := K5.out.oo.frozen 3
      have gq := K5.out.oo.lt
      go_upto_region 6 with fail
      rw [set4 K5.out.oo rfl]
      have K6 : Hid (PW w (w5.setRow b1 #[B (l0 (Q p)), B (l1 (Q p)), B (l2 (Q p)), B (l3 (Q p))]) b1 a n (Q p)) := K5.out.put (Q p)
      clear K5 g0 g1 g2 g3 gz0 gz1 gz2 gz3 gq
      generalize w5.setRow b1 #[B (l0 (Q p)), B (l1 (Q p)), B (l2 (Q p)), B (l3 (Q p))] = w6 at *
      have hx : w6.cell? ⟨w.heap.size + 1, p / 64, none⟩ = some (.int .u64 ((dm n (p / 64) : Nat) : Int)) := by
        rw [HasRow.cell K6.out.rn]
        exact arr_dm n (p / 64) (by omega)
      have hq := K6.out.rn.lt
      have hbit := bit_dm n p (by omega)
      by_cases hb : n / 2 ^ p % 2 = 1
      · rw [hb] at hbit
        have hbt : (bits BinOp.and IntKind.u64 (((dm n (p / 64) : Nat) : Int) / 2 ^ (p % 64)) 1 == 1) = true := by rw [hbit]; rfl
        clear hbit
        have o0 : w6.cell? ⟨b1, 0, none⟩ = some (B (l0 (Q p))) := K6.out.oo.cell 0
        have o1 : w6.cell? ⟨b1, 1, none⟩ = some (B (l1 (Q p))) := K6.out.oo.cell 1
        have o2 : w6.cell? ⟨b1, 2, none⟩ = some (B (l2 (Q p))) := K6.out.oo.cell 2
        have o3 : w6.cell? ⟨b1, 3, none⟩ = some (B (l3 (Q p))) := K6.out.oo.cell 3
        have a0 : w6.cell? ⟨w.heap.size, 0, none⟩ = some (B (l0 a)) := K6.out.ra.cell 0
        have a1 : w6.cell? ⟨w.heap.size, 1, none⟩ = some (B (l1 a)) := K6.out.ra.cell 1
        have a2 : w6.cell? ⟨w.heap.size, 2, none⟩ = some (B (l2 a)) := K6.out.ra.cell 2
        have a3 : w6.cell? ⟨w.heap.size, 3, none⟩ = some (B (l3 a)) := K6.out.ra.cell 3
        go_wp2_with fail
        refine (cm.out p hp hb _ K6.out.bw).mono ?_
        rintro e w8 ⟨rfl, hb8⟩
        have K8 : Hid (PW w w8 b1 a n (Q p)) := K6.out.call hb8
        clear hb8 K6 o0 o1 o2 o3 a0 a1 a2 a3
        have g0 : w8.cell? ⟨b1, 0, none⟩ = some (B (l0 (Q p))) := K8.out.oo.cell 0
        have g1 : w8.cell? ⟨b1, 1, none⟩ = some (B (l1 (Q p))) := K8.out.oo.cell 1
        have g2 : w8.cell? ⟨b1, 2, none⟩ = some (B (l2 (Q p))) := K8.out.oo.cell 2
        have g3 : w8.cell? ⟨b1, 3, none⟩ = some (B (l3 (Q p))) := K8.out.oo.cell 3
        have gz0 := K8.out.oo.frozen 0
        have gz1 := K8.out.oo.frozen 1
        have gz2 := K8.out.oo.frozen 2
        have gz3 := K8.out.oo.frozen 3
        have gq := K8.out.oo.lt
        go_upto_region 4 with fail
        rw [set4 K8.out.oo rfl]
        have K9 : Hid (PW w (w8.setRow b1 #[B (l0 (E p)), B (l1 (E p)), B (l2 (E p)), B (l3 (E p))]) b1 a n (E p)) := K8.out.put (E p)
        clear K8 g0 g1 g2 g3 gz0 gz1 gz2 gz3 gq
        generalize w8.setRow b1 #[B (l0 (E p)), B (l1 (E p)), B (l2 (E p)), B (l3 (E p))] = w9 at *
        go_wp2
        go_roundw
        case rel => exact ⟨p, by omega, rfl, K9.out⟩
        case measure => simp [intOf]; try omega
      · have hb0 : n / 2 ^ p % 2 = 0 := by omega
        rw [hb0] at hbit
        have hbt : (bits BinOp.and IntKind.u64 (((dm n (p / 64) : Nat) : Int) / 2 ^ (p % 64)) 1 == 1) = false := by rw [hbit]; rfl
        have hE := ce.out p hp hb0
        clear hbit
        go_wp2
        go_roundw
        case rel => exact ⟨p, by omega, rfl, hE ▸ K6.out⟩
        case measure => simp [intOf]; try omega

set_option maxRecDepth 100000 in
set_option maxHeartbeats 4000000 in
theorem rexp_raw (a n nb : Nat) (E Q : Nat → Nat) (hnb : nb ≤ 256) (w : World) (hE1 : U (E nb) = I4 1 0 0 0)
    (cb : Hid (∀ w, Calls Try.prog 43 #[U n] w fun e w' => e = .returned (.int .i64 (nb : Nat)) ∧ Below w.heap.size w w'))
    (cs : Hid (∀ p, p < nb → ∀ w', Calls Try.prog 27 #[U (E (p + 1)), U (E (p + 1))] w' fun e w'' => e = .returned (U (Q p)) ∧ Below w'.heap.size w' w''))
    (cm : Hid (∀ p, p < nb → n / 2 ^ p % 2 = 1 → ∀ w', Calls Try.prog 27 #[U (Q p), U a] w' fun e w'' => e = .returned (U (E p)) ∧ Below w'.heap.size w' w''))
    (ce : Hid (∀ p, p < nb → n / 2 ^ p % 2 = 0 → Q p = E p))
    (cb2 : Hid (∀ p : Nat, p < nb → ∀ w', Calls Try.prog 44 #[U n, .int .i64 (p : Int)] w' fun e w'' => e = .returned (B (n / 2 ^ p % 2)) ∧ Below w'.heap.size w' w'')) :
    Calls Try.prog 21 #[U a, U n] w fun e w' => e = .returned (U (E 0)) ∧ Below w.heap.size w w' := by
  go_enter Try.func21, Try.ntmps21
  have hA : #[B (l0 (E nb)), B (l1 (E nb)), B (l2 (E nb)), B (l3 (E nb))] = #[.int .u64 1, .int .u64 0, .int .u64 0, .int .u64 0] := Value.agg.inj hE1
  clear hE1
  obtain ⟨b1, hb1'⟩ : ∃ n, n = w.heap.size + 1 + 1 + 1 := ⟨_, rfl⟩
  go_wp2_with fail
  refine (cb.out _).mono ?_
  rintro e w2 ⟨rfl, hb2⟩
  have F0 : Hid (PW w w2 b1 a n (E nb)) := ⟨(HasRow.old (HasRow.old (HasRow.old (HasRow.last (by simp))))).below hb2, (HasRow.old (HasRow.old (HasRow.last (by simp)))).below hb2, (HasRow.old (HasRow.last (by simp))).below hb2, (by rw [hA]; exact (HasRow.last (by simp [hb1'])).below hb2), bel_call (by (repeat (first | exact Below.refl _ _ | refine bel_alloc ?_ _))) hb2, by omega⟩
  clear hb2 hA
  go_wp2
  rw [← hb1']
  clear hb1'
  go_loopw [6] (fun s w' => ∃ t : Nat, t ≤ nb ∧ s = .int .i64 ((t : Int) - 1) ∧ PW w w' b1 a n (E t)) (fun s _ => (intOf s + 1).toNat)
  case atStart => exact ⟨nb, Nat.le_refl _, rfl, F0.out⟩
  case round =>
    obtain ⟨t, ht, rfl, hS⟩ := hrel
    clear F0
    have KS : Hid _ := hS
    clear hS
    rcases t with _ | p
    · rw [show ((0 : Nat) : Int) - 1 = -1 by rfl]
      have o0 : wr.cell? ⟨b1, 0, none⟩ = some (B (l0 (E 0))) := KS.out.oo.cell 0
      have o1 : wr.cell? ⟨b1, 1, none⟩ = some (B (l1 (E 0))) := KS.out.oo.cell 1
      have o2 : wr.cell? ⟨b1, 2, none⟩ = some (B (l2 (E 0))) := KS.out.oo.cell 2
      have o3 : wr.cell? ⟨b1, 3, none⟩ = some (B (l3 (E 0))) := KS.out.oo.cell 3
      have g0 : wr.cell? ⟨w.heap.size + 1 + 1, 0, none⟩ = some (.int .u64 0) := KS.out.rr.cell 0
      have g1 : wr.cell? ⟨w.heap.size + 1 + 1, 1, none⟩ = some (.int .u64 0) := KS.out.rr.cell 1
      have g2 : wr.cell? ⟨w.heap.size + 1 + 1, 2, none⟩ = some (.int .u64 0) := KS.out.rr.cell 2
      have g3 : wr.cell? ⟨w.heap.size + 1 + 1, 3, none⟩ = some (.int .u64 0) := KS.out.rr.cell 3
      have gz0 := KS.out.rr.frozen 0
      have gz1 := KS.out.rr.frozen 1
      have gz2 := KS.out.rr.frozen 2
      have gz3 := KS.out.rr.frozen 3
      have gq := KS.out.rr.lt
      have oq := KS.out.oo.lt
      go_wp2
      rw [set4 KS.out.rr rfl]
      exact bodyPost_ret (v := U (E 0)) (results_cell1 (p := 4) (ty := 24) rfl (g := w.heap.size + 1 + 1) rfl (HasRow.set_same KS.out.rr _) rfl Try.underlying24 (by kernel_rfl)) rfl ⟨rfl, below_setRow KS.out.bw (by omega) _⟩
    · rw [show ((p + 1 : Nat) : Int) - 1 = (p : Int) by omega]
      have hp : p < nb := ht
      have o0 : wr.cell? ⟨b1, 0, none⟩ = some (B (l0 (E (p + 1)))) := KS.out.oo.cell 0
      have o1 : wr.cell? ⟨b1, 1, none⟩ = some (B (l1 (E (p + 1)))) := KS.out.oo.cell 1
      have o2 : wr.cell? ⟨b1, 2, none⟩ = some (B (l2 (E (p + 1)))) := KS.out.oo.cell 2
      have o3 : wr.cell? ⟨b1, 3, none⟩ = some (B (l3 (E (p + 1)))) := KS.out.oo.cell 3
      go_wp2_with fail
      refine (cs.out p hp _).mono ?_
      rintro e w5 ⟨rfl, hb5⟩
      have K5 : Hid (PW w w5 b1 a n (E (p + 1))) := KS.out.call hb5
      clear hb5 KS o0 o1 o2 o3
      have g0 : w5.cell? ⟨b1, 0, none⟩ = some (B (l0 (E (p + 1)))) := K5.out.oo.cell 0
      have g1 : w5.cell? ⟨b1, 1, none⟩ = some (B (l1 (E (p + 1)))) := K5.out.oo.cell 1
      have g2 : w5.cell? ⟨b1, 2, none⟩ = some (B (l2 (E (p + 1)))) := K5.out.oo.cell 2
      have g3 : w5.cell? ⟨b1, 3, none⟩ = some (B (l3 (E (p + 1)))) := K5.out.oo.cell 3
      have gz0 := K5.out.oo.frozen 0
      have gz1 := K5.out.oo.frozen 1
      have gz2 := K5.out.oo.frozen 2
      have gz3 := K5.out.oo.frozen 3
      have gq := K5.out.oo.lt
      go_upto_region 6 with fail
      rw [set4 K5.out.oo rfl]
      have K6 : Hid (PW w (w5.setRow b1 #[B (l0 (Q p)), B (l1 (Q p)), B (l2 (Q p)), B (l3 (Q p))]) b1 a n (Q p)) := K5.out.put (Q p)
      clear K5 g0 g1 g2 g3 gz0 gz1 gz2 gz3 gq
      generalize w5.setRow b1 #[B (l0 (Q p)), B (l1 (Q p)), B (l2 (Q p)), B (l3 (Q p))] = w6 at *
      have n0 : w6.cell? ⟨w.heap.size + 1, 0, none⟩ = some (B (l0 n)) := K6.out.rn.cell 0
      have n1 : w6.cell? ⟨w.heap.size + 1, 1, none⟩ = some (B (l1 n)) := K6.out.rn.cell 1
      have n2 : w6.cell? ⟨w.heap.size + 1, 2, none⟩ = some (B (l2 n)) := K6.out.rn.cell 2
      have n3 : w6.cell? ⟨w.heap.size + 1, 3, none⟩ = some (B (l3 n)) := K6.out.rn.cell 3
      by_cases hb : n / 2 ^ p % 2 = 1
      · go_wp2_with fail
        refine (cb2.out p hp _).mono ?_
        rintro e w7 ⟨rfl, hb7⟩
        have K7 : Hid (PW w w7 b1 a n (Q p)) := K6.out.call hb7
        rw [hb]
        clear hb7 K6 n0 n1 n2 n3
        have o0 : w7.cell? ⟨b1, 0, none⟩ = some (B (l0 (Q p))) := K7.out.oo.cell 0
        have o1 : w7.cell? ⟨b1, 1, none⟩ = some (B (l1 (Q p))) := K7.out.oo.cell 1
        have o2 : w7.cell? ⟨b1, 2, none⟩ = some (B (l2 (Q p))) := K7.out.oo.cell 2
        have o3 : w7.cell? ⟨b1, 3, none⟩ = some (B (l3 (Q p))) := K7.out.oo.cell 3
        have a0 : w7.cell? ⟨w.heap.size, 0, none⟩ = some (B (l0 a)) := K7.out.ra.cell 0
        have a1 : w7.cell? ⟨w.heap.size, 1, none⟩ = some (B (l1 a)) := K7.out.ra.cell 1
        have a2 : w7.cell? ⟨w.heap.size, 2, none⟩ = some (B (l2 a)) := K7.out.ra.cell 2
        have a3 : w7.cell? ⟨w.heap.size, 3, none⟩ = some (B (l3 a)) := K7.out.ra.cell 3
        go_wp2_with fail
        refine (cm.out p hp hb _).mono ?_
        rintro e w8 ⟨rfl, hb8⟩
        have K8 : Hid (PW w w8 b1 a n (Q p)) := K7.out.call hb8
        clear hb8 K7 o0 o1 o2 o3 a0 a1 a2 a3
        have g0 : w8.cell? ⟨b1, 0, none⟩ = some (B (l0 (Q p))) := K8.out.oo.cell 0
        have g1 : w8.cell? ⟨b1, 1, none⟩ = some (B (l1 (Q p))) := K8.out.oo.cell 1
        have g2 : w8.cell? ⟨b1, 2, none⟩ = some (B (l2 (Q p))) := K8.out.oo.cell 2
        have g3 : w8.cell? ⟨b1, 3, none⟩ = some (B (l3 (Q p))) := K8.out.oo.cell 3
        have gz0 := K8.out.oo.frozen 0
        have gz1 := K8.out.oo.frozen 1
        have gz2 := K8.out.oo.frozen 2
        have gz3 := K8.out.oo.frozen 3
        have gq := K8.out.oo.lt
        go_upto_region 4 with fail
        rw [set4 K8.out.oo rfl]
        have K9 : Hid (PW w (w8.setRow b1 #[B (l0 (E p)), B (l1 (E p)), B (l2 (E p)), B (l3 (E p))]) b1 a n (E p)) := K8.out.put (E p)
        clear K8 g0 g1 g2 g3 gz0 gz1 gz2 gz3 gq
        generalize w8.setRow b1 #[B (l0 (E p)), B (l1 (E p)), B (l2 (E p)), B (l3 (E p))] = w9 at *
        go_wp2
        go_roundw
        case rel => exact ⟨p, by omega, rfl, K9.out⟩
        case measure => simp [intOf]; try omega
      · have hb0 : n / 2 ^ p % 2 = 0 := by omega
        have hE := ce.out p hp hb0
        go_wp2_with fail
        refine (cb2.out p hp _).mono ?_
        rintro e w7 ⟨rfl, hb7⟩
        have K7 : Hid (PW w w7 b1 a n (Q p)) := K6.out.call hb7
        rw [hb0]
        clear hb7 K6 n0 n1 n2 n3
        go_wp2
        go_roundw
        case rel => exact ⟨p, by omega, rfl, hE ▸ K7.out⟩
        case measure => simp [intOf]; try omega

structure PV (w w' : World) (b1 a n m x : Nat) : Prop where
  ra : HasRow w' (w.heap.size) #[B (l0 a), B (l1 a), B (l2 a), B (l3 a)]
  rn : HasRow w' (w.heap.size + 1) #[B (l0 n), B (l1 n), B (l2 n), B (l3 n)]
  rm : HasRow w' (w.heap.size + 1 + 1) #[B (l0 m), B (l1 m), B (l2 m), B (l3 m)]
  rr : HasRow w' (w.heap.size + 1 + 1 + 1) #[.int .u64 0, .int .u64 0, .int .u64 0, .int .u64 0]
  oo : HasRow w' b1 #[B (l0 x), B (l1 x), B (l2 x), B (l3 x)]
  bw : Below w.heap.size w w'
  gg : w.heap.size + 1 + 1 + 1 < b1
theorem PV.call {w w' w'' : World} {b1 a n m x : Nat} (h : PV w w' b1 a n m x) (hb : Below w'.heap.size w' w'') : PV w w'' b1 a n m x :=
  ⟨h.ra.below hb, h.rn.below hb, h.rm.below hb, h.rr.below hb, h.oo.below hb, h.bw.trans (hb.mono h.bw.size), h.gg⟩
theorem PV.put {w w' : World} {b1 a n m x : Nat} (h : PV w w' b1 a n m x) (y : Nat) : PV w (w'.setRow b1 #[B (l0 y), B (l1 y), B (l2 y), B (l3 y)]) b1 a n m y := by
  have hg := h.gg
  exact ⟨h.ra.set_other _ (by omega), h.rn.set_other _ (by omega), h.rm.set_other _ (by omega), h.rr.set_other _ (by omega), h.oo.set_same _, below_setRow h.bw (by omega) _, hg⟩

set_option maxRecDepth 100000 in
set_option maxHeartbeats 4000000 in
theorem rpow_raw (a n m nb : Nat) (E Q : Nat → Nat) (hnb : nb ≤ 256) (w : World)
    (c0 : Hid (∀ w, Calls Try.prog 12 #[I4 0 0 0 0, I4 1 0 0 0, U m] w fun e w' => e = .returned (U (E nb)) ∧ Below w.heap.size w w'))
    (cb : Hid (∀ w, Calls Try.prog 43 #[U n] w fun e w' => e = .returned (.int .i64 (nb : Nat)) ∧ Below w.heap.size w w'))
    (cs : Hid (∀ p, p < nb → ∀ w', Calls Try.prog 19 #[U (E (p + 1)), U (E (p + 1)), U m] w' fun e w'' => e = .returned (U (Q p)) ∧ Below w'.heap.size w' w''))
    (cm : Hid (∀ p, p < nb → n / 2 ^ p % 2 = 1 → ∀ w', Calls Try.prog 19 #[U (Q p), U a, U m] w' fun e w'' => e = .returned (U (E p)) ∧ Below w'.heap.size w' w''))
    (ce : Hid (∀ p, p < nb → n / 2 ^ p % 2 = 0 → Q p = E p))
    (cb2 : Hid (∀ p : Nat, p < nb → ∀ w', Calls Try.prog 44 #[U n, .int .i64 (p : Int)] w' fun e w'' => e = .returned (B (n / 2 ^ p % 2)) ∧ Below w'.heap.size w' w'')) :
    Calls Try.prog 23 #[U a, U n, U m] w fun e w' => e = .returned (U (E 0)) ∧ Below w.heap.size w w' := by
  go_enter Try.func23, Try.ntmps23
  go_wp2_with fail
  refine (c0.out _).mono ?_
  rintro e w1 ⟨rfl, hb1⟩
  have Ra : Hid (HasRow w1 (w.heap.size) #[B (l0 a), B (l1 a), B (l2 a), B (l3 a)]) := (HasRow.old (HasRow.old (HasRow.old (HasRow.last (by simp))))).below hb1
  have Rn : Hid (HasRow w1 (w.heap.size + 1) #[B (l0 n), B (l1 n), B (l2 n), B (l3 n)]) := (HasRow.old (HasRow.old (HasRow.last (by simp)))).below hb1
  have Rm : Hid (HasRow w1 (w.heap.size + 1 + 1) #[B (l0 m), B (l1 m), B (l2 m), B (l3 m)]) := (HasRow.old (HasRow.last (by simp))).below hb1
  have Rr : Hid (HasRow w1 (w.heap.size + 1 + 1 + 1) #[.int .u64 0, .int .u64 0, .int .u64 0, .int .u64 0]) := (HasRow.last (by simp)).below hb1
  have B1 : Hid (Below w.heap.size w w1) := bel_call (by (repeat (first | exact Below.refl _ _ | refine bel_alloc ?_ _))) hb1
  have n0 : w1.cell? ⟨w.heap.size + 1, 0, none⟩ = some (B (l0 n)) := Rn.out.cell 0
  have n1 : w1.cell? ⟨w.heap.size + 1, 1, none⟩ = some (B (l1 n)) := Rn.out.cell 1
  have n2 : w1.cell? ⟨w.heap.size + 1, 2, none⟩ = some (B (l2 n)) := Rn.out.cell 2
  have n3 : w1.cell? ⟨w.heap.size + 1, 3, none⟩ = some (B (l3 n)) := Rn.out.cell 3
  have mz := Rr.out.lt
  have mq0 : w.heap.size < w1.heap.size := by omega
  have mq1 : w.heap.size + 1 < w1.heap.size := by omega
  have mq2 : w.heap.size + 1 + 1 < w1.heap.size := by omega
  have mq3 : w.heap.size + 1 + 1 + 1 < w1.heap.size := by omega
  clear hb1
  go_wp2_with fail
  refine (cb.out _).mono ?_
  rintro e w2 ⟨rfl, hb2⟩
  have F0 : Hid (PV w w2 w1.heap.size a n m (E nb)) := ⟨(HasRow.old Ra.out).below hb2, (HasRow.old Rn.out).below hb2, (HasRow.old Rm.out).below hb2, (HasRow.old Rr.out).below hb2, (HasRow.last rfl).below hb2, bel_call (bel_alloc B1.out _) hb2, mz⟩
  clear hb2 Ra Rn Rm Rr B1 n0 n1 n2 n3 mq0 mq1 mq2 mq3 mz
  generalize w1.heap.size = b1 at *
  go_wp2
  go_loopw [8] (fun s w' => ∃ t : Nat, t ≤ nb ∧ s = .int .i64 ((t : Int) - 1) ∧ PV w w' b1 a n m (E t)) (fun s _ => (intOf s + 1).toNat)
  case atStart => exact ⟨nb, Nat.le_refl _, rfl, F0.out⟩
  case round =>
    obtain ⟨t, ht, rfl, hS⟩ := hrel
    clear F0
    have KS : Hid _ := hS
    clear hS
    rcases t with _ | p
    · rw [show ((0 : Nat) : Int) - 1 = -1 by rfl]
      have o0 : wr.cell? ⟨b1, 0, none⟩ = some (B (l0 (E 0))) := KS.out.oo.cell 0
      have o1 : wr.cell? ⟨b1, 1, none⟩ = some (B (l1 (E 0))) := KS.out.oo.cell 1
      have o2 : wr.cell? ⟨b1, 2, none⟩ = some (B (l2 (E 0))) := KS.out.oo.cell 2
      have o3 : wr.cell? ⟨b1, 3, none⟩ = some (B (l3 (E 0))) := KS.out.oo.cell 3
      have g0 : wr.cell? ⟨w.heap.size + 1 + 1 + 1, 0, none⟩ = some (.int .u64 0) := KS.out.rr.cell 0
      have g1 : wr.cell? ⟨w.heap.size + 1 + 1 + 1, 1, none⟩ = some (.int .u64 0) := KS.out.rr.cell 1
      have g2 : wr.cell? ⟨w.heap.size + 1 + 1 + 1, 2, none⟩ = some (.int .u64 0) := KS.out.rr.cell 2
      have g3 : wr.cell? ⟨w.heap.size + 1 + 1 + 1, 3, none⟩ = some (.int .u64 0) := KS.out.rr.cell 3
      have gz0 := KS.out.rr.frozen 0
      have gz1 := KS.out.rr.frozen 1
      have gz2 := KS.out.rr.frozen 2
      have gz3 := KS.out.rr.frozen 3
      have gq := KS.out.rr.lt
      have oq := KS.out.oo.lt
      go_wp2
      rw [set4 KS.out.rr rfl]
      exact bodyPost_ret (v := U (E 0)) (results_cell1 (p := 6) (ty := 24) rfl (g := w.heap.size + 1 + 1 + 1) rfl (HasRow.set_same KS.out.rr _) rfl Try.underlying24 (by kernel_rfl)) rfl ⟨rfl, below_setRow KS.out.bw (by omega) _⟩
    · rw [show ((p + 1 : Nat) : Int) - 1 = (p : Int) by omega]
      have hp : p < nb := ht
      have o0 : wr.cell? ⟨b1, 0, none⟩ = some (B (l0 (E (p + 1)))) := KS.out.oo.cell 0
      have o1 : wr.cell? ⟨b1, 1, none⟩ = some (B (l1 (E (p + 1)))) := KS.out.oo.cell 1
      have o2 : wr.cell? ⟨b1, 2, none⟩ = some (B (l2 (E (p + 1)))) := KS.out.oo.cell 2
      have o3 : wr.cell? ⟨b1, 3, none⟩ = some (B (l3 (E (p + 1)))) := KS.out.oo.cell 3
      have k0 : wr.cell? ⟨w.heap.size + 1 + 1, 0, none⟩ = some (B (l0 m)) := KS.out.rm.cell 0
      have k1 : wr.cell? ⟨w.heap.size + 1 + 1, 1, none⟩ = some (B (l1 m)) := KS.out.rm.cell 1
      have k2 : wr.cell? ⟨w.heap.size + 1 + 1, 2, none⟩ = some (B (l2 m)) := KS.out.rm.cell 2
      have k3 : wr.cell? ⟨w.heap.size + 1 + 1, 3, none⟩ = some (B (l3 m)) := KS.out.rm.cell 3
      go_wp2_with fail
      refine (cs.out p hp _).mono ?_
      rintro e w5 ⟨rfl, hb5⟩
      have K5 : Hid (PV w w5 b1 a n m (E (p + 1))) := KS.out.call hb5
      clear hb5 KS o0 o1 o2 o3 k0 k1 k2 k3
      have g0 : w5.cell? ⟨b1, 0, none⟩ = some (B (l0 (E (p + 1)))) := K5.out.oo.cell 0
      have g1 : w5.cell? ⟨b1, 1, none⟩ = some (B (l1 (E (p + 1)))) := K5.out.oo.cell 1
      have g2 : w5.cell? ⟨b1, 2, none⟩ = some (B (l2 (E (p + 1)))) := K5.out.oo.cell 2
      have g3 : w5.cell? ⟨b1, 3, none⟩ = some (B (l3 (E (p + 1)))) := K5.out.oo.cell 3
      have gz0 := K5.out.oo.frozen 0
      have gz1 := K5.out.oo.frozen 1
      have gz2 := K5.out.oo.frozen 2
      have gz3 := K5.out.oo.frozen 3
      have gq := K5.out.oo.lt
      go_upto_region 6 with fail
      rw [set4 K5.out.oo rfl]
      have K6 : Hid (PV w (w5.setRow b1 #[B (l0 (Q p)), B (l1 (Q p)), B (l2 (Q p)), B (l3 (Q p))]) b1 a n m (Q p)) := K5.out.put (Q p)
      clear K5 g0 g1 g2 g3 gz0 gz1 gz2 gz3 gq
      generalize w5.setRow b1 #[B (l0 (Q p)), B (l1 (Q p)), B (l2 (Q p)), B (l3 (Q p))] = w6 at *
      have n0 : w6.cell? ⟨w.heap.size + 1, 0, none⟩ = some (B (l0 n)) := K6.out.rn.cell 0
      have n1 : w6.cell? ⟨w.heap.size + 1, 1, none⟩ = some (B (l1 n)) := K6.out.rn.cell 1
      have n2 : w6.cell? ⟨w.heap.size + 1, 2, none⟩ = some (B (l2 n)) := K6.out.rn.cell 2
      have n3 : w6.cell? ⟨w.heap.size + 1, 3, none⟩ = some (B (l3 n)) := K6.out.rn.cell 3
      by_cases hb : n / 2 ^ p % 2 = 1
      · go_wp2_with fail
        refine (cb2.out p hp _).mono ?_
        rintro e w7 ⟨rfl, hb7⟩
        have K7 : Hid (PV w w7 b1 a n m (Q p)) := K6.out.call hb7
        rw [hb]
        clear hb7 K6 n0 n1 n2 n3
        have o0 : w7.cell? ⟨b1, 0, none⟩ = some (B (l0 (Q p))) := K7.out.oo.cell 0
        have o1 : w7.cell? ⟨b1, 1, none⟩ = some (B (l1 (Q p))) := K7.out.oo.cell 1
        have o2 : w7.cell? ⟨b1, 2, none⟩ = some (B (l2 (Q p))) := K7.out.oo.cell 2
        have o3 : w7.cell? ⟨b1, 3, none⟩ = some (B (l3 (Q p))) := K7.out.oo.cell 3
        have a0 : w7.cell? ⟨w.heap.size, 0, none⟩ = some (B (l0 a)) := K7.out.ra.cell 0
        have a1 : w7.cell? ⟨w.heap.size, 1, none⟩ = some (B (l1 a)) := K7.out.ra.cell 1
        have a2 : w7.cell? ⟨w.heap.size, 2, none⟩ = some (B (l2 a)) := K7.out.ra.cell 2
        have a3 : w7.cell? ⟨w.heap.size, 3, none⟩ = some (B (l3 a)) := K7.out.ra.cell 3
        have k0 : w7.cell? ⟨w.heap.size + 1 + 1, 0, none⟩ = some (B (l0 m)) := K7.out.rm.cell 0
        have k1 : w7.cell? ⟨w.heap.size + 1 + 1, 1, none⟩ = some (B (l1 m)) := K7.out.rm.cell 1
        have k2 : w7.cell? ⟨w.heap.size + 1 + 1, 2, none⟩ = some (B (l2 m)) := K7.out.rm.cell 2
        have k3 : w7.cell? ⟨w.heap.size + 1 + 1, 3, none⟩ = some (B (l3 m)) := K7.out.rm.cell 3
        go_wp2_with fail
        refine (cm.out p hp hb _).mono ?_
        rintro e w8 ⟨rfl, hb8⟩
        have K8 : Hid (PV w w8 b1 a n m (Q p)) := K7.out.call hb8
        clear hb8 K7 o0 o1 o2 o3 a0 a1 a2 a3 k0 k1 k2 k3
        have g0 : w8.cell? ⟨b1, 0, none⟩ = some (B (l0 (Q p))) := K8.out.oo.cell 0
        have g1 : w8.cell? ⟨b1, 1, none⟩ = some (B (l1 (Q p))) := K8.out.oo.cell 1
        have g2 : w8.cell? ⟨b1, 2, none⟩ = some (B (l2 (Q p))) := K8.out.oo.cell 2
        have g3 : w8.cell? ⟨b1, 3, none⟩ = some (B (l3 (Q p))) := K8.out.oo.cell 3
        have gz0 := K8.out.oo.frozen 0
        have gz1 := K8.out.oo.frozen 1
        have gz2 := K8.out.oo.frozen 2
        have gz3 := K8.out.oo.frozen 3
        have gq := K8.out.oo.lt
        go_upto_region 4 with fail
        rw [set4 K8.out.oo rfl]
        have K9 : Hid (PV w (w8.setRow b1 #[B (l0 (E p)), B (l1 (E p)), B (l2 (E p)), B (l3 (E p))]) b1 a n m (E p)) := K8.out.put (E p)
        clear K8 g0 g1 g2 g3 gz0 gz1 gz2 gz3 gq
        generalize w8.setRow b1 #[B (l0 (E p)), B (l1 (E p)), B (l2 (E p)), B (l3 (E p))] = w9 at *
        go_wp2
        go_roundw
        case rel => exact ⟨p, by omega, rfl, K9.out⟩
        case measure => simp [intOf]; try omega
      · have hb0 : n / 2 ^ p % 2 = 0 := by omega
        have hE := ce.out p hp hb0
        go_wp2_with fail
        refine (cb2.out p hp _).mono ?_
        rintro e w7 ⟨rfl, hb7⟩
        have K7 : Hid (PV w w7 b1 a n m (Q p)) := K6.out.call hb7
        rw [hb0]
        clear hb7 K6 n0 n1 n2 n3
        go_wp2
        go_roundw
        case rel => exact ⟨p, by omega, rfl, hE ▸ K7.out⟩
        case measure => simp [intOf]; try omega
end Go.Proofs.Ytillbhdcnhcbhaa

/- Powers: the program's and the document's, by numbers. -/
namespace Go.Proofs.Ytillbhdcnhcbhaa
open Go.RowKit Go.Sort
set_option linter.unusedVariables false
attribute [local go_sem] run_eq4 run_eqU_same

set_option maxRecDepth 100000 in
set_option maxHeartbeats 4000000 in
theorem trivial_raw (m nb : Nat)
    (c1 : Hid (∀ w, Calls Try.prog 48 #[U m] w fun e w' => e = .returned (.int .i64 (nb : Nat)) ∧ Below w.heap.size w w')) (w : World) :
    Calls Try.prog 34 #[U m] w fun e w' => e = .returned (.bool (decide ((nb : Int) ≤ 1))) ∧ Below w.heap.size w w' := by
  go_enter Try.func34, Try.ntmps34
  go_wp2_with fail
  refine (c1.out _).mono ?_
  rintro e w1 ⟨rfl, hb1⟩
  have B1 : Hid (Below w.heap.size w w1) := bel_call (by (repeat (first | exact Below.refl _ _ | refine bel_alloc ?_ _))) hb1
  clear hb1
  go_wp2
  go_ret
  exact ⟨rfl, B1.out⟩

set_option maxRecDepth 100000 in
set_option maxHeartbeats 4000000 in
theorem exp_raw (a n x : Nat)
    (cp : Hid (∀ w, Calls Try.prog 41 #[U a, U n, Value.func (Fn.func 42) #[] #[]] w fun e w' => e = .returned (U x) ∧ Below w.heap.size w w')) (w : World) :
    Calls Try.prog 20 #[U a, U n] w fun e w' => e = .returned (U x) ∧ Below w.heap.size w w' := by
  go_enter Try.func20, Try.ntmps20
  go_wp2_with fail
  refine (cp.out _).mono ?_
  rintro e w1 ⟨rfl, hb1⟩
  have R1 : Hid (HasRow w1 (w.heap.size + 1 + 1) #[.int .u64 0, .int .u64 0, .int .u64 0, .int .u64 0]) := (HasRow.last (by simp)).below hb1
  have B1 : Hid (Below w.heap.size w w1) := bel_call (by (repeat (first | exact Below.refl _ _ | refine bel_alloc ?_ _))) hb1
  clear hb1
  have g0 : w1.cell? ⟨w.heap.size + 1 + 1, 0, none⟩ = some (.int .u64 0) := R1.out.cell 0
  have g1 : w1.cell? ⟨w.heap.size + 1 + 1, 1, none⟩ = some (.int .u64 0) := R1.out.cell 1
  have g2 : w1.cell? ⟨w.heap.size + 1 + 1, 2, none⟩ = some (.int .u64 0) := R1.out.cell 2
  have g3 : w1.cell? ⟨w.heap.size + 1 + 1, 3, none⟩ = some (.int .u64 0) := R1.out.cell 3
  have gz0 := R1.out.frozen 0
  have gz1 := R1.out.frozen 1
  have gz2 := R1.out.frozen 2
  have gz3 := R1.out.frozen 3
  have gq := R1.out.lt
  go_wp2
  rw [set4 R1.out rfl]
  exact bodyPost_ret (v := U x) (results_cell1 (p := 4) (ty := 24) rfl (g := w.heap.size + 1 + 1) rfl (R1.out.set_same _) rfl Try.underlying24 (by kernel_rfl)) rfl ⟨rfl, below_setRow B1.out (by omega) _⟩

set_option maxRecDepth 100000 in
set_option maxHeartbeats 4000000 in
theorem clo_raw (x y m z bm : Nat) (c : Hid (∀ w, Calls Try.prog 18 #[U x, U y, U m] w fun e w' => e = .returned (U z) ∧ Below w.heap.size w w')) (w : World) (hR : HasRow w bm #[B (l0 m), B (l1 m), B (l2 m), B (l3 m)]) :
    Calls Try.prog 45 #[U x, U y, .pointer (some ⟨bm, 0, none⟩)] w fun e w' => e = .returned (U z) ∧ Below w.heap.size w w' := by
  have k0 : w.cell? ⟨bm, 0, none⟩ = some (B (l0 m)) := hR.cell 0
  have k1 : w.cell? ⟨bm, 1, none⟩ = some (B (l1 m)) := hR.cell 1
  have k2 : w.cell? ⟨bm, 2, none⟩ = some (B (l2 m)) := hR.cell 2
  have k3 : w.cell? ⟨bm, 3, none⟩ = some (B (l3 m)) := hR.cell 3
  have kq := hR.lt
  have kn0 : ¬ bm = w.heap.size := by omega
  have kn1 : ¬ bm = w.heap.size + 1 := by omega
  have kn2 : ¬ bm = w.heap.size + 1 + 1 := by omega
  have kq1 : bm < w.heap.size + 1 := by omega
  have kq2 : bm < w.heap.size + 1 + 1 := by omega
  clear hR
  go_enter Try.func45, Try.ntmps45
  go_wp2_with fail
  refine (c.out _).mono ?_
  rintro e w1 ⟨rfl, hb1⟩
  have R1 : Hid (HasRow w1 (w.heap.size + 1 + 1) #[.int .u64 0, .int .u64 0, .int .u64 0, .int .u64 0]) := (HasRow.last (by simp)).below hb1
  have B1 : Hid (Below w.heap.size w w1) := bel_call (by (repeat (first | exact Below.refl _ _ | refine bel_alloc ?_ _))) hb1
  clear hb1
  have g0 : w1.cell? ⟨w.heap.size + 1 + 1, 0, none⟩ = some (.int .u64 0) := R1.out.cell 0
  have g1 : w1.cell? ⟨w.heap.size + 1 + 1, 1, none⟩ = some (.int .u64 0) := R1.out.cell 1
  have g2 : w1.cell? ⟨w.heap.size + 1 + 1, 2, none⟩ = some (.int .u64 0) := R1.out.cell 2
  have g3 : w1.cell? ⟨w.heap.size + 1 + 1, 3, none⟩ = some (.int .u64 0) := R1.out.cell 3
  have gz0 := R1.out.frozen 0
  have gz1 := R1.out.frozen 1
  have gz2 := R1.out.frozen 2
  have gz3 := R1.out.frozen 3
  have gq := R1.out.lt
  go_wp2
  rw [set4 R1.out rfl]
  exact bodyPost_ret (v := U z) (results_cell1 (p := 5) (ty := 24) rfl (g := w.heap.size + 1 + 1) rfl (R1.out.set_same _) rfl Try.underlying24 (by kernel_rfl)) rfl ⟨rfl, below_setRow B1.out (by omega) _⟩

set_option maxRecDepth 100000 in
set_option maxHeartbeats 4000000 in
theorem pow_raw (a n m x : Nat) (c1 : Hid (∀ w, Calls Try.prog 34 #[U m] w fun e w' => e = .returned (.bool false) ∧ Below w.heap.size w w')) (w : World)
    (cp : Hid (∀ w', HasRow w' (w.heap.size + 1 + 1) #[B (l0 m), B (l1 m), B (l2 m), B (l3 m)] → Calls Try.prog 41 #[U a, U n, Value.func (Fn.func 45) #[] #[.pointer (some ⟨w.heap.size + 1 + 1, 0, none⟩)]] w' fun e w'' => e = .returned (U x) ∧ Below w'.heap.size w' w'')) :
    Calls Try.prog 22 #[U a, U n, U m] w fun e w' => e = .returned (U x) ∧ Below w.heap.size w w' := by
  go_enter Try.func22, Try.ntmps22
  go_wp2_with fail
  refine (c1.out _).mono ?_
  rintro e w1 ⟨rfl, hb1⟩
  have Ra : Hid (HasRow w1 (w.heap.size) #[B (l0 a), B (l1 a), B (l2 a), B (l3 a)]) := (HasRow.old (HasRow.old (HasRow.old (HasRow.last (by simp))))).below hb1
  have Rn : Hid (HasRow w1 (w.heap.size + 1) #[B (l0 n), B (l1 n), B (l2 n), B (l3 n)]) := (HasRow.old (HasRow.old (HasRow.last (by simp)))).below hb1
  have Rm : Hid (HasRow w1 (w.heap.size + 1 + 1) #[B (l0 m), B (l1 m), B (l2 m), B (l3 m)]) := (HasRow.old (HasRow.last (by simp))).below hb1
  have Rr : Hid (HasRow w1 (w.heap.size + 1 + 1 + 1) #[.int .u64 0, .int .u64 0, .int .u64 0, .int .u64 0]) := (HasRow.last (by simp)).below hb1
  have B1 : Hid (Below w.heap.size w w1) := bel_call (by (repeat (first | exact Below.refl _ _ | refine bel_alloc ?_ _))) hb1
  have a0 : w1.cell? ⟨w.heap.size, 0, none⟩ = some (B (l0 a)) := Ra.out.cell 0
  have a1 : w1.cell? ⟨w.heap.size, 1, none⟩ = some (B (l1 a)) := Ra.out.cell 1
  have a2 : w1.cell? ⟨w.heap.size, 2, none⟩ = some (B (l2 a)) := Ra.out.cell 2
  have a3 : w1.cell? ⟨w.heap.size, 3, none⟩ = some (B (l3 a)) := Ra.out.cell 3
  have n0 : w1.cell? ⟨w.heap.size + 1, 0, none⟩ = some (B (l0 n)) := Rn.out.cell 0
  have n1 : w1.cell? ⟨w.heap.size + 1, 1, none⟩ = some (B (l1 n)) := Rn.out.cell 1
  have n2 : w1.cell? ⟨w.heap.size + 1, 2, none⟩ = some (B (l2 n)) := Rn.out.cell 2
  have n3 : w1.cell? ⟨w.heap.size + 1, 3, none⟩ = some (B (l3 n)) := Rn.out.cell 3
  clear hb1
  go_wp2_with fail
  refine (cp.out _ Rm.out).mono ?_
  rintro e w2 ⟨rfl, hb2⟩
  have R2 : Hid (HasRow w2 (w.heap.size + 1 + 1 + 1) #[.int .u64 0, .int .u64 0, .int .u64 0, .int .u64 0]) := Rr.out.below hb2
  have B2 : Hid (Below w.heap.size w w2) := bel_call B1.out hb2
  clear hb2 Ra Rn Rm Rr B1 a0 a1 a2 a3 n0 n1 n2 n3
  have g0 : w2.cell? ⟨w.heap.size + 1 + 1 + 1, 0, none⟩ = some (.int .u64 0) := R2.out.cell 0
  have g1 : w2.cell? ⟨w.heap.size + 1 + 1 + 1, 1, none⟩ = some (.int .u64 0) := R2.out.cell 1
  have g2 : w2.cell? ⟨w.heap.size + 1 + 1 + 1, 2, none⟩ = some (.int .u64 0) := R2.out.cell 2
  have g3 : w2.cell? ⟨w.heap.size + 1 + 1 + 1, 3, none⟩ = some (.int .u64 0) := R2.out.cell 3
  have gz0 := R2.out.frozen 0
  have gz1 := R2.out.frozen 1
  have gz2 := R2.out.frozen 2
  have gz3 := R2.out.frozen 3
  have gq := R2.out.lt
  go_wp2
  rw [set4 R2.out rfl]
  exact bodyPost_ret (v := U x) (results_cell1 (p := 6) (ty := 24) rfl (g := w.heap.size + 1 + 1 + 1) rfl (R2.out.set_same _) rfl Try.underlying24 (by kernel_rfl)) rfl ⟨rfl, below_setRow B2.out (by omega) _⟩

set_option maxRecDepth 100000 in
set_option maxHeartbeats 4000000 in
theorem pow0_raw (a n m : Nat)
    (c1 : Hid (∀ w, Calls Try.prog 34 #[U m] w fun e w' => e = .returned (.bool true) ∧ Below w.heap.size w w')) (w : World) :
    Calls Try.prog 22 #[U a, U n, U m] w fun e w' => e = .returned (I4 0 0 0 0) ∧ Below w.heap.size w w' := by
  go_enter Try.func22, Try.ntmps22
  go_wp2_with fail
  refine (c1.out _).mono ?_
  rintro e w1 ⟨rfl, hb1⟩
  have R1 : Hid (HasRow w1 (w.heap.size + 1 + 1 + 1) #[.int .u64 0, .int .u64 0, .int .u64 0, .int .u64 0]) := (HasRow.last (by simp)).below hb1
  have B1 : Hid (Below w.heap.size w w1) := bel_call (by (repeat (first | exact Below.refl _ _ | refine bel_alloc ?_ _))) hb1
  clear hb1
  have g0 : w1.cell? ⟨w.heap.size + 1 + 1 + 1, 0, none⟩ = some (.int .u64 0) := R1.out.cell 0
  have g1 : w1.cell? ⟨w.heap.size + 1 + 1 + 1, 1, none⟩ = some (.int .u64 0) := R1.out.cell 1
  have g2 : w1.cell? ⟨w.heap.size + 1 + 1 + 1, 2, none⟩ = some (.int .u64 0) := R1.out.cell 2
  have g3 : w1.cell? ⟨w.heap.size + 1 + 1 + 1, 3, none⟩ = some (.int .u64 0) := R1.out.cell 3
  have gz0 := R1.out.frozen 0
  have gz1 := R1.out.frozen 1
  have gz2 := R1.out.frozen 2
  have gz3 := R1.out.frozen 3
  have gq := R1.out.lt
  go_wp2
  rw [set4 R1.out rfl]
  exact bodyPost_ret (v := I4 0 0 0 0) (results_cell1 (p := 6) (ty := 24) rfl (g := w.heap.size + 1 + 1 + 1) rfl (R1.out.set_same _) rfl Try.underlying24 (by kernel_rfl)) rfl ⟨rfl, below_setRow B1.out (by omega) _⟩

theorem lt_two_bits (n : Nat) (h : n < W) : n < 2 ^ bitsN n := by
  have key : ∀ x i : Nat, x = n / 2 ^ (64 * i) % M → x ≠ 0 → n < 2 ^ (64 * (i + 1)) → n < 2 ^ (64 * i + Lib.bitLen x) := by
    intro x i hx h0 hn
    have hM : M = 2 ^ 64 := by decide
    have h1 : n / 2 ^ (64 * i) < M := by
      rw [hM]
      refine Nat.div_lt_of_lt_mul ?_
      rw [← Nat.pow_add, show 64 * i + 64 = 64 * (i + 1) by omega]; exact hn
    rw [Nat.mod_eq_of_lt h1] at hx
    have hb := (Lib.bitLenAux_bounds 64 x (by rw [hx, ← hM]; exact h1) h0).2.2
    have hb' : n / 2 ^ (64 * i) < 2 ^ Lib.bitLen x := by rw [← hx]; exact hb
    rw [Nat.pow_add]
    rw [Nat.div_lt_iff_lt_mul (Nat.two_pow_pos _)] at hb'
    rwa [Nat.mul_comm]
  have down : ∀ i : Nat, n / 2 ^ (64 * i) % M = 0 → n < 2 ^ (64 * (i + 1)) → n < 2 ^ (64 * i) := by
    intro i h0 hn
    have hM : M = 2 ^ 64 := by decide
    have h1 : n / 2 ^ (64 * i) < M := by
      rw [hM]
      refine Nat.div_lt_of_lt_mul ?_
      rw [← Nat.pow_add, show 64 * i + 64 = 64 * (i + 1) by omega]; exact hn
    rw [Nat.mod_eq_of_lt h1] at h0
    rcases Nat.lt_or_ge n (2 ^ (64 * i)) with h | h
    · exact h
    · have := Nat.div_pos h (Nat.two_pow_pos _)
      omega
  have hW : n < 2 ^ (64 * 4) := by
    have : W = 2 ^ (64 * 4) := by decide +kernel
    rw [← this]; exact h
  unfold bitsN bits4
  by_cases h3 : l3 n = 0
  · rw [if_pos h3]
    have d3 := down 3 (by rw [← c_l3]; exact h3) hW
    by_cases h2 : l2 n = 0
    · rw [if_pos h2]
      have d2 := down 2 (by rw [← c_l2]; exact h2) d3
      by_cases h1 : l1 n = 0
      · rw [if_pos h1]
        have d1 := down 1 (by rw [← c_l1]; exact h1) d2
        by_cases h0 : l0 n = 0
        · rw [if_pos h0]
          exact down 0 (by rw [← c_l0]; exact h0) d1
        · rw [if_neg h0]
          have := key (l0 n) 0 (c_l0 n) h0 d1
          rwa [Nat.mul_zero, Nat.zero_add] at this
      · rw [if_neg h1]; exact key (l1 n) 1 (c_l1 n) h1 d2
    · rw [if_neg h2]; exact key (l2 n) 2 (c_l2 n) h2 d3
  · rw [if_neg h3]; exact key (l3 n) 3 (c_l3 n) h3 hW
theorem bits_one (n : Nat) (h : n < W) : ((bitsN n : Int) ≤ 1) ↔ n ≤ 1 := by
  constructor
  · intro h1
    have h2 := lt_two_bits n h
    have h3 : 2 ^ bitsN n ≤ 2 ^ 1 := Nat.pow_le_pow_right (by decide) (by omega)
    omega
  · intro h1
    have := bitsN_le n 1 (by omega)
    omega
theorem bits_256 (n : Nat) (h : n < W) : bitsN n ≤ 256 := by
  have hW : W = 2 ^ 256 := by decide +kernel
  exact bitsN_le n 256 (by rw [← hW]; exact h)
def PE (a n m t : Nat) : Nat := rm (a ^ (n / 2 ^ t)) m
def PQ (a n m t : Nat) : Nat := rm (a ^ (2 * (n / 2 ^ (t + 1)))) m
theorem PE_top (a n m : Nat) (h : n < W) : PE a n m (bitsN n) = rm 1 m := by
  unfold PE; rw [Nat.div_eq_of_lt (lt_two_bits n h), Nat.pow_zero]
theorem PE_zero (a n m : Nat) : PE a n m 0 = rm (a ^ n) m := by unfold PE; rw [Nat.pow_zero, Nat.div_one]
theorem PE_sq (a n m t : Nat) : rm (PE a n m (t + 1) * PE a n m (t + 1)) m = PQ a n m t := pw_sq _ _ _
theorem PE_odd (a n m t : Nat) (h : n / 2 ^ t % 2 = 1) : rm (PQ a n m t * a) m = PE a n m t := by
  unfold PQ PE
  rw [pw_odd, half_step n t, h]
theorem PE_even (a n m t : Nat) (h : n / 2 ^ t % 2 = 0) : PQ a n m t = PE a n m t := by
  unfold PQ PE
  have e := half_step n t
  rw [h, Nat.add_zero] at e
  rw [e]
theorem PE_lt (a n t : Nat) {m : Nat} (h : m < W) : PE a n m t < W := rm_lt _ h
theorem PQ_lt (a n t : Nat) {m : Nat} (h : m < W) : PQ a n m t < W := rm_lt _ h
theorem PE_ltW (a n t : Nat) : PE a n W t < W := by unfold PE; rw [rm_W]; exact Nat.mod_lt _ W_pos
theorem PQ_ltW (a n t : Nat) : PQ a n W t < W := by unfold PQ; rw [rm_W]; exact Nat.mod_lt _ W_pos
theorem trivial_any (m : Nat) (h : m < W) (w : World) : Calls Try.prog 34 #[U m] w fun e w' => e = .returned (.bool (decide (m ≤ 1))) ∧ Below w.heap.size w w' := by
  have h1 := trivial_raw m (bitsN m) (bits_any m) w
  rw [decide_eq_decide.2 (bits_one m h)] at h1
  exact h1

theorem exp_any (a n : Nat) (ha : a < W) (hn : n < W) (w : World) : Calls Try.prog 20 #[U a, U n] w fun e w' => e = .returned (U (rm (a ^ n) W)) ∧ Below w.heap.size w w' := by
  refine exp_raw a n _ (fun w => ?_) w
  rw [← PE_zero]
  refine power_exp_raw a n (bitsN n) (PE a n W) (PQ a n W) (bits_256 n hn) w (fun w => ?_) (bits_any n) (fun p hp w => ?_) (fun p hp hb w => ?_) (fun p hp hb => PE_even a n W p hb)
  · have h := of_any 1 (by decide) w
    rw [PE_top a n W hn, rm_W, Nat.mod_eq_of_lt (by decide +kernel)]
    exact h
  · have h := mul_any (PE a n W (p + 1)) (PE a n W (p + 1)) (PE_ltW _ _ _) (PE_ltW _ _ _) w
    rw [← rm_W, PE_sq] at h
    exact h
  · have h := mul_any (PQ a n W p) a (PQ_ltW _ _ _) ha w
    rw [← rm_W, PE_odd _ _ _ _ hb] at h
    exact h
theorem rexp_any (a n : Nat) (ha : a < W) (hn : n < W) (w : World) : Calls Try.prog 21 #[U a, U n] w fun e w' => e = .returned (U (rm (a ^ n) W)) ∧ Below w.heap.size w w' := by
  rw [← PE_zero]
  refine rexp_raw a n (bitsN n) (PE a n W) (PQ a n W) (bits_256 n hn) w ?_ (rbits_any n) (fun p hp w => ?_) (fun p hp hb w => ?_) (fun p hp hb => PE_even a n W p hb) (fun p hp w => bit_any n p (by have := bits_256 n hn; omega) w)
  · rw [PE_top a n W hn, rm_W, Nat.mod_eq_of_lt (by decide +kernel), U_1]
  · have h := rmul_any (PE a n W (p + 1)) (PE a n W (p + 1)) (PE_ltW _ _ _) (PE_ltW _ _ _) w
    rw [← rm_W, PE_sq] at h
    exact h
  · have h := rmul_any (PQ a n W p) a (PQ_ltW _ _ _) ha w
    rw [← rm_W, PE_odd _ _ _ _ hb] at h
    exact h
theorem rpow_any (a n m : Nat) (ha : a < W) (hn : n < W) (hm : m < W) (w : World) : Calls Try.prog 23 #[U a, U n, U m] w fun e w' => e = .returned (U (rm (a ^ n) m)) ∧ Below w.heap.size w w' := by
  rw [← PE_zero]
  refine rpow_raw a n m (bitsN n) (PE a n m) (PQ a n m) (bits_256 n hn) w (fun w => ?_) (rbits_any n) (fun p hp w => ?_) (fun p hp hb w => ?_) (fun p hp hb => PE_even a n m p hb) (fun p hp w => bit_any n p (by have := bits_256 n hn; omega) w)
  · have h := rrest_any 0 1 m W_pos (by decide +kernel) hm w
    rw [U_zero, U_1] at h
    have e : dr 0 1 m = rm 1 m := by unfold dr rm; rw [Nat.zero_mul, Nat.zero_add]
    rw [PE_top a n m hn, ← e]
    exact h
  · have h := rmulmod_any (PE a n m (p + 1)) (PE a n m (p + 1)) m (PE_lt _ _ _ hm) (PE_lt _ _ _ hm) hm w
    rw [PE_sq] at h
    exact h
  · have h := rmulmod_any (PQ a n m p) a m (PQ_lt _ _ _ hm) ha hm w
    rw [PE_odd _ _ _ _ hb] at h
    exact h
theorem pow_any (a n m : Nat) (ha : a < W) (hn : n < W) (hm : m < W) (w : World) : Calls Try.prog 22 #[U a, U n, U m] w fun e w' => e = .returned (U (rm (a ^ n) m)) ∧ Below w.heap.size w w' := by
  rcases Nat.lt_or_ge 1 m with h1 | h1
  · refine pow_raw a n m _ (fun w => ?_) w (fun w' hR => ?_)
    · have h := trivial_any m hm w
      rw [decide_eq_false (by omega)] at h
      exact h
    · rw [← PE_zero]
      refine power_pow_raw a n (bitsN n) _ (PE a n m) (PQ a n m) (bits_256 n hn) w' (fun w => ?_) (bits_any n) (fun p hp w'' hb => ?_) (fun p hp hb w'' hB => ?_) (fun p hp hb => PE_even a n m p hb)
      · have h := of_any 1 (by decide) w
        rw [PE_top a n m hn, rm_pos _ (by omega), Nat.mod_eq_of_lt h1]
        exact h
      · refine clo_raw _ _ m _ _ (fun w => ?_) w'' (hR.below hb)
        have h := mulmod_any (PE a n m (p + 1)) (PE a n m (p + 1)) m (PE_lt _ _ _ hm) (PE_lt _ _ _ hm) hm w
        rw [PE_sq] at h
        exact h
      · refine clo_raw _ _ m _ _ (fun w => ?_) w'' (hR.below hB)
        have h := mulmod_any (PQ a n m p) a m (PQ_lt _ _ _ hm) ha hm w
        rw [PE_odd _ _ _ _ hb] at h
        exact h
  · have e : rm (a ^ n) m = 0 := by
      rcases Nat.eq_zero_or_pos m with h | h
      · subst h; rfl
      · have : m = 1 := by omega
        subst this; rw [rm_pos _ (by decide), Nat.mod_one]
    rw [e, U_zero]
    refine pow0_raw a n m (fun w => ?_) w
    have h := trivial_any m hm w
    rw [decide_eq_true h1] at h
    exact h
end Go.Proofs.Ytillbhdcnhcbhaa

/- Regions that draw their order: slots that are turned later, and what three results are. -/
namespace Go.Proofs.Ytillbhdcnhcbhaa
open Go.RowKit Go.Sort
set_option linter.unusedVariables false
theorem Frm.olds {ops : Array Oper} {vs : Nat → Value} {a a' : Act} {listed : Array Bool} (h : Frm ops vs a listed a') {t i : Nat} (hw : wr ops t = some i) (hn : ¬ listed.getD i false = true) : a'.eval (.tmp t) = a.eval (.tmp t) := by
  show a'.tmps.getD t undef = a.tmps.getD t undef
  rw [Array.getD_eq_getD_getElem?, Array.getD_eq_getD_getElem?]
  by_cases ht : t < a.tmps.size
  · rw [h.2.2 t ht, hw]
    simp only [hn, if_false, Bool.false_eq_true]
  · rw [Array.getElem?_eq_none (by have := h.2.1; omega), Array.getElem?_eq_none (by omega)]
theorem done_me {listed : Array Bool} {k n : Nat} (hs : listed.size = n) (hk : k < n) : (listed.setIfInBounds k true).getD k false = true := by
  have : k < listed.size := by omega
  simp [Array.getD, this]
theorem results_c2t {P : Program} {fn : Func} {p q r : Tmp} {ty ty2 : TypeId} (h : fn.results = #[.cell p ty, .cell q ty2, .tmp r]) {tmps : Array Value} {w : World} {g g2 : Nat} {c c2 : Array Value} {n n2 : Nat} {e e2 : TypeId} {v : Value}
    (h1 : tmps.getD p undef = .pointer (some ⟨g, 0, none⟩)) (h2 : tmps.getD q undef = .pointer (some ⟨g2, 0, none⟩)) (h3 : tmps.getD r undef = v) (r1 : HasRow w g c) (r2 : HasRow w g2 c2) (n1 : c.size = n) (n2' : c2.size = n2)
    (hu : P.underlying ty = some (.array n e)) (hi : (P.info? ty).map (·.size) = some n) (hu2 : P.underlying ty2 = some (.array n2 e2)) (hi2 : (P.info? ty2).map (·.size) = some n2) :
    (results fn tmps).run P w = .ok (.tuple #[.agg c, .agg c2, v]) w := by
  obtain ⟨t, r1⟩ := r1
  obtain ⟨t2, r2⟩ := r2
  have k1 := run_loadVar_row (P := P) w g t ty c (0, 0) _ r1 hu rfl (by rw [n1]; exact hi)
  have k2 := run_loadVar_row (P := P) w g2 t2 ty2 c2 (0, 0) _ r2 hu2 rfl (by rw [n2']; exact hi2)
  have h1' : tmps[p]?.getD undef = .pointer (some ⟨g, 0, none⟩) := by rw [← h1]; simp
  have h2' : tmps[q]?.getD undef = .pointer (some ⟨g2, 0, none⟩) := by rw [← h2]; simp
  have h3' : tmps[r]?.getD undef = v := by rw [← h3]; simp
  simp only [results, h]
  simp [Sem.run_bind, Result.andThen, h1', h2', h3', asAddr, k1, k2]
theorem results_c1t {P : Program} {fn : Func} {p r : Tmp} {ty : TypeId} (h : fn.results = #[.cell p ty, .tmp r]) {tmps : Array Value} {w : World} {g : Nat} {c : Array Value} {n : Nat} {e : TypeId} {v : Value}
    (h1 : tmps.getD p undef = .pointer (some ⟨g, 0, none⟩)) (h3 : tmps.getD r undef = v) (r1 : HasRow w g c) (n1 : c.size = n)
    (hu : P.underlying ty = some (.array n e)) (hi : (P.info? ty).map (·.size) = some n) :
    (results fn tmps).run P w = .ok (.tuple #[.agg c, v]) w := by
  obtain ⟨t, r1⟩ := r1
  have k1 := run_loadVar_row (P := P) w g t ty c (0, 0) _ r1 hu rfl (by rw [n1]; exact hi)
  have h1' : tmps[p]?.getD undef = .pointer (some ⟨g, 0, none⟩) := by rw [← h1]; simp
  have h3' : tmps[r]?.getD undef = v := by rw [← h3]; simp
  simp only [results, h]
  simp [Result.andThen, h1', h3', asAddr, k1]
/-- The number that lies in a row of four parts. -/
def rowN (w : World) (g : Nat) : Nat :=
  mk (intOf ((w.cell? ⟨g, 0, none⟩).getD undef)).toNat (intOf ((w.cell? ⟨g, 1, none⟩).getD undef)).toNat (intOf ((w.cell? ⟨g, 2, none⟩).getD undef)).toNat (intOf ((w.cell? ⟨g, 3, none⟩).getD undef)).toNat
theorem rowN_of {w : World} {g n : Nat} (hn : n < W) (h : HasRow w g #[B (l0 n), B (l1 n), B (l2 n), B (l3 n)]) : rowN w g = n := by
  have c0 : w.cell? ⟨g, 0, none⟩ = some (B (l0 n)) := h.cell 0
  have c1 : w.cell? ⟨g, 1, none⟩ = some (B (l1 n)) := h.cell 1
  have c2 : w.cell? ⟨g, 2, none⟩ = some (B (l2 n)) := h.cell 2
  have c3 : w.cell? ⟨g, 3, none⟩ = some (B (l3 n)) := h.cell 3
  unfold rowN
  rw [c0, c1, c2, c3]
  exact mk_parts n hn
end Go.Proofs.Ytillbhdcnhcbhaa

/- Euclid's way: the program's. -/
namespace Go.Proofs.Ytillbhdcnhcbhaa
open Go.RowKit Go.Sort
set_option linter.unusedVariables false
attribute [local go_sem] run_eq4 run_eqU_same
structure CE2 (w : World) (N0 : Nat) (a m : Nat) (listed : Array Bool) (vs : Nat → Value) (w' : World) : Prop where
  bw : Below w.heap.size w w'
  ms : N0 ≤ w'.heap.size
  R0 : HasRow w' (w.heap.size) #[B (l0 a), B (l1 a), B (l2 a), B (l3 a)]
  R1 : HasRow w' (w.heap.size + 1 + 1) #[B (l0 m), B (l1 m), B (l2 m), B (l3 m)]
  R2 : HasRow w' (w.heap.size + 1 + 1 + 1) #[.int .u64 0, .int .u64 0, .int .u64 0, .int .u64 0]
  c0 : listed.getD 0 false = true → vs 0 = U a
  c1 : listed.getD 1 false = true → vs 1 = I4 1 0 0 0
  c2 : listed.getD 2 false = true → ∃ g c, vs 2 = .pointer (some ⟨g, 0, none⟩) ∧ N0 ≤ g ∧ HasRow w' g c ∧ c.size = 4 ∧ (listed.getD 4 false = true → c = #[B (l0 a), B (l1 a), B (l2 a), B (l3 a)])
  c3 : listed.getD 3 false = true → ∃ g c, vs 3 = .pointer (some ⟨g, 0, none⟩) ∧ N0 ≤ g ∧ HasRow w' g c ∧ c.size = 4 ∧ (listed.getD 5 false = true → c = #[.int .u64 1, .int .u64 0, .int .u64 0, .int .u64 0])
  c4 : listed.getD 4 false = true → listed.getD 2 false = true
  c5 : listed.getD 5 false = true → listed.getD 3 false = true
  ne2_3 : listed.getD 2 false = true → listed.getD 3 false = true → vs 2 ≠ vs 3
structure CE5 (w : World) (N0 : Nat) (dv lf ts nx q r pq sm g7 g8 bq br : Nat) (listed : Array Bool) (vs : Nat → Value) (w' : World) : Prop where
  bw : Below w.heap.size w w'
  ms : N0 ≤ w'.heap.size
  R0 : HasRow w' (w.heap.size + 1 + 1 + 1) #[B (l0 ts), B (l1 ts), B (l2 ts), B (l3 ts)]
  R1 : HasRow w' (bq) #[B (l0 q), B (l1 q), B (l2 q), B (l3 q)]
  R2 : HasRow w' (g8) #[B (l0 nx), B (l1 nx), B (l2 nx), B (l3 nx)]
  R3 : HasRow w' (w.heap.size + 1 + 1) #[B (l0 dv), B (l1 dv), B (l2 dv), B (l3 dv)]
  R4 : HasRow w' (g7) #[B (l0 lf), B (l1 lf), B (l2 lf), B (l3 lf)]
  R5 : HasRow w' (br) #[B (l0 r), B (l1 r), B (l2 r), B (l3 r)]
  c0 : listed.getD 0 false = true → vs 0 = U ts
  c1 : listed.getD 1 false = true → vs 1 = U q
  c2 : listed.getD 2 false = true → vs 2 = U nx
  c3 : listed.getD 3 false = true → vs 3 = U pq
  c4 : listed.getD 4 false = true → vs 4 = .tuple #[U sm, .bool false]
  c5 : listed.getD 5 false = true → vs 5 = .tuple #[U sm, .bool false]
  c6 : listed.getD 6 false = true → vs 6 = U sm
  c7 : listed.getD 7 false = true → vs 7 = .bool false
  c8 : listed.getD 8 false = true → ∃ g c, vs 8 = .pointer (some ⟨g, 0, none⟩) ∧ N0 ≤ g ∧ HasRow w' g c ∧ c.size = 4 ∧ (listed.getD 9 false = true → c = #[B (l0 sm), B (l1 sm), B (l2 sm), B (l3 sm)])
  c9 : listed.getD 9 false = true → listed.getD 8 false = true
  c10 : listed.getD 10 false = true → vs 10 = .bool false
structure CE6 (w : World) (N0 : Nat) (lf ts nx r sm g7 g8 br g11 : Nat) (listed : Array Bool) (vs : Nat → Value) (w' : World) : Prop where
  bw : Below w.heap.size w w'
  ms : N0 ≤ w'.heap.size
  R0 : HasRow w' (br) #[B (l0 r), B (l1 r), B (l2 r), B (l3 r)]
  R1 : HasRow w' (w.heap.size + 1 + 1 + 1) #[B (l0 ts), B (l1 ts), B (l2 ts), B (l3 ts)]
  R2 : HasRow w' (g8) #[B (l0 nx), B (l1 nx), B (l2 nx), B (l3 nx)]
  R3 : HasRow w' (g11) #[B (l0 sm), B (l1 sm), B (l2 sm), B (l3 sm)]
  c0 : listed.getD 0 false = true → vs 0 = U lf
  c1 : listed.getD 1 false = true → vs 1 = U r
  c2 : ∃ c, HasRow w' (w.heap.size + 1 + 1) c ∧ c.size = 4 ∧ (listed.getD 2 false = true → c = #[B (l0 lf), B (l1 lf), B (l2 lf), B (l3 lf)])
  c3 : ∃ c, HasRow w' (g7) c ∧ c.size = 4 ∧ (listed.getD 3 false = true → c = #[B (l0 r), B (l1 r), B (l2 r), B (l3 r)]) ∧ (¬ listed.getD 3 false = true → c = #[B (l0 lf), B (l1 lf), B (l2 lf), B (l3 lf)])
  e3_0 : listed.getD 3 false = true → listed.getD 0 false = true
structure CE7 (w : World) (N0 : Nat) (lf nx r sm g7 g8 g11 : Nat) (listed : Array Bool) (vs : Nat → Value) (w' : World) : Prop where
  bw : Below w.heap.size w w'
  ms : N0 ≤ w'.heap.size
  R0 : HasRow w' (g11) #[B (l0 sm), B (l1 sm), B (l2 sm), B (l3 sm)]
  R1 : HasRow w' (w.heap.size + 1 + 1) #[B (l0 lf), B (l1 lf), B (l2 lf), B (l3 lf)]
  R2 : HasRow w' (g7) #[B (l0 r), B (l1 r), B (l2 r), B (l3 r)]
  c0 : listed.getD 0 false = true → vs 0 = U nx
  c1 : listed.getD 1 false = true → vs 1 = U sm
  c2 : ∃ c, HasRow w' (w.heap.size + 1 + 1 + 1) c ∧ c.size = 4 ∧ (listed.getD 2 false = true → c = #[B (l0 nx), B (l1 nx), B (l2 nx), B (l3 nx)])
  c3 : ∃ c, HasRow w' (g8) c ∧ c.size = 4 ∧ (listed.getD 3 false = true → c = #[B (l0 sm), B (l1 sm), B (l2 sm), B (l3 sm)]) ∧ (¬ listed.getD 3 false = true → c = #[B (l0 nx), B (l1 nx), B (l2 nx), B (l3 nx)])
  e3_0 : listed.getD 3 false = true → listed.getD 0 false = true
structure CE9 (w : World) (N0 : Nat) (dv ts : Nat) (un : Bool) (listed : Array Bool) (vs : Nat → Value) (w' : World) : Prop where
  bw : Below w.heap.size w w'
  ms : N0 ≤ w'.heap.size
  c0 : listed.getD 0 false = true → vs 0 = U dv
  c1 : listed.getD 1 false = true → vs 1 = U ts
  c2 : listed.getD 2 false = true → vs 2 = .bool un
  c3 : ∃ c, HasRow w' (w.heap.size + 1 + 1) c ∧ c.size = 4 ∧ (listed.getD 3 false = true → c = #[B (l0 dv), B (l1 dv), B (l2 dv), B (l3 dv)]) ∧ (¬ listed.getD 3 false = true → c = #[B (l0 dv), B (l1 dv), B (l2 dv), B (l3 dv)])
  c4 : ∃ c, HasRow w' (w.heap.size + 1 + 1 + 1) c ∧ c.size = 4 ∧ (listed.getD 4 false = true → c = #[B (l0 ts), B (l1 ts), B (l2 ts), B (l3 ts)]) ∧ (¬ listed.getD 4 false = true → c = #[B (l0 ts), B (l1 ts), B (l2 ts), B (l3 ts)])
  c5 : listed.getD 5 false = true → vs 5 = .bool un
  e3_0 : listed.getD 3 false = true → listed.getD 0 false = true
  e4_1 : listed.getD 4 false = true → listed.getD 1 false = true
  e5_2 : listed.getD 5 false = true → listed.getD 2 false = true

structure EU (w w' : World) (g7 g8 dv lf ts nx : Nat) : Prop where
  rd : HasRow w' (w.heap.size + 1 + 1) #[B (l0 dv), B (l1 dv), B (l2 dv), B (l3 dv)]
  rt : HasRow w' (w.heap.size + 1 + 1 + 1) #[B (l0 ts), B (l1 ts), B (l2 ts), B (l3 ts)]
  rl : HasRow w' g7 #[B (l0 lf), B (l1 lf), B (l2 lf), B (l3 lf)]
  rx : HasRow w' g8 #[B (l0 nx), B (l1 nx), B (l2 nx), B (l3 nx)]
  bw : Below w.heap.size w w'
  h7 : w.heap.size + 1 + 1 + 1 < g7
  h8 : w.heap.size + 1 + 1 + 1 < g8
  h78 : g7 ≠ g8
theorem EU.call {w w' w'' : World} {g7 g8 dv lf ts nx : Nat} (h : EU w w' g7 g8 dv lf ts nx) (hb : Below w'.heap.size w' w'') : EU w w'' g7 g8 dv lf ts nx :=
  ⟨h.rd.below hb, h.rt.below hb, h.rl.below hb, h.rx.below hb, h.bw.trans (hb.mono h.bw.size), h.h7, h.h8, h.h78⟩
theorem EU.alloc {w w' : World} {g7 g8 dv lf ts nx : Nat} (h : EU w w' g7 g8 dv lf ts nx) (o : Obj) : EU w (w'.alloc o) g7 g8 dv lf ts nx :=
  ⟨h.rd.old, h.rt.old, h.rl.old, h.rx.old, bel_alloc h.bw _, h.h7, h.h8, h.h78⟩

set_option maxRecDepth 100000 in
set_option maxHeartbeats 8000000 in
theorem euclid_raw (a m : Nat) (ha : a < W) (hm : m < W) (h0 : 0 < m)
    (co : Hid (∀ w, Calls Try.prog 36 #[.int .u64 1] w fun e w' => e = .returned (I4 1 0 0 0) ∧ Below w.heap.size w w'))
    (cd : Hid (∀ x y, x < W → y < W → 0 < y → ∀ w, Calls Try.prog 9 #[U x, U y] w fun e w' => e = .returned (.tuple #[U (x / y), U (x % y)]) ∧ Below w.heap.size w w'))
    (cm : Hid (∀ x y, x < W → y < W → x * y < W → ∀ w, Calls Try.prog 42 #[U x, U y] w fun e w' => e = .returned (U (x * y)) ∧ Below w.heap.size w w'))
    (ca : Hid (∀ x y, x < W → y < W → x + y < W → ∀ w, Calls Try.prog 39 #[U x, U y] w fun e w' => e = .returned (.tuple #[U (x + y), .bool false]) ∧ Below w.heap.size w w'))
    (cz : Hid (∀ x, x < W → ∀ w, (Op.equalIn 10000 24 (U x) (I4 0 0 0 0)).run Try.prog w = .ok (decide (x = 0)) w)) (w : World) :
    Calls Try.prog 35 #[U a, U m] w fun e w' => (∃ dv ts nx un, EI a m dv 0 ts nx un ∧ dv < W ∧ e = .returned (.tuple #[U dv, U ts, .bool un])) ∧ Below w.heap.size w w' := by
  have HM : Hid (a < W ∧ m < W ∧ 0 < m) := ⟨ha, hm, h0⟩
  clear ha hm h0
  go_enter Try.func35, Try.ntmps35
  go_wp2
  refine name_world _ ?_
  intro wF hF0
  have r0 : Hid (HasRow wF (w.heap.size) #[B (l0 a), B (l1 a), B (l2 a), B (l3 a)]) := by rw [hF0]; exact (HasRow.old (HasRow.old (HasRow.old (HasRow.last rfl))))
  have r1 : Hid (HasRow wF (w.heap.size + 1 + 1) #[B (l0 m), B (l1 m), B (l2 m), B (l3 m)]) := by rw [hF0]; exact (HasRow.old (HasRow.last (by simp)))
  have r2 : Hid (HasRow wF (w.heap.size + 1 + 1 + 1) #[.int .u64 0, .int .u64 0, .int .u64 0, .int .u64 0]) := by rw [hF0]; exact (HasRow.last (by simp))
  have r3 : Hid (Below w.heap.size w wF) := by rw [hF0]; exact (by (repeat (first | exact Below.refl _ _ | refine bel_alloc ?_ _)))
  obtain ⟨N0, hN0⟩ : ∃ n, n = wF.heap.size := ⟨_, rfl⟩
  have hN : w.heap.size + 1 + 1 + 1 < N0 := by rw [hN0]; exact r2.out.lt
  clear hF0
  refine wp_region_vals2 (by kernel_rfl) (by kernel_rfl) (by kernel_rfl) (CE2 w N0 a m) ?_ ?_ ?_
  · refine ⟨r3.out.drew, by rw [hN0]; exact Nat.le_refl _, r0.out, r1.out, r2.out, ?_, ?_, ?_, ?_, ?_, ?_, ?_⟩ <;> (intro h; simp [Array.getD] at h)
  · intro listed vs a' w' i o' hs ho hi hF cc
    have hin : i < 6 := by have := (Array.getElem?_eq_some_iff.1 ho).1; simpa using this
    have hcase : i = 0 ∨ i = 1 ∨ i = 2 ∨ i = 3 ∨ i = 4 ∨ i = 5 := by omega
    rcases hcase with rfl | rfl | rfl | rfl | rfl | rfl
    · simp at ho
      subst ho
      have T : ∀ j, j ≠ 0 → (listed.setIfInBounds 0 true).getD j false = true → listed.getD j false = true := fun j hj h => (done_set h).resolve_left hj
      have S : ∀ j, listed.getD j false = true → (listed.setIfInBounds 0 true).getD j false = true := fun j h => done_keep h
      exact wp_rowF 24 (.tmp 2) rfl (w.heap.size) ((hF.old (by kernel_rfl)).trans rfl) cc.R0 rfl Try.underlying24 (by kernel_rfl) ⟨_, rfl, ⟨cc.bw, cc.ms, cc.R0, cc.R1, cc.R2, fun _ => rfl, fun h => cc.c1 (T 1 (by decide) h), fun h => by obtain ⟨g', c', e', k1, k2, k3, k4⟩ := cc.c2 (T 2 (by decide) h); exact ⟨g', c', e', k1, k2, k3, fun h6 => k4 (T 4 (by decide) h6)⟩, fun h => by obtain ⟨g', c', e', k1, k2, k3, k4⟩ := cc.c3 (T 3 (by decide) h); exact ⟨g', c', e', k1, k2, k3, fun h6 => k4 (T 5 (by decide) h6)⟩, fun h => S 2 (cc.c4 (T 4 (by decide) h)), fun h => S 3 (cc.c5 (T 5 (by decide) h)), fun h h' => cc.ne2_3 (T 2 (by decide) h) (T 3 (by decide) h')⟩⟩
    · simp at ho
      subst ho
      have T : ∀ j, j ≠ 1 → (listed.setIfInBounds 1 true).getD j false = true → listed.getD j false = true := fun j hj h => (done_set h).resolve_left hj
      have S : ∀ j, listed.getD j false = true → (listed.setIfInBounds 1 true).getD j false = true := fun j h => done_keep h
      refine wp_callF (f := 36) (args := #[.int .u64 1]) (v := I4 1 0 0 0) (by simp [execOp_call_go, go_sem]) (co.out w') ?_
      intro w'' hb''
      exact ⟨_, rfl, ⟨cc.bw.trans (hb''.mono cc.bw.size), Nat.le_trans cc.ms hb''.size, cc.R0.below hb'', cc.R1.below hb'', cc.R2.below hb'', fun h => cc.c0 (T 0 (by decide) h), fun _ => rfl, fun h => by obtain ⟨g', c', e', k1, k2, k3, k4⟩ := cc.c2 (T 2 (by decide) h); exact ⟨g', c', e', k1, k2.below hb'', k3, fun h6 => k4 (T 4 (by decide) h6)⟩, fun h => by obtain ⟨g', c', e', k1, k2, k3, k4⟩ := cc.c3 (T 3 (by decide) h); exact ⟨g', c', e', k1, k2.below hb'', k3, fun h6 => k4 (T 5 (by decide) h6)⟩, fun h => S 2 (cc.c4 (T 4 (by decide) h)), fun h => S 3 (cc.c5 (T 5 (by decide) h)), fun h h' => cc.ne2_3 (T 2 (by decide) h) (T 3 (by decide) h')⟩⟩
    · simp at ho
      subst ho
      have T : ∀ j, j ≠ 2 → (listed.setIfInBounds 2 true).getD j false = true → listed.getD j false = true := fun j hj h => (done_set h).resolve_left hj
      have S : ∀ j, listed.getD j false = true → (listed.setIfInBounds 2 true).getD j false = true := fun j h => done_keep h
      have hun : ¬ listed.getD 2 false = true := fun h => undone hi hs h
      exact wp_valF (v := .pointer (some ⟨w'.heap.size, 0, none⟩)) (w1 := w'.alloc (.cells #[.int .u64 0, .int .u64 0, .int .u64 0, .int .u64 0] 24)) (by simp [execOp, go_sem]) ⟨_, rfl, ⟨bel_alloc cc.bw _, by have := cc.ms; simp; omega, cc.R0.old, cc.R1.old, cc.R2.old, fun h => cc.c0 (T 0 (by decide) h), fun h => cc.c1 (T 1 (by decide) h), fun _ => ⟨w'.heap.size, #[.int .u64 0, .int .u64 0, .int .u64 0, .int .u64 0], rfl, cc.ms, HasRow.last rfl, rfl, fun h6 => absurd (cc.c4 (T 4 (by decide) h6)) hun⟩, fun h => by obtain ⟨g', c', e', k1, k2, k3, k4⟩ := cc.c3 (T 3 (by decide) h); exact ⟨g', c', e', k1, k2.old, k3, fun h6 => k4 (T 5 (by decide) h6)⟩, fun h => S 2 (cc.c4 (T 4 (by decide) h)), fun h => S 3 (cc.c5 (T 5 (by decide) h)), fun _ h => by obtain ⟨g', c', e', k1, k2, k3, k4⟩ := cc.c3 (T 3 (by decide) h); have := k2.lt; show Value.pointer (some ⟨w'.heap.size, 0, none⟩) ≠ vs 3; rw [e']; intro q; simp at q; try omega⟩⟩
    · simp at ho
      subst ho
      have T : ∀ j, j ≠ 3 → (listed.setIfInBounds 3 true).getD j false = true → listed.getD j false = true := fun j hj h => (done_set h).resolve_left hj
      have S : ∀ j, listed.getD j false = true → (listed.setIfInBounds 3 true).getD j false = true := fun j h => done_keep h
      have hun : ¬ listed.getD 3 false = true := fun h => undone hi hs h
      exact wp_valF (v := .pointer (some ⟨w'.heap.size, 0, none⟩)) (w1 := w'.alloc (.cells #[.int .u64 0, .int .u64 0, .int .u64 0, .int .u64 0] 24)) (by simp [execOp, go_sem]) ⟨_, rfl, ⟨bel_alloc cc.bw _, by have := cc.ms; simp; omega, cc.R0.old, cc.R1.old, cc.R2.old, fun h => cc.c0 (T 0 (by decide) h), fun h => cc.c1 (T 1 (by decide) h), fun h => by obtain ⟨g', c', e', k1, k2, k3, k4⟩ := cc.c2 (T 2 (by decide) h); exact ⟨g', c', e', k1, k2.old, k3, fun h6 => k4 (T 4 (by decide) h6)⟩, fun _ => ⟨w'.heap.size, #[.int .u64 0, .int .u64 0, .int .u64 0, .int .u64 0], rfl, cc.ms, HasRow.last rfl, rfl, fun h6 => absurd (cc.c5 (T 5 (by decide) h6)) hun⟩, fun h => S 2 (cc.c4 (T 4 (by decide) h)), fun h => S 3 (cc.c5 (T 5 (by decide) h)), fun h _ => by obtain ⟨g', c', e', k1, k2, k3, k4⟩ := cc.c2 (T 2 (by decide) h); have := k2.lt; show vs 2 ≠ Value.pointer (some ⟨w'.heap.size, 0, none⟩); rw [e']; intro q; simp at q; try omega⟩⟩
    · simp at ho
      subst ho
      have T : ∀ j, j ≠ 4 → (listed.setIfInBounds 4 true).getD j false = true → listed.getD j false = true := fun j hj h => (done_set h).resolve_left hj
      have S : ∀ j, listed.getD j false = true → (listed.setIfInBounds 4 true).getD j false = true := fun j h => done_keep h
      have d4 := (waits_done (i := 4) (j := 2) (by kernel_rfl) hi)
      obtain ⟨g, c, e, h1, h2, h3, h4⟩ := cc.c2 d4
      have hx := (hF.new (t := 7) (i := 2) (by kernel_rfl) (by simp) d4).trans e
      have hv := ((hF.new (t := 14) (i := 0) (by kernel_rfl) (by simp) (waits_done (i := 4) (j := 0) (by kernel_rfl) hi)).trans (cc.c0 (waits_done (i := 4) (j := 0) (by kernel_rfl) hi)))
      exact wp_rowS 24 (.tmp 7) (.tmp 14) rfl g (c' := #[B (l0 a), B (l1 a), B (l2 a), B (l3 a)]) hx hv h2 h3 rfl (by simp [Value.oneCell']) (by kernel_rfl) ⟨_, rfl, ⟨below_setRow cc.bw (by omega) _, by rw [size_setRow]; exact cc.ms, cc.R0.set_other _ (by omega), cc.R1.set_other _ (by omega), cc.R2.set_other _ (by omega), fun h => cc.c0 (T 0 (by decide) h), fun h => cc.c1 (T 1 (by decide) h), fun h => ⟨g, _, e, h1, h2.set_same _, rfl, fun _ => rfl⟩, fun h => by obtain ⟨g', c', e', k1, k2, k3, k4⟩ := cc.c3 (T 3 (by decide) h); exact ⟨g', c', e', k1, k2.set_other _ (by rintro rfl; exact cc.ne2_3 d4 (T 3 (by decide) h) (by rw [e, e'])), k3, fun h6 => k4 (T 5 (by decide) h6)⟩, fun _ => S 2 d4, fun h => S 3 (cc.c5 (T 5 (by decide) h)), fun h h' => cc.ne2_3 (T 2 (by decide) h) (T 3 (by decide) h')⟩⟩
    · simp at ho
      subst ho
      have T : ∀ j, j ≠ 5 → (listed.setIfInBounds 5 true).getD j false = true → listed.getD j false = true := fun j hj h => (done_set h).resolve_left hj
      have S : ∀ j, listed.getD j false = true → (listed.setIfInBounds 5 true).getD j false = true := fun j h => done_keep h
      have d4 := (waits_done (i := 5) (j := 3) (by kernel_rfl) hi)
      obtain ⟨g, c, e, h1, h2, h3, h4⟩ := cc.c3 d4
      have hx := (hF.new (t := 8) (i := 3) (by kernel_rfl) (by simp) d4).trans e
      have hv := ((hF.new (t := 15) (i := 1) (by kernel_rfl) (by simp) (waits_done (i := 5) (j := 1) (by kernel_rfl) hi)).trans (cc.c1 (waits_done (i := 5) (j := 1) (by kernel_rfl) hi)))
      exact wp_rowS 24 (.tmp 8) (.tmp 15) rfl g (c' := #[.int .u64 1, .int .u64 0, .int .u64 0, .int .u64 0]) hx hv h2 h3 rfl (by simp [Value.oneCell']) (by kernel_rfl) ⟨_, rfl, ⟨below_setRow cc.bw (by omega) _, by rw [size_setRow]; exact cc.ms, cc.R0.set_other _ (by omega), cc.R1.set_other _ (by omega), cc.R2.set_other _ (by omega), fun h => cc.c0 (T 0 (by decide) h), fun h => cc.c1 (T 1 (by decide) h), fun h => by obtain ⟨g', c', e', k1, k2, k3, k4⟩ := cc.c2 (T 2 (by decide) h); exact ⟨g', c', e', k1, k2.set_other _ (by rintro rfl; exact cc.ne2_3 (T 2 (by decide) h) d4 (by rw [e, e'])), k3, fun h6 => k4 (T 4 (by decide) h6)⟩, fun h => ⟨g, _, e, h1, h2.set_same _, rfl, fun _ => rfl⟩, fun h => S 2 (cc.c4 (T 4 (by decide) h)), fun _ => S 3 d4, fun h h' => cc.ne2_3 (T 2 (by decide) h) (T 3 (by decide) h')⟩⟩
  · intro listed vs a' w' hd hF cc
    have e : a' = ({ tmps := #[U a, U m, .pointer (some ⟨w.heap.size, 0, none⟩), .pointer (some ⟨w.heap.size + 1, 0, none⟩), .pointer (some ⟨w.heap.size + 1 + 1, 0, none⟩), .pointer (some ⟨w.heap.size + 1 + 1 + 1, 0, none⟩), .bool true, vs 2, vs 3, undef, undef, undef, undef, .agg #[B (l0 m), B (l1 m), B (l2 m), B (l3 m)], vs 0, vs 1, undef, undef, undef, undef, undef, undef, undef, undef, undef, undef, undef, undef, undef, undef, undef, undef, undef, undef, undef, undef, undef, undef, undef, undef, undef, undef], defers := [] } : Act) := (hF.all hd).trans (by kernel_rfl)
    subst e
    obtain ⟨g7, c7, e7, a1, a2, a3, a4⟩ := cc.c2 (hd 2 (by simp))
    obtain ⟨g8, c8, e8, b1, b2, b3, b4⟩ := cc.c3 (hd 3 (by simp))
    have hne : g7 ≠ g8 := by
      rintro rfl
      exact cc.ne2_3 (hd 2 (by simp)) (hd 3 (by simp)) (by rw [e7, e8])
    have F0 : Hid (EU w w' g7 g8 m a 0 1) := by
      have z0 : #[B (l0 0), B (l1 0), B (l2 0), B (l3 0)] = (#[.int .u64 0, .int .u64 0, .int .u64 0, .int .u64 0] : Array Value) := Value.agg.inj U_zero
      have z1 : #[B (l0 1), B (l1 1), B (l2 1), B (l3 1)] = (#[.int .u64 1, .int .u64 0, .int .u64 0, .int .u64 0] : Array Value) := Value.agg.inj U_1
      refine ⟨cc.R1, ?_, a4 (hd 4 (by simp)) ▸ a2, ?_, cc.bw, by omega, by omega, hne⟩
      · rw [z0]; exact cc.R2
      · rw [z1]; exact b4 (hd 5 (by simp)) ▸ b2
    rw [e7, e8]
    generalize vs 0 = p14
    generalize vs 1 = p15
    clear cc hd hF e7 e8 a1 a2 a3 a4 b1 b2 b3 b4 r0 r1 r2 r3 hne hN hN0
    go_wp2
    go_loopw [6] (fun s w1 => ∃ (dv lf ts nx : Nat) (un : Bool), s = .bool un ∧ EU w w1 g7 g8 dv lf ts nx ∧ (dv < W ∧ lf < W) ∧ EI a m dv lf ts nx un) (fun _ w1 => rowN w1 g7)
    case atStart => exact ⟨m, a, 0, 1, true, rfl, F0.out, ⟨HM.out.2.1, HM.out.1⟩, EI.start HM.out.2.2⟩
    case round =>
      obtain ⟨dv, lf, ts, nx, un, rfl, hS, hB, hI⟩ := hrel
      clear F0
      have KS : Hid _ := hS
      have KB : Hid _ := hB
      have KI : Hid _ := hI
      clear hS hB hI
      have hz := cz.out lf KB.out.2
      have f0 : wr.cell? ⟨g7, 0, none⟩ = some (B (l0 lf)) := KS.out.rl.cell 0
      have f1 : wr.cell? ⟨g7, 1, none⟩ = some (B (l1 lf)) := KS.out.rl.cell 1
      have f2 : wr.cell? ⟨g7, 2, none⟩ = some (B (l2 lf)) := KS.out.rl.cell 2
      have f3 : wr.cell? ⟨g7, 3, none⟩ = some (B (l3 lf)) := KS.out.rl.cell 3
      by_cases hl : lf = 0
      · rw [decide_eq_true hl] at hz
        subst hl
        go_wp2
        clear hz f0 f1 f2 f3
        refine wp_region_vals2 (by kernel_rfl) (by kernel_rfl) (by kernel_rfl) (CE9 w 0 dv ts un) ?_ ?_ ?_
        · refine ⟨KS.out.bw.drew, Nat.zero_le _, ?_, ?_, ?_, ⟨_, KS.out.rd, rfl, ?_, fun _ => rfl⟩, ⟨_, KS.out.rt, rfl, ?_, fun _ => rfl⟩, ?_, ?_, ?_, ?_⟩ <;> (intro h; simp [Array.getD] at h)
        · intro listed vs a' w' i o' hs ho hi hF cc
          have hin : i < 6 := by have := (Array.getElem?_eq_some_iff.1 ho).1; simpa using this
          have hcase : i = 0 ∨ i = 1 ∨ i = 2 ∨ i = 3 ∨ i = 4 ∨ i = 5 := by omega
          rcases hcase with rfl | rfl | rfl | rfl | rfl | rfl
          · simp at ho
            subst ho
            have T : ∀ j, j ≠ 0 → (listed.setIfInBounds 0 true).getD j false = true → listed.getD j false = true := fun j hj h => (done_set h).resolve_left hj
            have S : ∀ j, listed.getD j false = true → (listed.setIfInBounds 0 true).getD j false = true := fun j h => done_keep h
            have hun : ¬ listed.getD 0 false = true := fun h => undone hi hs h
            obtain ⟨c, h2, h3, h4, h5⟩ := cc.c3
            have hc := h5 (fun h => hun (cc.e3_0 h))
            subst hc
            exact wp_rowF 24 (.tmp 4) rfl (w.heap.size + 1 + 1) ((hF.old (by kernel_rfl)).trans rfl) h2 h3 Try.underlying24 (by kernel_rfl) ⟨_, rfl, ⟨cc.bw, cc.ms, fun _ => rfl, fun h => cc.c1 (T 1 (by decide) h), fun h => cc.c2 (T 2 (by decide) h), by obtain ⟨c', k2, k3, k4, k5⟩ := cc.c3; exact ⟨c', k2, k3, fun h6 => k4 (T 3 (by decide) h6), fun h6 => k5 (fun h7 => h6 (S 3 h7))⟩, by obtain ⟨c', k2, k3, k4, k5⟩ := cc.c4; exact ⟨c', k2, k3, fun h6 => k4 (T 4 (by decide) h6), fun h6 => k5 (fun h7 => h6 (S 4 h7))⟩, fun h => cc.c5 (T 5 (by decide) h), fun h => S 0 (cc.e3_0 (T 3 (by decide) h)), fun h => S 1 (cc.e4_1 (T 4 (by decide) h)), fun h => S 2 (cc.e5_2 (T 5 (by decide) h))⟩⟩
          · simp at ho
            subst ho
            have T : ∀ j, j ≠ 1 → (listed.setIfInBounds 1 true).getD j false = true → listed.getD j false = true := fun j hj h => (done_set h).resolve_left hj
            have S : ∀ j, listed.getD j false = true → (listed.setIfInBounds 1 true).getD j false = true := fun j h => done_keep h
            have hun : ¬ listed.getD 1 false = true := fun h => undone hi hs h
            obtain ⟨c, h2, h3, h4, h5⟩ := cc.c4
            have hc := h5 (fun h => hun (cc.e4_1 h))
            subst hc
            exact wp_rowF 24 (.tmp 5) rfl (w.heap.size + 1 + 1 + 1) ((hF.old (by kernel_rfl)).trans rfl) h2 h3 Try.underlying24 (by kernel_rfl) ⟨_, rfl, ⟨cc.bw, cc.ms, fun h => cc.c0 (T 0 (by decide) h), fun _ => rfl, fun h => cc.c2 (T 2 (by decide) h), by obtain ⟨c', k2, k3, k4, k5⟩ := cc.c3; exact ⟨c', k2, k3, fun h6 => k4 (T 3 (by decide) h6), fun h6 => k5 (fun h7 => h6 (S 3 h7))⟩, by obtain ⟨c', k2, k3, k4, k5⟩ := cc.c4; exact ⟨c', k2, k3, fun h6 => k4 (T 4 (by decide) h6), fun h6 => k5 (fun h7 => h6 (S 4 h7))⟩, fun h => cc.c5 (T 5 (by decide) h), fun h => S 0 (cc.e3_0 (T 3 (by decide) h)), fun h => S 1 (cc.e4_1 (T 4 (by decide) h)), fun h => S 2 (cc.e5_2 (T 5 (by decide) h))⟩⟩
          · simp at ho
            subst ho
            have T : ∀ j, j ≠ 2 → (listed.setIfInBounds 2 true).getD j false = true → listed.getD j false = true := fun j hj h => (done_set h).resolve_left hj
            have S : ∀ j, listed.getD j false = true → (listed.setIfInBounds 2 true).getD j false = true := fun j h => done_keep h
            have hun : ¬ listed.getD 2 false = true := fun h => undone hi hs h
            have hv := (hF.olds (t := 6) (i := 5) (by kernel_rfl) (fun h => hun (cc.e5_2 h))).trans rfl
            exact wp_valF (v := .bool un) (w1 := w') (by simp [execOp, go_sem, ev hv]) ⟨_, rfl, ⟨cc.bw, cc.ms, fun h => cc.c0 (T 0 (by decide) h), fun h => cc.c1 (T 1 (by decide) h), fun _ => rfl, by obtain ⟨c', k2, k3, k4, k5⟩ := cc.c3; exact ⟨c', k2, k3, fun h6 => k4 (T 3 (by decide) h6), fun h6 => k5 (fun h7 => h6 (S 3 h7))⟩, by obtain ⟨c', k2, k3, k4, k5⟩ := cc.c4; exact ⟨c', k2, k3, fun h6 => k4 (T 4 (by decide) h6), fun h6 => k5 (fun h7 => h6 (S 4 h7))⟩, fun h => cc.c5 (T 5 (by decide) h), fun h => S 0 (cc.e3_0 (T 3 (by decide) h)), fun h => S 1 (cc.e4_1 (T 4 (by decide) h)), fun h => S 2 (cc.e5_2 (T 5 (by decide) h))⟩⟩
          · simp at ho
            subst ho
            have T : ∀ j, j ≠ 3 → (listed.setIfInBounds 3 true).getD j false = true → listed.getD j false = true := fun j hj h => (done_set h).resolve_left hj
            have S : ∀ j, listed.getD j false = true → (listed.setIfInBounds 3 true).getD j false = true := fun j h => done_keep h
            have hv := ((hF.new (t := 39) (i := 0) (by kernel_rfl) (by simp) (waits_done (i := 3) (j := 0) (by kernel_rfl) hi)).trans (cc.c0 (waits_done (i := 3) (j := 0) (by kernel_rfl) hi)))
            obtain ⟨c, h2, h3, h4, h5⟩ := cc.c3
            exact wp_rowS 24 (.tmp 4) (.tmp 39) rfl (w.heap.size + 1 + 1) (c' := #[B (l0 dv), B (l1 dv), B (l2 dv), B (l3 dv)]) ((hF.old (by kernel_rfl)).trans rfl) hv h2 h3 rfl (by simp [Value.oneCell']) (by kernel_rfl) ⟨_, rfl, ⟨below_setRow cc.bw (by omega) _, by rw [size_setRow]; exact cc.ms, fun h => cc.c0 (T 0 (by decide) h), fun h => cc.c1 (T 1 (by decide) h), fun h => cc.c2 (T 2 (by decide) h), ⟨_, h2.set_same _, rfl, fun _ => rfl, fun h6 => absurd (done_me hs (by simp)) h6⟩, by obtain ⟨c', k2, k3, k4, k5⟩ := cc.c4; exact ⟨c', k2.set_other _ (by omega), k3, fun h6 => k4 (T 4 (by decide) h6), fun h6 => k5 (fun h7 => h6 (S 4 h7))⟩, fun h => cc.c5 (T 5 (by decide) h), fun _ => S 0 (waits_done (i := 3) (j := 0) (by kernel_rfl) hi), fun h => S 1 (cc.e4_1 (T 4 (by decide) h)), fun h => S 2 (cc.e5_2 (T 5 (by decide) h))⟩⟩
          · simp at ho
            subst ho
            have T : ∀ j, j ≠ 4 → (listed.setIfInBounds 4 true).getD j false = true → listed.getD j false = true := fun j hj h => (done_set h).resolve_left hj
            have S : ∀ j, listed.getD j false = true → (listed.setIfInBounds 4 true).getD j false = true := fun j h => done_keep h
            have hv := ((hF.new (t := 40) (i := 1) (by kernel_rfl) (by simp) (waits_done (i := 4) (j := 1) (by kernel_rfl) hi)).trans (cc.c1 (waits_done (i := 4) (j := 1) (by kernel_rfl) hi)))
            obtain ⟨c, h2, h3, h4, h5⟩ := cc.c4
            exact wp_rowS 24 (.tmp 5) (.tmp 40) rfl (w.heap.size + 1 + 1 + 1) (c' := #[B (l0 ts), B (l1 ts), B (l2 ts), B (l3 ts)]) ((hF.old (by kernel_rfl)).trans rfl) hv h2 h3 rfl (by simp [Value.oneCell']) (by kernel_rfl) ⟨_, rfl, ⟨below_setRow cc.bw (by omega) _, by rw [size_setRow]; exact cc.ms, fun h => cc.c0 (T 0 (by decide) h), fun h => cc.c1 (T 1 (by decide) h), fun h => cc.c2 (T 2 (by decide) h), by obtain ⟨c', k2, k3, k4, k5⟩ := cc.c3; exact ⟨c', k2.set_other _ (by omega), k3, fun h6 => k4 (T 3 (by decide) h6), fun h6 => k5 (fun h7 => h6 (S 3 h7))⟩, ⟨_, h2.set_same _, rfl, fun _ => rfl, fun h6 => absurd (done_me hs (by simp)) h6⟩, fun h => cc.c5 (T 5 (by decide) h), fun h => S 0 (cc.e3_0 (T 3 (by decide) h)), fun _ => S 1 (waits_done (i := 4) (j := 1) (by kernel_rfl) hi), fun h => S 2 (cc.e5_2 (T 5 (by decide) h))⟩⟩
          · simp at ho
            subst ho
            have T : ∀ j, j ≠ 5 → (listed.setIfInBounds 5 true).getD j false = true → listed.getD j false = true := fun j hj h => (done_set h).resolve_left hj
            have S : ∀ j, listed.getD j false = true → (listed.setIfInBounds 5 true).getD j false = true := fun j h => done_keep h
            have hv := ((hF.new (t := 41) (i := 2) (by kernel_rfl) (by simp) (waits_done (i := 5) (j := 2) (by kernel_rfl) hi)).trans (cc.c2 (waits_done (i := 5) (j := 2) (by kernel_rfl) hi)))
            exact wp_valF (v := .bool un) (w1 := w') (by simp [execOp, go_sem, ev hv]) ⟨_, rfl, ⟨cc.bw, cc.ms, fun h => cc.c0 (T 0 (by decide) h), fun h => cc.c1 (T 1 (by decide) h), fun h => cc.c2 (T 2 (by decide) h), by obtain ⟨c', k2, k3, k4, k5⟩ := cc.c3; exact ⟨c', k2, k3, fun h6 => k4 (T 3 (by decide) h6), fun h6 => k5 (fun h7 => h6 (S 3 h7))⟩, by obtain ⟨c', k2, k3, k4, k5⟩ := cc.c4; exact ⟨c', k2, k3, fun h6 => k4 (T 4 (by decide) h6), fun h6 => k5 (fun h7 => h6 (S 4 h7))⟩, fun _ => rfl, fun h => S 0 (cc.e3_0 (T 3 (by decide) h)), fun h => S 1 (cc.e4_1 (T 4 (by decide) h)), fun _ => S 2 (waits_done (i := 5) (j := 2) (by kernel_rfl) hi)⟩⟩
        · intro listed vs a' w' hd hF cc
          obtain ⟨c, h2, h3, h4, h5⟩ := cc.c3
          obtain ⟨c', k2, k3, k4, k5⟩ := cc.c4
          have hx4 : a'.eval (.tmp 4) = .pointer (some ⟨w.heap.size + 1 + 1, 0, none⟩) := (hF.old (by kernel_rfl)).trans rfl
          have hx5 : a'.eval (.tmp 5) = .pointer (some ⟨w.heap.size + 1 + 1 + 1, 0, none⟩) := (hF.old (by kernel_rfl)).trans rfl
          have hx6 : a'.eval (.tmp 6) = .bool un := (hF.new (t := 6) (i := 5) (by kernel_rfl) (by simp) (hd 5 (by simp))).trans (cc.c5 (hd 5 (by simp)))
          have hr := results_c2t (P := Try.prog) (fn := Try.f35) (tmps := a'.tmps) rfl hx4 hx5 hx6 h2 k2 h3 k3 Try.underlying24 (by kernel_rfl) Try.underlying24 (by kernel_rfl)
          rw [h4 (hd 3 (by simp)), k4 (hd 4 (by simp))] at hr
          have HR : Hid _ := hr
          have HB : Hid _ := cc.bw
          have HD : Hid (a'.defers = []) := hF.1
          clear hr cc hF hx4 hx5 hx6 h2 h3 h4 h5 k2 k3 k4 k5
          go_wp2
          exact bodyPost_ret HR.out HD.out ⟨⟨dv, ts, nx, un, KI.out, KB.out.1, rfl⟩, HB.out⟩
      · rw [decide_eq_false hl] at hz
        have d0 : wr.cell? ⟨w.heap.size + 1 + 1, 0, none⟩ = some (B (l0 dv)) := KS.out.rd.cell 0
        have d1 : wr.cell? ⟨w.heap.size + 1 + 1, 1, none⟩ = some (B (l1 dv)) := KS.out.rd.cell 1
        have d2 : wr.cell? ⟨w.heap.size + 1 + 1, 2, none⟩ = some (B (l2 dv)) := KS.out.rd.cell 2
        have d3 : wr.cell? ⟨w.heap.size + 1 + 1, 3, none⟩ = some (B (l3 dv)) := KS.out.rd.cell 3
        obtain ⟨q, hq⟩ : ∃ q, q = dv / lf := ⟨_, rfl⟩
        obtain ⟨r, hr⟩ : ∃ r, r = dv % lf := ⟨_, rfl⟩
        obtain ⟨pq, hpq⟩ : ∃ x, x = q * nx := ⟨_, rfl⟩
        obtain ⟨sm, hsm⟩ : ∃ x, x = ts + pq := ⟨_, rfl⟩
        have hb := KI.out.bound (Nat.pos_of_ne_zero hl)
        rw [← hq, ← hpq, ← hsm] at hb
        have hmW := HM.out.2.1
        have htW : ts < W := Nat.lt_of_le_of_lt KI.out.t hmW
        have hqW : q < W := by rw [hq]; exact Nat.lt_of_le_of_lt (Nat.div_le_self _ _) KB.out.1
        have c1 : Hid (∀ w, Calls Try.prog 9 #[U dv, U lf] w fun e w' => e = .returned (.tuple #[U q, U r]) ∧ Below w.heap.size w w') := by rw [hq, hr]; exact cd.out dv lf KB.out.1 KB.out.2 (Nat.pos_of_ne_zero hl)
        have c2 : Hid (∀ w, Calls Try.prog 42 #[U q, U nx] w fun e w' => e = .returned (U pq) ∧ Below w.heap.size w w') := by rw [hpq]; exact cm.out q nx hqW (by omega) (by omega)
        have c3 : Hid (∀ w, Calls Try.prog 39 #[U ts, U pq] w fun e w' => e = .returned (.tuple #[U sm, .bool false]) ∧ Below w.heap.size w w') := by rw [hsm]; exact ca.out ts pq htW (by omega) (by omega)
        have KN : Hid (EI a m lf r nx sm (!un) ∧ (lf < W ∧ r < W) ∧ r < lf) := by
          refine ⟨?_, ⟨KB.out.2, ?_⟩, ?_⟩
          · have := KI.out.step (Nat.pos_of_ne_zero hl)
            rw [← hq, ← hr, ← hpq, ← hsm] at this
            exact this
          · rw [hr]; exact Nat.lt_trans (Nat.mod_lt _ (Nat.pos_of_ne_zero hl)) KB.out.2
          · rw [hr]; exact Nat.mod_lt _ (Nat.pos_of_ne_zero hl)
        have hrow := rowN_of KB.out.2 KS.out.rl
        clear hb hq hr hpq hsm hmW htW hqW
        go_wp2_with fail
        refine (c1.out _).mono ?_
        rintro e w5 ⟨rfl, hb5⟩
        have K5 : Hid (EU w w5 g7 g8 dv lf ts nx) := KS.out.call hb5
        have q7 := K5.out.rl.lt
        have q8 := K5.out.rx.lt
        have o1 := K5.out.h7
        have o2 := K5.out.h8
        have o3 := K5.out.h78
        clear hb5 KS d0 d1 d2 d3 f0 f1 f2 f3 hz
        go_upto_region 5 with fail
        obtain ⟨bq, hbq⟩ : ∃ n, n = w5.heap.size := ⟨_, rfl⟩
        obtain ⟨br, hbr⟩ : ∃ n, n = bq + 1 := ⟨_, rfl⟩
        have E5 : Hid (EU w ((w5.alloc (Obj.cells #[B (l0 q), B (l1 q), B (l2 q), B (l3 q)] 24)).alloc (Obj.cells #[B (l0 r), B (l1 r), B (l2 r), B (l3 r)] 24)) g7 g8 dv lf ts nx) := (K5.out.alloc _).alloc _
        have Eq : Hid (HasRow ((w5.alloc (Obj.cells #[B (l0 q), B (l1 q), B (l2 q), B (l3 q)] 24)).alloc (Obj.cells #[B (l0 r), B (l1 r), B (l2 r), B (l3 r)] 24)) bq #[B (l0 q), B (l1 q), B (l2 q), B (l3 q)]) := HasRow.old (HasRow.last hbq)
        have Er : Hid (HasRow ((w5.alloc (Obj.cells #[B (l0 q), B (l1 q), B (l2 q), B (l3 q)] 24)).alloc (Obj.cells #[B (l0 r), B (l1 r), B (l2 r), B (l3 r)] 24)) br #[B (l0 r), B (l1 r), B (l2 r), B (l3 r)]) := HasRow.last (by rw [hbr, hbq]; simp)
        rw [← hbq]
        rw [← hbr]
        rw [← hbq] at q7 q8
        clear K5
        generalize (w5.alloc (Obj.cells #[B (l0 q), B (l1 q), B (l2 q), B (l3 q)] 24)).alloc (Obj.cells #[B (l0 r), B (l1 r), B (l2 r), B (l3 r)] 24) = wA at *
        obtain ⟨N0, hN0⟩ : ∃ n, n = wA.heap.size := ⟨_, rfl⟩
        have hN : br < N0 := by rw [hN0]; exact Er.out.lt
        clear hbq
        refine wp_region_vals2 (by kernel_rfl) (by kernel_rfl) (by kernel_rfl) (CE5 w N0 dv lf ts nx q r pq sm g7 g8 bq br) ?_ ?_ ?_
        · refine ⟨E5.out.bw.drew, by rw [hN0]; exact Nat.le_refl _, E5.out.rt, Eq.out, E5.out.rx, E5.out.rd, E5.out.rl, Er.out, ?_, ?_, ?_, ?_, ?_, ?_, ?_, ?_, ?_, ?_, ?_⟩ <;> (intro h; simp [Array.getD] at h)
        · intro listed vs a' w' i o' hs ho hi hF cc
          have hin : i < 11 := by have := (Array.getElem?_eq_some_iff.1 ho).1; simpa using this
          have hcase : i = 0 ∨ i = 1 ∨ i = 2 ∨ i = 3 ∨ i = 4 ∨ i = 5 ∨ i = 6 ∨ i = 7 ∨ i = 8 ∨ i = 9 ∨ i = 10 := by omega
          rcases hcase with rfl | rfl | rfl | rfl | rfl | rfl | rfl | rfl | rfl | rfl | rfl
          · simp at ho
            subst ho
            have T : ∀ j, j ≠ 0 → (listed.setIfInBounds 0 true).getD j false = true → listed.getD j false = true := fun j hj h => (done_set h).resolve_left hj
            have S : ∀ j, listed.getD j false = true → (listed.setIfInBounds 0 true).getD j false = true := fun j h => done_keep h
            exact wp_rowF 24 (.tmp 5) rfl (w.heap.size + 1 + 1 + 1) ((hF.old (by kernel_rfl)).trans rfl) cc.R0 rfl Try.underlying24 (by kernel_rfl) ⟨_, rfl, ⟨cc.bw, cc.ms, cc.R0, cc.R1, cc.R2, cc.R3, cc.R4, cc.R5, fun _ => rfl, fun h => cc.c1 (T 1 (by decide) h), fun h => cc.c2 (T 2 (by decide) h), fun h => cc.c3 (T 3 (by decide) h), fun h => cc.c4 (T 4 (by decide) h), fun h => cc.c5 (T 5 (by decide) h), fun h => cc.c6 (T 6 (by decide) h), fun h => cc.c7 (T 7 (by decide) h), fun h => by obtain ⟨g', c', e', k1, k2, k3, k4⟩ := cc.c8 (T 8 (by decide) h); exact ⟨g', c', e', k1, k2, k3, fun h6 => k4 (T 9 (by decide) h6)⟩, fun h => S 8 (cc.c9 (T 9 (by decide) h)), fun h => cc.c10 (T 10 (by decide) h)⟩⟩
          · simp at ho
            subst ho
            have T : ∀ j, j ≠ 1 → (listed.setIfInBounds 1 true).getD j false = true → listed.getD j false = true := fun j hj h => (done_set h).resolve_left hj
            have S : ∀ j, listed.getD j false = true → (listed.setIfInBounds 1 true).getD j false = true := fun j h => done_keep h
            exact wp_rowF 24 (.tmp 9) rfl (bq) ((hF.old (by kernel_rfl)).trans rfl) cc.R1 rfl Try.underlying24 (by kernel_rfl) ⟨_, rfl, ⟨cc.bw, cc.ms, cc.R0, cc.R1, cc.R2, cc.R3, cc.R4, cc.R5, fun h => cc.c0 (T 0 (by decide) h), fun _ => rfl, fun h => cc.c2 (T 2 (by decide) h), fun h => cc.c3 (T 3 (by decide) h), fun h => cc.c4 (T 4 (by decide) h), fun h => cc.c5 (T 5 (by decide) h), fun h => cc.c6 (T 6 (by decide) h), fun h => cc.c7 (T 7 (by decide) h), fun h => by obtain ⟨g', c', e', k1, k2, k3, k4⟩ := cc.c8 (T 8 (by decide) h); exact ⟨g', c', e', k1, k2, k3, fun h6 => k4 (T 9 (by decide) h6)⟩, fun h => S 8 (cc.c9 (T 9 (by decide) h)), fun h => cc.c10 (T 10 (by decide) h)⟩⟩
          · simp at ho
            subst ho
            have T : ∀ j, j ≠ 2 → (listed.setIfInBounds 2 true).getD j false = true → listed.getD j false = true := fun j hj h => (done_set h).resolve_left hj
            have S : ∀ j, listed.getD j false = true → (listed.setIfInBounds 2 true).getD j false = true := fun j h => done_keep h
            exact wp_rowF 24 (.tmp 8) rfl (g8) ((hF.old (by kernel_rfl)).trans rfl) cc.R2 rfl Try.underlying24 (by kernel_rfl) ⟨_, rfl, ⟨cc.bw, cc.ms, cc.R0, cc.R1, cc.R2, cc.R3, cc.R4, cc.R5, fun h => cc.c0 (T 0 (by decide) h), fun h => cc.c1 (T 1 (by decide) h), fun _ => rfl, fun h => cc.c3 (T 3 (by decide) h), fun h => cc.c4 (T 4 (by decide) h), fun h => cc.c5 (T 5 (by decide) h), fun h => cc.c6 (T 6 (by decide) h), fun h => cc.c7 (T 7 (by decide) h), fun h => by obtain ⟨g', c', e', k1, k2, k3, k4⟩ := cc.c8 (T 8 (by decide) h); exact ⟨g', c', e', k1, k2, k3, fun h6 => k4 (T 9 (by decide) h6)⟩, fun h => S 8 (cc.c9 (T 9 (by decide) h)), fun h => cc.c10 (T 10 (by decide) h)⟩⟩
          · simp at ho
            subst ho
            have T : ∀ j, j ≠ 3 → (listed.setIfInBounds 3 true).getD j false = true → listed.getD j false = true := fun j hj h => (done_set h).resolve_left hj
            have S : ∀ j, listed.getD j false = true → (listed.setIfInBounds 3 true).getD j false = true := fun j h => done_keep h
            have hv0 := ((hF.new (t := 27) (i := 1) (by kernel_rfl) (by simp) (waits_done (i := 3) (j := 1) (by kernel_rfl) hi)).trans (cc.c1 (waits_done (i := 3) (j := 1) (by kernel_rfl) hi)))
            have hv1 := ((hF.new (t := 28) (i := 2) (by kernel_rfl) (by simp) (waits_done (i := 3) (j := 2) (by kernel_rfl) hi)).trans (cc.c2 (waits_done (i := 3) (j := 2) (by kernel_rfl) hi)))
            refine wp_callF (f := 42) (args := #[U q, U nx]) (v := U pq) (by simp [execOp_call_go, ev hv0, ev hv1, go_sem]) (c2.out w') ?_
            intro w'' hb''
            exact ⟨_, rfl, ⟨cc.bw.trans (hb''.mono cc.bw.size), Nat.le_trans cc.ms hb''.size, cc.R0.below hb'', cc.R1.below hb'', cc.R2.below hb'', cc.R3.below hb'', cc.R4.below hb'', cc.R5.below hb'', fun h => cc.c0 (T 0 (by decide) h), fun h => cc.c1 (T 1 (by decide) h), fun h => cc.c2 (T 2 (by decide) h), fun _ => rfl, fun h => cc.c4 (T 4 (by decide) h), fun h => cc.c5 (T 5 (by decide) h), fun h => cc.c6 (T 6 (by decide) h), fun h => cc.c7 (T 7 (by decide) h), fun h => by obtain ⟨g', c', e', k1, k2, k3, k4⟩ := cc.c8 (T 8 (by decide) h); exact ⟨g', c', e', k1, k2.below hb'', k3, fun h6 => k4 (T 9 (by decide) h6)⟩, fun h => S 8 (cc.c9 (T 9 (by decide) h)), fun h => cc.c10 (T 10 (by decide) h)⟩⟩
          · simp at ho
            subst ho
            have T : ∀ j, j ≠ 4 → (listed.setIfInBounds 4 true).getD j false = true → listed.getD j false = true := fun j hj h => (done_set h).resolve_left hj
            have S : ∀ j, listed.getD j false = true → (listed.setIfInBounds 4 true).getD j false = true := fun j h => done_keep h
            have hv0 := ((hF.new (t := 26) (i := 0) (by kernel_rfl) (by simp) (waits_done (i := 4) (j := 0) (by kernel_rfl) hi)).trans (cc.c0 (waits_done (i := 4) (j := 0) (by kernel_rfl) hi)))
            have hv1 := ((hF.new (t := 29) (i := 3) (by kernel_rfl) (by simp) (waits_done (i := 4) (j := 3) (by kernel_rfl) hi)).trans (cc.c3 (waits_done (i := 4) (j := 3) (by kernel_rfl) hi)))
            refine wp_callF (f := 39) (args := #[U ts, U pq]) (v := .tuple #[U sm, .bool false]) (by simp [execOp_call_go, ev hv0, ev hv1, go_sem]) (c3.out w') ?_
            intro w'' hb''
            exact ⟨_, rfl, ⟨cc.bw.trans (hb''.mono cc.bw.size), Nat.le_trans cc.ms hb''.size, cc.R0.below hb'', cc.R1.below hb'', cc.R2.below hb'', cc.R3.below hb'', cc.R4.below hb'', cc.R5.below hb'', fun h => cc.c0 (T 0 (by decide) h), fun h => cc.c1 (T 1 (by decide) h), fun h => cc.c2 (T 2 (by decide) h), fun h => cc.c3 (T 3 (by decide) h), fun _ => rfl, fun h => cc.c5 (T 5 (by decide) h), fun h => cc.c6 (T 6 (by decide) h), fun h => cc.c7 (T 7 (by decide) h), fun h => by obtain ⟨g', c', e', k1, k2, k3, k4⟩ := cc.c8 (T 8 (by decide) h); exact ⟨g', c', e', k1, k2.below hb'', k3, fun h6 => k4 (T 9 (by decide) h6)⟩, fun h => S 8 (cc.c9 (T 9 (by decide) h)), fun h => cc.c10 (T 10 (by decide) h)⟩⟩
          · simp at ho
            subst ho
            have T : ∀ j, j ≠ 5 → (listed.setIfInBounds 5 true).getD j false = true → listed.getD j false = true := fun j hj h => (done_set h).resolve_left hj
            have S : ∀ j, listed.getD j false = true → (listed.setIfInBounds 5 true).getD j false = true := fun j h => done_keep h
            have hv := ((hF.new (t := 30) (i := 4) (by kernel_rfl) (by simp) (waits_done (i := 5) (j := 4) (by kernel_rfl) hi)).trans (cc.c4 (waits_done (i := 5) (j := 4) (by kernel_rfl) hi)))
            exact wp_valF (v := .tuple #[U sm, .bool false]) (w1 := w') (by simp [execOp, go_sem, ev hv]) ⟨_, rfl, ⟨cc.bw, cc.ms, cc.R0, cc.R1, cc.R2, cc.R3, cc.R4, cc.R5, fun h => cc.c0 (T 0 (by decide) h), fun h => cc.c1 (T 1 (by decide) h), fun h => cc.c2 (T 2 (by decide) h), fun h => cc.c3 (T 3 (by decide) h), fun h => cc.c4 (T 4 (by decide) h), fun _ => rfl, fun h => cc.c6 (T 6 (by decide) h), fun h => cc.c7 (T 7 (by decide) h), fun h => by obtain ⟨g', c', e', k1, k2, k3, k4⟩ := cc.c8 (T 8 (by decide) h); exact ⟨g', c', e', k1, k2, k3, fun h6 => k4 (T 9 (by decide) h6)⟩, fun h => S 8 (cc.c9 (T 9 (by decide) h)), fun h => cc.c10 (T 10 (by decide) h)⟩⟩
          · simp at ho
            subst ho
            have T : ∀ j, j ≠ 6 → (listed.setIfInBounds 6 true).getD j false = true → listed.getD j false = true := fun j hj h => (done_set h).resolve_left hj
            have S : ∀ j, listed.getD j false = true → (listed.setIfInBounds 6 true).getD j false = true := fun j h => done_keep h
            have hv := ((hF.new (t := 25) (i := 5) (by kernel_rfl) (by simp) (waits_done (i := 6) (j := 5) (by kernel_rfl) hi)).trans (cc.c5 (waits_done (i := 6) (j := 5) (by kernel_rfl) hi)))
            exact wp_valF (v := U sm) (w1 := w') (by simp [execOp, go_sem, ev hv]) ⟨_, rfl, ⟨cc.bw, cc.ms, cc.R0, cc.R1, cc.R2, cc.R3, cc.R4, cc.R5, fun h => cc.c0 (T 0 (by decide) h), fun h => cc.c1 (T 1 (by decide) h), fun h => cc.c2 (T 2 (by decide) h), fun h => cc.c3 (T 3 (by decide) h), fun h => cc.c4 (T 4 (by decide) h), fun h => cc.c5 (T 5 (by decide) h), fun _ => rfl, fun h => cc.c7 (T 7 (by decide) h), fun h => by obtain ⟨g', c', e', k1, k2, k3, k4⟩ := cc.c8 (T 8 (by decide) h); exact ⟨g', c', e', k1, k2, k3, fun h6 => k4 (T 9 (by decide) h6)⟩, fun h => S 8 (cc.c9 (T 9 (by decide) h)), fun h => cc.c10 (T 10 (by decide) h)⟩⟩
          · simp at ho
            subst ho
            have T : ∀ j, j ≠ 7 → (listed.setIfInBounds 7 true).getD j false = true → listed.getD j false = true := fun j hj h => (done_set h).resolve_left hj
            have S : ∀ j, listed.getD j false = true → (listed.setIfInBounds 7 true).getD j false = true := fun j h => done_keep h
            have hv := ((hF.new (t := 25) (i := 5) (by kernel_rfl) (by simp) (waits_done (i := 7) (j := 5) (by kernel_rfl) hi)).trans (cc.c5 (waits_done (i := 7) (j := 5) (by kernel_rfl) hi)))
            exact wp_valF (v := .bool false) (w1 := w') (by simp [execOp, go_sem, ev hv]) ⟨_, rfl, ⟨cc.bw, cc.ms, cc.R0, cc.R1, cc.R2, cc.R3, cc.R4, cc.R5, fun h => cc.c0 (T 0 (by decide) h), fun h => cc.c1 (T 1 (by decide) h), fun h => cc.c2 (T 2 (by decide) h), fun h => cc.c3 (T 3 (by decide) h), fun h => cc.c4 (T 4 (by decide) h), fun h => cc.c5 (T 5 (by decide) h), fun h => cc.c6 (T 6 (by decide) h), fun _ => rfl, fun h => by obtain ⟨g', c', e', k1, k2, k3, k4⟩ := cc.c8 (T 8 (by decide) h); exact ⟨g', c', e', k1, k2, k3, fun h6 => k4 (T 9 (by decide) h6)⟩, fun h => S 8 (cc.c9 (T 9 (by decide) h)), fun h => cc.c10 (T 10 (by decide) h)⟩⟩
          · simp at ho
            subst ho
            have T : ∀ j, j ≠ 8 → (listed.setIfInBounds 8 true).getD j false = true → listed.getD j false = true := fun j hj h => (done_set h).resolve_left hj
            have S : ∀ j, listed.getD j false = true → (listed.setIfInBounds 8 true).getD j false = true := fun j h => done_keep h
            have hun : ¬ listed.getD 8 false = true := fun h => undone hi hs h
            exact wp_valF (v := .pointer (some ⟨w'.heap.size, 0, none⟩)) (w1 := w'.alloc (.cells #[.int .u64 0, .int .u64 0, .int .u64 0, .int .u64 0] 24)) (by simp [execOp, go_sem]) ⟨_, rfl, ⟨bel_alloc cc.bw _, by have := cc.ms; simp; omega, cc.R0.old, cc.R1.old, cc.R2.old, cc.R3.old, cc.R4.old, cc.R5.old, fun h => cc.c0 (T 0 (by decide) h), fun h => cc.c1 (T 1 (by decide) h), fun h => cc.c2 (T 2 (by decide) h), fun h => cc.c3 (T 3 (by decide) h), fun h => cc.c4 (T 4 (by decide) h), fun h => cc.c5 (T 5 (by decide) h), fun h => cc.c6 (T 6 (by decide) h), fun h => cc.c7 (T 7 (by decide) h), fun _ => ⟨w'.heap.size, #[.int .u64 0, .int .u64 0, .int .u64 0, .int .u64 0], rfl, cc.ms, HasRow.last rfl, rfl, fun h6 => absurd (cc.c9 (T 9 (by decide) h6)) hun⟩, fun h => S 8 (cc.c9 (T 9 (by decide) h)), fun h => cc.c10 (T 10 (by decide) h)⟩⟩
          · simp at ho
            subst ho
            have T : ∀ j, j ≠ 9 → (listed.setIfInBounds 9 true).getD j false = true → listed.getD j false = true := fun j hj h => (done_set h).resolve_left hj
            have S : ∀ j, listed.getD j false = true → (listed.setIfInBounds 9 true).getD j false = true := fun j h => done_keep h
            have d4 := (waits_done (i := 9) (j := 8) (by kernel_rfl) hi)
            obtain ⟨g, c, e, h1, h2, h3, h4⟩ := cc.c8 d4
            have hx := (hF.new (t := 11) (i := 8) (by kernel_rfl) (by simp) d4).trans e
            have hv := ((hF.new (t := 31) (i := 6) (by kernel_rfl) (by simp) (waits_done (i := 9) (j := 6) (by kernel_rfl) hi)).trans (cc.c6 (waits_done (i := 9) (j := 6) (by kernel_rfl) hi)))
            exact wp_rowS 24 (.tmp 11) (.tmp 31) rfl g (c' := #[B (l0 sm), B (l1 sm), B (l2 sm), B (l3 sm)]) hx hv h2 h3 rfl (by simp [Value.oneCell']) (by kernel_rfl) ⟨_, rfl, ⟨below_setRow cc.bw (by omega) _, by rw [size_setRow]; exact cc.ms, cc.R0.set_other _ (by omega), cc.R1.set_other _ (by omega), cc.R2.set_other _ (by omega), cc.R3.set_other _ (by omega), cc.R4.set_other _ (by omega), cc.R5.set_other _ (by omega), fun h => cc.c0 (T 0 (by decide) h), fun h => cc.c1 (T 1 (by decide) h), fun h => cc.c2 (T 2 (by decide) h), fun h => cc.c3 (T 3 (by decide) h), fun h => cc.c4 (T 4 (by decide) h), fun h => cc.c5 (T 5 (by decide) h), fun h => cc.c6 (T 6 (by decide) h), fun h => cc.c7 (T 7 (by decide) h), fun h => ⟨g, _, e, h1, h2.set_same _, rfl, fun _ => rfl⟩, fun _ => S 8 d4, fun h => cc.c10 (T 10 (by decide) h)⟩⟩
          · simp at ho
            subst ho
            have T : ∀ j, j ≠ 10 → (listed.setIfInBounds 10 true).getD j false = true → listed.getD j false = true := fun j hj h => (done_set h).resolve_left hj
            have S : ∀ j, listed.getD j false = true → (listed.setIfInBounds 10 true).getD j false = true := fun j h => done_keep h
            have hv := ((hF.new (t := 32) (i := 7) (by kernel_rfl) (by simp) (waits_done (i := 10) (j := 7) (by kernel_rfl) hi)).trans (cc.c7 (waits_done (i := 10) (j := 7) (by kernel_rfl) hi)))
            exact wp_valF (v := .bool false) (w1 := w') (by simp [execOp, go_sem, ev hv]) ⟨_, rfl, ⟨cc.bw, cc.ms, cc.R0, cc.R1, cc.R2, cc.R3, cc.R4, cc.R5, fun h => cc.c0 (T 0 (by decide) h), fun h => cc.c1 (T 1 (by decide) h), fun h => cc.c2 (T 2 (by decide) h), fun h => cc.c3 (T 3 (by decide) h), fun h => cc.c4 (T 4 (by decide) h), fun h => cc.c5 (T 5 (by decide) h), fun h => cc.c6 (T 6 (by decide) h), fun h => cc.c7 (T 7 (by decide) h), fun h => by obtain ⟨g', c', e', k1, k2, k3, k4⟩ := cc.c8 (T 8 (by decide) h); exact ⟨g', c', e', k1, k2, k3, fun h6 => k4 (T 9 (by decide) h6)⟩, fun h => S 8 (cc.c9 (T 9 (by decide) h)), fun _ => rfl⟩⟩
        · intro listed vs a' w' hd hF cc
          have e : a' = ({ tmps := #[U a, U m, .pointer (some ⟨w.heap.size, 0, none⟩), .pointer (some ⟨w.heap.size + 1, 0, none⟩), .pointer (some ⟨w.heap.size + 1 + 1, 0, none⟩), .pointer (some ⟨w.heap.size + 1 + 1 + 1, 0, none⟩), .bool un, .pointer (some ⟨g7, 0, none⟩), .pointer (some ⟨g8, 0, none⟩), .pointer (some ⟨bq, 0, none⟩), .pointer (some ⟨br, 0, none⟩), vs 8, vs 10, .agg #[B (l0 m), B (l1 m), B (l2 m), B (l3 m)], p14, p15, .agg #[B (l0 lf), B (l1 lf), B (l2 lf), B (l3 lf)], .agg #[.int .u64 0, .int .u64 0, .int .u64 0, .int .u64 0], .bool true, .tuple #[U q, U r], .agg #[B (l0 dv), B (l1 dv), B (l2 dv), B (l3 dv)], .agg #[B (l0 lf), B (l1 lf), B (l2 lf), B (l3 lf)], .tuple #[U q, U r], U q, U r, vs 5, vs 0, vs 1, vs 2, vs 3, vs 4, vs 6, vs 7, u33, u34, u35, u36, u37, u38, undef, undef, undef], defers := [] } : Act) := (hF.all hd).trans (by kernel_rfl)
          subst e
          obtain ⟨g11, c, e8, h1, h2, h3, h4⟩ := cc.c8 (hd 8 (by simp))
          have V0 : Hid (HasRow w' (w.heap.size + 1 + 1) #[B (l0 dv), B (l1 dv), B (l2 dv), B (l3 dv)] ∧ HasRow w' g7 #[B (l0 lf), B (l1 lf), B (l2 lf), B (l3 lf)] ∧ HasRow w' (w.heap.size + 1 + 1 + 1) #[B (l0 ts), B (l1 ts), B (l2 ts), B (l3 ts)] ∧ HasRow w' g8 #[B (l0 nx), B (l1 nx), B (l2 nx), B (l3 nx)] ∧ HasRow w' br #[B (l0 r), B (l1 r), B (l2 r), B (l3 r)] ∧ HasRow w' g11 #[B (l0 sm), B (l1 sm), B (l2 sm), B (l3 sm)] ∧ Below w.heap.size w w') := ⟨cc.R3, cc.R4, cc.R0, cc.R2, cc.R5, h4 (hd 9 (by simp)) ▸ h2, cc.bw⟩
          have o5 : br < g11 := by omega
          rw [e8]
          generalize vs 10 = p12
          generalize vs 5 = p25
          generalize vs 0 = p26
          generalize vs 1 = p27
          generalize vs 2 = p28
          generalize vs 3 = p29
          generalize vs 4 = p30
          generalize vs 6 = p31
          generalize vs 7 = p32
          clear cc hd hF h2 h3 h4 e8
          go_wp2
          generalize w' = w5' at *
          refine wp_region_vals2 (by kernel_rfl) (by kernel_rfl) (by kernel_rfl) (CE6 w 0 lf ts nx r sm g7 g8 br g11) ?_ ?_ ?_
          · refine ⟨V0.out.2.2.2.2.2.2.drew, Nat.zero_le _, V0.out.2.2.2.2.1, V0.out.2.2.1, V0.out.2.2.2.1, V0.out.2.2.2.2.2.1, ?_, ?_, ⟨_, V0.out.1, rfl, ?_⟩, ⟨_, V0.out.2.1, rfl, ?_, fun _ => rfl⟩, ?_⟩ <;> (intro h; simp [Array.getD] at h)
          · intro listed vs a' w' i o' hs ho hi hF cc
            have hin : i < 4 := by have := (Array.getElem?_eq_some_iff.1 ho).1; simpa using this
            have hcase : i = 0 ∨ i = 1 ∨ i = 2 ∨ i = 3 := by omega
            rcases hcase with rfl | rfl | rfl | rfl
            · simp at ho
              subst ho
              have T : ∀ j, j ≠ 0 → (listed.setIfInBounds 0 true).getD j false = true → listed.getD j false = true := fun j hj h => (done_set h).resolve_left hj
              have S : ∀ j, listed.getD j false = true → (listed.setIfInBounds 0 true).getD j false = true := fun j h => done_keep h
              have hun : ¬ listed.getD 0 false = true := fun h => undone hi hs h
              obtain ⟨c, h2, h3, h4, h5⟩ := cc.c3
              have hc := h5 (fun h => hun (cc.e3_0 h))
              subst hc
              exact wp_rowF 24 (.tmp 7) rfl (g7) ((hF.old (by kernel_rfl)).trans rfl) h2 h3 Try.underlying24 (by kernel_rfl) ⟨_, rfl, ⟨cc.bw, cc.ms, cc.R0, cc.R1, cc.R2, cc.R3, fun _ => rfl, fun h => cc.c1 (T 1 (by decide) h), by obtain ⟨c', k2, k3, k4⟩ := cc.c2; exact ⟨c', k2, k3, fun h6 => k4 (T 2 (by decide) h6)⟩, by obtain ⟨c', k2, k3, k4, k5⟩ := cc.c3; exact ⟨c', k2, k3, fun h6 => k4 (T 3 (by decide) h6), fun h6 => k5 (fun h7 => h6 (S 3 h7))⟩, fun h => S 0 (cc.e3_0 (T 3 (by decide) h))⟩⟩
            · simp at ho
              subst ho
              have T : ∀ j, j ≠ 1 → (listed.setIfInBounds 1 true).getD j false = true → listed.getD j false = true := fun j hj h => (done_set h).resolve_left hj
              have S : ∀ j, listed.getD j false = true → (listed.setIfInBounds 1 true).getD j false = true := fun j h => done_keep h
              exact wp_rowF 24 (.tmp 10) rfl (br) ((hF.old (by kernel_rfl)).trans rfl) cc.R0 rfl Try.underlying24 (by kernel_rfl) ⟨_, rfl, ⟨cc.bw, cc.ms, cc.R0, cc.R1, cc.R2, cc.R3, fun h => cc.c0 (T 0 (by decide) h), fun _ => rfl, by obtain ⟨c', k2, k3, k4⟩ := cc.c2; exact ⟨c', k2, k3, fun h6 => k4 (T 2 (by decide) h6)⟩, by obtain ⟨c', k2, k3, k4, k5⟩ := cc.c3; exact ⟨c', k2, k3, fun h6 => k4 (T 3 (by decide) h6), fun h6 => k5 (fun h7 => h6 (S 3 h7))⟩, fun h => S 0 (cc.e3_0 (T 3 (by decide) h))⟩⟩
            · simp at ho
              subst ho
              have T : ∀ j, j ≠ 2 → (listed.setIfInBounds 2 true).getD j false = true → listed.getD j false = true := fun j hj h => (done_set h).resolve_left hj
              have S : ∀ j, listed.getD j false = true → (listed.setIfInBounds 2 true).getD j false = true := fun j h => done_keep h
              have hv := ((hF.new (t := 33) (i := 0) (by kernel_rfl) (by simp) (waits_done (i := 2) (j := 0) (by kernel_rfl) hi)).trans (cc.c0 (waits_done (i := 2) (j := 0) (by kernel_rfl) hi)))
              obtain ⟨c, h2, h3, h4⟩ := cc.c2
              exact wp_rowS 24 (.tmp 4) (.tmp 33) rfl (w.heap.size + 1 + 1) (c' := #[B (l0 lf), B (l1 lf), B (l2 lf), B (l3 lf)]) ((hF.old (by kernel_rfl)).trans rfl) hv h2 h3 rfl (by simp [Value.oneCell']) (by kernel_rfl) ⟨_, rfl, ⟨below_setRow cc.bw (by omega) _, by rw [size_setRow]; exact cc.ms, cc.R0.set_other _ (by omega), cc.R1.set_other _ (by omega), cc.R2.set_other _ (by omega), cc.R3.set_other _ (by omega), fun h => cc.c0 (T 0 (by decide) h), fun h => cc.c1 (T 1 (by decide) h), ⟨_, h2.set_same _, rfl, fun _ => rfl⟩, by obtain ⟨c', k2, k3, k4, k5⟩ := cc.c3; exact ⟨c', k2.set_other _ (by omega), k3, fun h6 => k4 (T 3 (by decide) h6), fun h6 => k5 (fun h7 => h6 (S 3 h7))⟩, fun h => S 0 (cc.e3_0 (T 3 (by decide) h))⟩⟩
            · simp at ho
              subst ho
              have T : ∀ j, j ≠ 3 → (listed.setIfInBounds 3 true).getD j false = true → listed.getD j false = true := fun j hj h => (done_set h).resolve_left hj
              have S : ∀ j, listed.getD j false = true → (listed.setIfInBounds 3 true).getD j false = true := fun j h => done_keep h
              have hv := ((hF.new (t := 34) (i := 1) (by kernel_rfl) (by simp) (waits_done (i := 3) (j := 1) (by kernel_rfl) hi)).trans (cc.c1 (waits_done (i := 3) (j := 1) (by kernel_rfl) hi)))
              obtain ⟨c, h2, h3, h4, h5⟩ := cc.c3
              exact wp_rowS 24 (.tmp 7) (.tmp 34) rfl (g7) (c' := #[B (l0 r), B (l1 r), B (l2 r), B (l3 r)]) ((hF.old (by kernel_rfl)).trans rfl) hv h2 h3 rfl (by simp [Value.oneCell']) (by kernel_rfl) ⟨_, rfl, ⟨below_setRow cc.bw (by omega) _, by rw [size_setRow]; exact cc.ms, cc.R0.set_other _ (by omega), cc.R1.set_other _ (by omega), cc.R2.set_other _ (by omega), cc.R3.set_other _ (by omega), fun h => cc.c0 (T 0 (by decide) h), fun h => cc.c1 (T 1 (by decide) h), by obtain ⟨c', k2, k3, k4⟩ := cc.c2; exact ⟨c', k2.set_other _ (by omega), k3, fun h6 => k4 (T 2 (by decide) h6)⟩, ⟨_, h2.set_same _, rfl, fun _ => rfl, fun h6 => absurd (done_me hs (by simp)) h6⟩, fun _ => S 0 (waits_done (i := 3) (j := 0) (by kernel_rfl) hi)⟩⟩
          · intro listed vs a' w' hd hF cc
            have e : a' = ({ tmps := #[U a, U m, .pointer (some ⟨w.heap.size, 0, none⟩), .pointer (some ⟨w.heap.size + 1, 0, none⟩), .pointer (some ⟨w.heap.size + 1 + 1, 0, none⟩), .pointer (some ⟨w.heap.size + 1 + 1 + 1, 0, none⟩), .bool un, .pointer (some ⟨g7, 0, none⟩), .pointer (some ⟨g8, 0, none⟩), .pointer (some ⟨bq, 0, none⟩), .pointer (some ⟨br, 0, none⟩), .pointer (some ⟨g11, 0, none⟩), p12, .agg #[B (l0 m), B (l1 m), B (l2 m), B (l3 m)], p14, p15, .agg #[B (l0 lf), B (l1 lf), B (l2 lf), B (l3 lf)], .agg #[.int .u64 0, .int .u64 0, .int .u64 0, .int .u64 0], .bool true, .tuple #[U q, U r], .agg #[B (l0 dv), B (l1 dv), B (l2 dv), B (l3 dv)], .agg #[B (l0 lf), B (l1 lf), B (l2 lf), B (l3 lf)], .tuple #[U q, U r], U q, U r, p25, p26, p27, p28, p29, p30, p31, p32, vs 0, vs 1, u35, u36, u37, u38, undef, undef, undef], defers := [] } : Act) := (hF.all hd).trans (by kernel_rfl)
            subst e
            obtain ⟨c, h2, h3, h4⟩ := cc.c2
            obtain ⟨c', k2, k3, k4, k5⟩ := cc.c3
            have V1 : Hid (HasRow w' (w.heap.size + 1 + 1) #[B (l0 lf), B (l1 lf), B (l2 lf), B (l3 lf)] ∧ HasRow w' g7 #[B (l0 r), B (l1 r), B (l2 r), B (l3 r)] ∧ HasRow w' (w.heap.size + 1 + 1 + 1) #[B (l0 ts), B (l1 ts), B (l2 ts), B (l3 ts)] ∧ HasRow w' g8 #[B (l0 nx), B (l1 nx), B (l2 nx), B (l3 nx)] ∧ HasRow w' g11 #[B (l0 sm), B (l1 sm), B (l2 sm), B (l3 sm)] ∧ Below w.heap.size w w') := ⟨h4 (hd 2 (by simp)) ▸ h2, k4 (hd 3 (by simp)) ▸ k2, cc.R1, cc.R2, cc.R3, cc.bw⟩
            generalize vs 0 = p33
            generalize vs 1 = p34
            clear cc hd hF h2 h3 h4 k2 k3 k4 k5
            go_wp2
            generalize w' = w6 at *
            refine wp_region_vals2 (by kernel_rfl) (by kernel_rfl) (by kernel_rfl) (CE7 w 0 lf nx r sm g7 g8 g11) ?_ ?_ ?_
            · refine ⟨V1.out.2.2.2.2.2.drew, Nat.zero_le _, V1.out.2.2.2.2.1, V1.out.1, V1.out.2.1, ?_, ?_, ⟨_, V1.out.2.2.1, rfl, ?_⟩, ⟨_, V1.out.2.2.2.1, rfl, ?_, fun _ => rfl⟩, ?_⟩ <;> (intro h; simp [Array.getD] at h)
            · intro listed vs a' w' i o' hs ho hi hF cc
              have hin : i < 4 := by have := (Array.getElem?_eq_some_iff.1 ho).1; simpa using this
              have hcase : i = 0 ∨ i = 1 ∨ i = 2 ∨ i = 3 := by omega
              rcases hcase with rfl | rfl | rfl | rfl
              · simp at ho
                subst ho
                have T : ∀ j, j ≠ 0 → (listed.setIfInBounds 0 true).getD j false = true → listed.getD j false = true := fun j hj h => (done_set h).resolve_left hj
                have S : ∀ j, listed.getD j false = true → (listed.setIfInBounds 0 true).getD j false = true := fun j h => done_keep h
                have hun : ¬ listed.getD 0 false = true := fun h => undone hi hs h
                obtain ⟨c, h2, h3, h4, h5⟩ := cc.c3
                have hc := h5 (fun h => hun (cc.e3_0 h))
                subst hc
                exact wp_rowF 24 (.tmp 8) rfl (g8) ((hF.old (by kernel_rfl)).trans rfl) h2 h3 Try.underlying24 (by kernel_rfl) ⟨_, rfl, ⟨cc.bw, cc.ms, cc.R0, cc.R1, cc.R2, fun _ => rfl, fun h => cc.c1 (T 1 (by decide) h), by obtain ⟨c', k2, k3, k4⟩ := cc.c2; exact ⟨c', k2, k3, fun h6 => k4 (T 2 (by decide) h6)⟩, by obtain ⟨c', k2, k3, k4, k5⟩ := cc.c3; exact ⟨c', k2, k3, fun h6 => k4 (T 3 (by decide) h6), fun h6 => k5 (fun h7 => h6 (S 3 h7))⟩, fun h => S 0 (cc.e3_0 (T 3 (by decide) h))⟩⟩
              · simp at ho
                subst ho
                have T : ∀ j, j ≠ 1 → (listed.setIfInBounds 1 true).getD j false = true → listed.getD j false = true := fun j hj h => (done_set h).resolve_left hj
                have S : ∀ j, listed.getD j false = true → (listed.setIfInBounds 1 true).getD j false = true := fun j h => done_keep h
                exact wp_rowF 24 (.tmp 11) rfl (g11) ((hF.old (by kernel_rfl)).trans rfl) cc.R0 rfl Try.underlying24 (by kernel_rfl) ⟨_, rfl, ⟨cc.bw, cc.ms, cc.R0, cc.R1, cc.R2, fun h => cc.c0 (T 0 (by decide) h), fun _ => rfl, by obtain ⟨c', k2, k3, k4⟩ := cc.c2; exact ⟨c', k2, k3, fun h6 => k4 (T 2 (by decide) h6)⟩, by obtain ⟨c', k2, k3, k4, k5⟩ := cc.c3; exact ⟨c', k2, k3, fun h6 => k4 (T 3 (by decide) h6), fun h6 => k5 (fun h7 => h6 (S 3 h7))⟩, fun h => S 0 (cc.e3_0 (T 3 (by decide) h))⟩⟩
              · simp at ho
                subst ho
                have T : ∀ j, j ≠ 2 → (listed.setIfInBounds 2 true).getD j false = true → listed.getD j false = true := fun j hj h => (done_set h).resolve_left hj
                have S : ∀ j, listed.getD j false = true → (listed.setIfInBounds 2 true).getD j false = true := fun j h => done_keep h
                have hv := ((hF.new (t := 35) (i := 0) (by kernel_rfl) (by simp) (waits_done (i := 2) (j := 0) (by kernel_rfl) hi)).trans (cc.c0 (waits_done (i := 2) (j := 0) (by kernel_rfl) hi)))
                obtain ⟨c, h2, h3, h4⟩ := cc.c2
                exact wp_rowS 24 (.tmp 5) (.tmp 35) rfl (w.heap.size + 1 + 1 + 1) (c' := #[B (l0 nx), B (l1 nx), B (l2 nx), B (l3 nx)]) ((hF.old (by kernel_rfl)).trans rfl) hv h2 h3 rfl (by simp [Value.oneCell']) (by kernel_rfl) ⟨_, rfl, ⟨below_setRow cc.bw (by omega) _, by rw [size_setRow]; exact cc.ms, cc.R0.set_other _ (by omega), cc.R1.set_other _ (by omega), cc.R2.set_other _ (by omega), fun h => cc.c0 (T 0 (by decide) h), fun h => cc.c1 (T 1 (by decide) h), ⟨_, h2.set_same _, rfl, fun _ => rfl⟩, by obtain ⟨c', k2, k3, k4, k5⟩ := cc.c3; exact ⟨c', k2.set_other _ (by omega), k3, fun h6 => k4 (T 3 (by decide) h6), fun h6 => k5 (fun h7 => h6 (S 3 h7))⟩, fun h => S 0 (cc.e3_0 (T 3 (by decide) h))⟩⟩
              · simp at ho
                subst ho
                have T : ∀ j, j ≠ 3 → (listed.setIfInBounds 3 true).getD j false = true → listed.getD j false = true := fun j hj h => (done_set h).resolve_left hj
                have S : ∀ j, listed.getD j false = true → (listed.setIfInBounds 3 true).getD j false = true := fun j h => done_keep h
                have hv := ((hF.new (t := 36) (i := 1) (by kernel_rfl) (by simp) (waits_done (i := 3) (j := 1) (by kernel_rfl) hi)).trans (cc.c1 (waits_done (i := 3) (j := 1) (by kernel_rfl) hi)))
                obtain ⟨c, h2, h3, h4, h5⟩ := cc.c3
                exact wp_rowS 24 (.tmp 8) (.tmp 36) rfl (g8) (c' := #[B (l0 sm), B (l1 sm), B (l2 sm), B (l3 sm)]) ((hF.old (by kernel_rfl)).trans rfl) hv h2 h3 rfl (by simp [Value.oneCell']) (by kernel_rfl) ⟨_, rfl, ⟨below_setRow cc.bw (by omega) _, by rw [size_setRow]; exact cc.ms, cc.R0.set_other _ (by omega), cc.R1.set_other _ (by omega), cc.R2.set_other _ (by omega), fun h => cc.c0 (T 0 (by decide) h), fun h => cc.c1 (T 1 (by decide) h), by obtain ⟨c', k2, k3, k4⟩ := cc.c2; exact ⟨c', k2.set_other _ (by omega), k3, fun h6 => k4 (T 2 (by decide) h6)⟩, ⟨_, h2.set_same _, rfl, fun _ => rfl, fun h6 => absurd (done_me hs (by simp)) h6⟩, fun _ => S 0 (waits_done (i := 3) (j := 0) (by kernel_rfl) hi)⟩⟩
            · intro listed vs a' w' hd hF cc
              have e : a' = ({ tmps := #[U a, U m, .pointer (some ⟨w.heap.size, 0, none⟩), .pointer (some ⟨w.heap.size + 1, 0, none⟩), .pointer (some ⟨w.heap.size + 1 + 1, 0, none⟩), .pointer (some ⟨w.heap.size + 1 + 1 + 1, 0, none⟩), .bool un, .pointer (some ⟨g7, 0, none⟩), .pointer (some ⟨g8, 0, none⟩), .pointer (some ⟨bq, 0, none⟩), .pointer (some ⟨br, 0, none⟩), .pointer (some ⟨g11, 0, none⟩), p12, .agg #[B (l0 m), B (l1 m), B (l2 m), B (l3 m)], p14, p15, .agg #[B (l0 lf), B (l1 lf), B (l2 lf), B (l3 lf)], .agg #[.int .u64 0, .int .u64 0, .int .u64 0, .int .u64 0], .bool true, .tuple #[U q, U r], .agg #[B (l0 dv), B (l1 dv), B (l2 dv), B (l3 dv)], .agg #[B (l0 lf), B (l1 lf), B (l2 lf), B (l3 lf)], .tuple #[U q, U r], U q, U r, p25, p26, p27, p28, p29, p30, p31, p32, p33, p34, vs 0, vs 1, u37, u38, undef, undef, undef], defers := [] } : Act) := (hF.all hd).trans (by kernel_rfl)
              subst e
              obtain ⟨c, h2, h3, h4⟩ := cc.c2
              obtain ⟨c', k2, k3, k4, k5⟩ := cc.c3
              have V2 : Hid (EU w w' g7 g8 lf r nx sm) := ⟨cc.R1, h4 (hd 2 (by simp)) ▸ h2, cc.R2, k4 (hd 3 (by simp)) ▸ k2, cc.bw, o1, o2, o3⟩
              generalize vs 0 = p35
              generalize vs 1 = p36
              clear cc hd hF h2 h3 h4 k2 k3 k4 k5
              go_wp2
              go_roundw
              case rel => exact ⟨lf, r, nx, sm, !un, rfl, V2.out, KN.out.2.1, KN.out.1⟩
              case measure =>
                show rowN _ _ < rowN _ _
                rw [rowN_of KN.out.2.1.2 V2.out.rl, hrow]
                exact KN.out.2.2
end Go.Proofs.Ytillbhdcnhcbhaa

/- Inverses: the program's. -/
namespace Go.Proofs.Ytillbhdcnhcbhaa
open Go.RowKit Go.Sort
set_option linter.unusedVariables false
attribute [local go_sem] run_eq4 run_eqU_same

set_option maxRecDepth 100000 in
set_option maxHeartbeats 4000000 in
theorem inv_low (a m : Nat) (c1 : Hid (∀ w, Calls Try.prog 34 #[U m] w fun e w' => e = .returned (.bool true) ∧ Below w.heap.size w w')) (hm : m ≤ 1) (w : World) :
    Calls Try.prog 14 #[U a, U m] w fun e w' => (∃ x ok, IV a m x ok ∧ x < W ∧ e = .returned (.tuple #[U x, .bool ok])) ∧ Below w.heap.size w w' := by
  have HI : Hid (IV a m 0 false) := IV.low hm
  clear hm
  go_enter Try.func14, Try.ntmps14
  go_wp2_with fail
  refine (c1.out _).mono ?_
  rintro e w1 ⟨rfl, hb1⟩
  have R1 : Hid (HasRow w1 (w.heap.size + 1 + 1) #[.int .u64 0, .int .u64 0, .int .u64 0, .int .u64 0]) := (HasRow.last (by simp)).below hb1
  have B1 : Hid (Below w.heap.size w w1) := bel_call (by (repeat (first | exact Below.refl _ _ | refine bel_alloc ?_ _))) hb1
  clear hb1
  have g0 : w1.cell? ⟨w.heap.size + 1 + 1, 0, none⟩ = some (.int .u64 0) := R1.out.cell 0
  have g1 : w1.cell? ⟨w.heap.size + 1 + 1, 1, none⟩ = some (.int .u64 0) := R1.out.cell 1
  have g2 : w1.cell? ⟨w.heap.size + 1 + 1, 2, none⟩ = some (.int .u64 0) := R1.out.cell 2
  have g3 : w1.cell? ⟨w.heap.size + 1 + 1, 3, none⟩ = some (.int .u64 0) := R1.out.cell 3
  have gz0 := R1.out.frozen 0
  have gz1 := R1.out.frozen 1
  have gz2 := R1.out.frozen 2
  have gz3 := R1.out.frozen 3
  have gq := R1.out.lt
  go_wp2
  rw [set4 R1.out rfl]
  exact bodyPost_ret (v := .tuple #[I4 0 0 0 0, .bool false]) (results_c1t (p := 4) (r := 5) (ty := 24) rfl (g := w.heap.size + 1 + 1) rfl rfl (HasRow.set_same R1.out _) rfl Try.underlying24 (by kernel_rfl)) rfl ⟨⟨0, false, HI.out, W_pos, by rw [U_zero]⟩, below_setRow B1.out (by omega) _⟩

set_option maxRecDepth 100000 in
set_option maxHeartbeats 4000000 in
theorem inv_main (a m : Nat) (h1 : 1 < m) (hmW : m < W) (c1 : Hid (∀ w, Calls Try.prog 34 #[U m] w fun e w' => e = .returned (.bool false) ∧ Below w.heap.size w w'))
    (ce : Hid (∀ w, Calls Try.prog 35 #[U a, U m] w fun e w' => (∃ dv ts nx un, EI a m dv 0 ts nx un ∧ dv < W ∧ e = .returned (.tuple #[U dv, U ts, .bool un])) ∧ Below w.heap.size w w'))
    (co : Hid (∀ w, Calls Try.prog 36 #[.int .u64 1] w fun e w' => e = .returned (I4 1 0 0 0) ∧ Below w.heap.size w w'))
    (cq : Hid (∀ x, x < W → ∀ w, (Op.equalIn 10000 24 (U x) (I4 1 0 0 0)).run Try.prog w = .ok (decide (x = 1)) w))
    (cs : Hid (∀ x, x ≤ m → ∀ w, Calls Try.prog 37 #[U m, U x] w fun e w' => e = .returned (.tuple #[U (m - x), .bool false]) ∧ Below w.heap.size w w')) (w : World) :
    Calls Try.prog 14 #[U a, U m] w fun e w' => (∃ x ok, IV a m x ok ∧ x < W ∧ e = .returned (.tuple #[U x, .bool ok])) ∧ Below w.heap.size w w' := by
  have HM : Hid (1 < m ∧ m < W) := ⟨h1, hmW⟩
  clear h1 hmW
  go_enter Try.func14, Try.ntmps14
  go_wp2_with fail
  refine (c1.out _).mono ?_
  rintro e w1 ⟨rfl, hb1⟩
  have Ra : Hid (HasRow w1 (w.heap.size) #[B (l0 a), B (l1 a), B (l2 a), B (l3 a)]) := (HasRow.old (HasRow.old (HasRow.last (by simp)))).below hb1
  have Rm : Hid (HasRow w1 (w.heap.size + 1) #[B (l0 m), B (l1 m), B (l2 m), B (l3 m)]) := (HasRow.old (HasRow.last (by simp))).below hb1
  have Rr : Hid (HasRow w1 (w.heap.size + 1 + 1) #[.int .u64 0, .int .u64 0, .int .u64 0, .int .u64 0]) := (HasRow.last (by simp)).below hb1
  have B1 : Hid (Below w.heap.size w w1) := bel_call (by (repeat (first | exact Below.refl _ _ | refine bel_alloc ?_ _))) hb1
  have a0 : w1.cell? ⟨w.heap.size, 0, none⟩ = some (B (l0 a)) := Ra.out.cell 0
  have a1 : w1.cell? ⟨w.heap.size, 1, none⟩ = some (B (l1 a)) := Ra.out.cell 1
  have a2 : w1.cell? ⟨w.heap.size, 2, none⟩ = some (B (l2 a)) := Ra.out.cell 2
  have a3 : w1.cell? ⟨w.heap.size, 3, none⟩ = some (B (l3 a)) := Ra.out.cell 3
  have m0 : w1.cell? ⟨w.heap.size + 1, 0, none⟩ = some (B (l0 m)) := Rm.out.cell 0
  have m1 : w1.cell? ⟨w.heap.size + 1, 1, none⟩ = some (B (l1 m)) := Rm.out.cell 1
  have m2 : w1.cell? ⟨w.heap.size + 1, 2, none⟩ = some (B (l2 m)) := Rm.out.cell 2
  have m3 : w1.cell? ⟨w.heap.size + 1, 3, none⟩ = some (B (l3 m)) := Rm.out.cell 3
  clear hb1
  go_wp2_with fail
  refine (ce.out _).mono ?_
  rintro e w2 ⟨⟨dv, ts, nx, un, hE, hdW, rfl⟩, hb2⟩
  have KE : Hid _ := hE
  have Rm2 : Hid (HasRow w2 (w.heap.size + 1) #[B (l0 m), B (l1 m), B (l2 m), B (l3 m)]) := Rm.out.below hb2
  have Rr2 : Hid (HasRow w2 (w.heap.size + 1 + 1) #[.int .u64 0, .int .u64 0, .int .u64 0, .int .u64 0]) := Rr.out.below hb2
  have B2 : Hid (Below w.heap.size w w2) := bel_call B1.out hb2
  have hq2 : w.heap.size + 1 + 1 < w2.heap.size := Rr2.out.lt
  have he := cq.out dv hdW
  clear hb2 Ra Rm Rr B1 hE a0 a1 a2 a3 m0 m1 m2 m3
  by_cases hd1 : dv = 1
  · rw [decide_eq_true hd1] at he
    have HD1 : Hid (dv = 1) := hd1
    clear hd1
    go_upto_region 4 with fail
    refine name_world _ ?_
    intro wF hF
    have Fm : Hid (HasRow wF (w.heap.size + 1) #[B (l0 m), B (l1 m), B (l2 m), B (l3 m)]) := by rw [hF]; exact (HasRow.old (HasRow.old Rm2.out))
    have Fr : Hid (HasRow wF (w.heap.size + 1 + 1) #[.int .u64 0, .int .u64 0, .int .u64 0, .int .u64 0]) := by rw [hF]; exact (HasRow.old (HasRow.old Rr2.out))
    have Ft : Hid (HasRow wF (w2.heap.size + 1) #[B (l0 ts), B (l1 ts), B (l2 ts), B (l3 ts)]) := by rw [hF]; exact HasRow.last (by simp)
    have Fd : HasRow wF w2.heap.size #[B (l0 dv), B (l1 dv), B (l2 dv), B (l3 dv)] := by rw [hF]; exact (HasRow.old (HasRow.last rfl))
    have FB : Hid (Below w.heap.size w wF) := by rw [hF]; exact bel_alloc (bel_alloc B2.out _) _
    have d0 : wF.cell? ⟨w2.heap.size, 0, none⟩ = some (B (l0 dv)) := Fd.cell 0
    have d1 : wF.cell? ⟨w2.heap.size, 1, none⟩ = some (B (l1 dv)) := Fd.cell 1
    have d2 : wF.cell? ⟨w2.heap.size, 2, none⟩ = some (B (l2 dv)) := Fd.cell 2
    have d3 : wF.cell? ⟨w2.heap.size, 3, none⟩ = some (B (l3 dv)) := Fd.cell 3
    clear hF Fd
    replace d0 := cell_regrown d0
    replace d1 := cell_regrown d1
    replace d2 := cell_regrown d2
    replace d3 := cell_regrown d3
    refine wp_region_quiet_below (by kernel_rfl) (by kernel_rfl) ?_
    repeat (go_big_quiet_step (fail))
    go_big_quiet_step ((exact Calls.regrown_of (co.out _)))
    repeat (go_big_quiet_step (fail))
    refine wpQuiet_nil ?_
    intro _ hw'
    obtain ⟨⟨dq', osq⟩, hw''⟩ := hw'
    subst hw''
    have hbq := below_regrown wF dq' osq
    have Gm : Hid (HasRow (grow (redrawn wF dq') osq) (w.heap.size + 1) #[B (l0 m), B (l1 m), B (l2 m), B (l3 m)]) := Fm.out.below hbq
    have Gr : Hid (HasRow (grow (redrawn wF dq') osq) (w.heap.size + 1 + 1) #[.int .u64 0, .int .u64 0, .int .u64 0, .int .u64 0]) := Fr.out.below hbq
    have Gt : Hid (HasRow (grow (redrawn wF dq') osq) (w2.heap.size + 1) #[B (l0 ts), B (l1 ts), B (l2 ts), B (l3 ts)]) := Ft.out.below hbq
    have GB : Hid (Below w.heap.size w (grow (redrawn wF dq') osq)) := bel_call FB.out hbq
    clear hbq Fm Fr Ft FB d0 d1 d2 d3 Rm2 Rr2 B2 he
    generalize grow (redrawn wF dq') osq = wG at *
    have hts : ts ≤ m := KE.out.t
    have HI : IV a m (if un = true then m - ts else ts) true := EI.inv HM.out.1 (by have := KE.out; rwa [HD1.out] at this)
    have htW : ts < W := Nat.lt_of_le_of_lt hts HM.out.2
    cases un
    · have KI : Hid (IV a m ts true) := HI
      clear HI
      have t0 : wG.cell? ⟨w2.heap.size + 1, 0, none⟩ = some (B (l0 ts)) := Gt.out.cell 0
      have t1 : wG.cell? ⟨w2.heap.size + 1, 1, none⟩ = some (B (l1 ts)) := Gt.out.cell 1
      have t2 : wG.cell? ⟨w2.heap.size + 1, 2, none⟩ = some (B (l2 ts)) := Gt.out.cell 2
      have t3 : wG.cell? ⟨w2.heap.size + 1, 3, none⟩ = some (B (l3 ts)) := Gt.out.cell 3
      have tq := Gt.out.lt
      have g0 : wG.cell? ⟨w.heap.size + 1 + 1, 0, none⟩ = some (.int .u64 0) := Gr.out.cell 0
      have g1 : wG.cell? ⟨w.heap.size + 1 + 1, 1, none⟩ = some (.int .u64 0) := Gr.out.cell 1
      have g2 : wG.cell? ⟨w.heap.size + 1 + 1, 2, none⟩ = some (.int .u64 0) := Gr.out.cell 2
      have g3 : wG.cell? ⟨w.heap.size + 1 + 1, 3, none⟩ = some (.int .u64 0) := Gr.out.cell 3
      have gz0 := Gr.out.frozen 0
      have gz1 := Gr.out.frozen 1
      have gz2 := Gr.out.frozen 2
      have gz3 := Gr.out.frozen 3
      have gq := Gr.out.lt
      go_wp2
      rw [set4 Gr.out rfl]
      exact bodyPost_ret (v := .tuple #[U ts, .bool true]) (results_c1t (p := 4) (r := 5) (ty := 24) rfl (g := w.heap.size + 1 + 1) rfl rfl (HasRow.set_same Gr.out _) rfl Try.underlying24 (by kernel_rfl)) rfl ⟨⟨ts, true, KI.out, htW, rfl⟩, below_setRow GB.out (by omega) _⟩
    · have KI : Hid (IV a m (m - ts) true) := HI
      have hxW : m - ts < W := Nat.lt_of_le_of_lt (Nat.sub_le _ _) HM.out.2
      have cs' : Hid (∀ w, Calls Try.prog 37 #[U m, U ts] w fun e w' => e = .returned (.tuple #[U (m - ts), .bool false]) ∧ Below w.heap.size w w') := cs.out ts hts
      obtain ⟨x, hx⟩ : ∃ x, x = m - ts := ⟨_, rfl⟩
      rw [← hx] at cs' KI hxW
      clear HI hx
      have t0 : wG.cell? ⟨w2.heap.size + 1, 0, none⟩ = some (B (l0 ts)) := Gt.out.cell 0
      have t1 : wG.cell? ⟨w2.heap.size + 1, 1, none⟩ = some (B (l1 ts)) := Gt.out.cell 1
      have t2 : wG.cell? ⟨w2.heap.size + 1, 2, none⟩ = some (B (l2 ts)) := Gt.out.cell 2
      have t3 : wG.cell? ⟨w2.heap.size + 1, 3, none⟩ = some (B (l3 ts)) := Gt.out.cell 3
      have m0 : wG.cell? ⟨w.heap.size + 1, 0, none⟩ = some (B (l0 m)) := Gm.out.cell 0
      have m1 : wG.cell? ⟨w.heap.size + 1, 1, none⟩ = some (B (l1 m)) := Gm.out.cell 1
      have m2 : wG.cell? ⟨w.heap.size + 1, 2, none⟩ = some (B (l2 m)) := Gm.out.cell 2
      have m3 : wG.cell? ⟨w.heap.size + 1, 3, none⟩ = some (B (l3 m)) := Gm.out.cell 3
      go_wp2_with fail
      refine (cs'.out _).mono ?_
      rintro e w5 ⟨rfl, hb5⟩
      have Hr : Hid (HasRow w5 (w.heap.size + 1 + 1) #[.int .u64 0, .int .u64 0, .int .u64 0, .int .u64 0]) := Gr.out.below hb5
      have Ht : Hid (HasRow w5 (w2.heap.size + 1) #[B (l0 ts), B (l1 ts), B (l2 ts), B (l3 ts)]) := Gt.out.below hb5
      have HB : Hid (Below w.heap.size w w5) := bel_call GB.out hb5
      clear hb5 Gr Gt Gm GB t0 t1 t2 t3 m0 m1 m2 m3
      have g0 : w5.cell? ⟨w2.heap.size + 1, 0, none⟩ = some (B (l0 ts)) := Ht.out.cell 0
      have g1 : w5.cell? ⟨w2.heap.size + 1, 1, none⟩ = some (B (l1 ts)) := Ht.out.cell 1
      have g2 : w5.cell? ⟨w2.heap.size + 1, 2, none⟩ = some (B (l2 ts)) := Ht.out.cell 2
      have g3 : w5.cell? ⟨w2.heap.size + 1, 3, none⟩ = some (B (l3 ts)) := Ht.out.cell 3
      have gz0 := Ht.out.frozen 0
      have gz1 := Ht.out.frozen 1
      have gz2 := Ht.out.frozen 2
      have gz3 := Ht.out.frozen 3
      have gq := Ht.out.lt
      go_upto_region 8 with fail
      rw [set4 Ht.out rfl]
      have It : Hid (HasRow (w5.setRow (w2.heap.size + 1) #[B (l0 x), B (l1 x), B (l2 x), B (l3 x)]) (w2.heap.size + 1) #[B (l0 x), B (l1 x), B (l2 x), B (l3 x)]) := Ht.out.set_same _
      have Ir : Hid (HasRow (w5.setRow (w2.heap.size + 1) #[B (l0 x), B (l1 x), B (l2 x), B (l3 x)]) (w.heap.size + 1 + 1) #[.int .u64 0, .int .u64 0, .int .u64 0, .int .u64 0]) := Hr.out.set_other _ (by omega)
      have IB : Hid (Below w.heap.size w (w5.setRow (w2.heap.size + 1) #[B (l0 x), B (l1 x), B (l2 x), B (l3 x)])) := below_setRow HB.out (by omega) _
      clear Hr Ht HB g0 g1 g2 g3 gz0 gz1 gz2 gz3 gq
      generalize w5.setRow (w2.heap.size + 1) #[B (l0 x), B (l1 x), B (l2 x), B (l3 x)] = w6 at *
      have t0 : w6.cell? ⟨w2.heap.size + 1, 0, none⟩ = some (B (l0 x)) := It.out.cell 0
      have t1 : w6.cell? ⟨w2.heap.size + 1, 1, none⟩ = some (B (l1 x)) := It.out.cell 1
      have t2 : w6.cell? ⟨w2.heap.size + 1, 2, none⟩ = some (B (l2 x)) := It.out.cell 2
      have t3 : w6.cell? ⟨w2.heap.size + 1, 3, none⟩ = some (B (l3 x)) := It.out.cell 3
      have tq := It.out.lt
      have g0 : w6.cell? ⟨w.heap.size + 1 + 1, 0, none⟩ = some (.int .u64 0) := Ir.out.cell 0
      have g1 : w6.cell? ⟨w.heap.size + 1 + 1, 1, none⟩ = some (.int .u64 0) := Ir.out.cell 1
      have g2 : w6.cell? ⟨w.heap.size + 1 + 1, 2, none⟩ = some (.int .u64 0) := Ir.out.cell 2
      have g3 : w6.cell? ⟨w.heap.size + 1 + 1, 3, none⟩ = some (.int .u64 0) := Ir.out.cell 3
      have gz0 := Ir.out.frozen 0
      have gz1 := Ir.out.frozen 1
      have gz2 := Ir.out.frozen 2
      have gz3 := Ir.out.frozen 3
      have gq := Ir.out.lt
      go_wp2
      rw [set4 Ir.out rfl]
      exact bodyPost_ret (v := .tuple #[U x, .bool true]) (results_c1t (p := 4) (r := 5) (ty := 24) rfl (g := w.heap.size + 1 + 1) rfl rfl (HasRow.set_same Ir.out _) rfl Try.underlying24 (by kernel_rfl)) rfl ⟨⟨x, true, KI.out, hxW, rfl⟩, below_setRow IB.out (by omega) _⟩
  · rw [decide_eq_false hd1] at he
    go_upto_region 4 with fail
    refine name_world _ ?_
    intro wF hF
    have Fm : Hid (HasRow wF (w.heap.size + 1) #[B (l0 m), B (l1 m), B (l2 m), B (l3 m)]) := by rw [hF]; exact (HasRow.old (HasRow.old Rm2.out))
    have Fr : Hid (HasRow wF (w.heap.size + 1 + 1) #[.int .u64 0, .int .u64 0, .int .u64 0, .int .u64 0]) := by rw [hF]; exact (HasRow.old (HasRow.old Rr2.out))
    have Ft : Hid (HasRow wF (w2.heap.size + 1) #[B (l0 ts), B (l1 ts), B (l2 ts), B (l3 ts)]) := by rw [hF]; exact HasRow.last (by simp)
    have Fd : HasRow wF w2.heap.size #[B (l0 dv), B (l1 dv), B (l2 dv), B (l3 dv)] := by rw [hF]; exact (HasRow.old (HasRow.last rfl))
    have FB : Hid (Below w.heap.size w wF) := by rw [hF]; exact bel_alloc (bel_alloc B2.out _) _
    have d0 : wF.cell? ⟨w2.heap.size, 0, none⟩ = some (B (l0 dv)) := Fd.cell 0
    have d1 : wF.cell? ⟨w2.heap.size, 1, none⟩ = some (B (l1 dv)) := Fd.cell 1
    have d2 : wF.cell? ⟨w2.heap.size, 2, none⟩ = some (B (l2 dv)) := Fd.cell 2
    have d3 : wF.cell? ⟨w2.heap.size, 3, none⟩ = some (B (l3 dv)) := Fd.cell 3
    clear hF Fd
    replace d0 := cell_regrown d0
    replace d1 := cell_regrown d1
    replace d2 := cell_regrown d2
    replace d3 := cell_regrown d3
    refine wp_region_quiet_below (by kernel_rfl) (by kernel_rfl) ?_
    repeat (go_big_quiet_step (fail))
    go_big_quiet_step ((exact Calls.regrown_of (co.out _)))
    repeat (go_big_quiet_step (fail))
    refine wpQuiet_nil ?_
    intro _ hw'
    obtain ⟨⟨dq', osq⟩, hw''⟩ := hw'
    subst hw''
    have hbq := below_regrown wF dq' osq
    have Gm : Hid (HasRow (grow (redrawn wF dq') osq) (w.heap.size + 1) #[B (l0 m), B (l1 m), B (l2 m), B (l3 m)]) := Fm.out.below hbq
    have Gr : Hid (HasRow (grow (redrawn wF dq') osq) (w.heap.size + 1 + 1) #[.int .u64 0, .int .u64 0, .int .u64 0, .int .u64 0]) := Fr.out.below hbq
    have Gt : Hid (HasRow (grow (redrawn wF dq') osq) (w2.heap.size + 1) #[B (l0 ts), B (l1 ts), B (l2 ts), B (l3 ts)]) := Ft.out.below hbq
    have GB : Hid (Below w.heap.size w (grow (redrawn wF dq') osq)) := bel_call FB.out hbq
    clear hbq Fm Fr Ft FB d0 d1 d2 d3 Rm2 Rr2 B2 he
    generalize grow (redrawn wF dq') osq = wG at *
    have KI : Hid (IV a m 0 false) := IV.none (by rw [← KE.out.stop]; exact hd1)
    have g0 : wG.cell? ⟨w.heap.size + 1 + 1, 0, none⟩ = some (.int .u64 0) := Gr.out.cell 0
    have g1 : wG.cell? ⟨w.heap.size + 1 + 1, 1, none⟩ = some (.int .u64 0) := Gr.out.cell 1
    have g2 : wG.cell? ⟨w.heap.size + 1 + 1, 2, none⟩ = some (.int .u64 0) := Gr.out.cell 2
    have g3 : wG.cell? ⟨w.heap.size + 1 + 1, 3, none⟩ = some (.int .u64 0) := Gr.out.cell 3
    have gz0 := Gr.out.frozen 0
    have gz1 := Gr.out.frozen 1
    have gz2 := Gr.out.frozen 2
    have gz3 := Gr.out.frozen 3
    have gq := Gr.out.lt
    go_wp2
    rw [set4 Gr.out rfl]
    exact bodyPost_ret (v := .tuple #[I4 0 0 0 0, .bool false]) (results_c1t (p := 4) (r := 5) (ty := 24) rfl (g := w.heap.size + 1 + 1) rfl rfl (HasRow.set_same Gr.out _) rfl Try.underlying24 (by kernel_rfl)) rfl ⟨⟨0, false, KI.out, W_pos, by rw [U_zero]⟩, below_setRow GB.out (by omega) _⟩

theorem eqU_lit (x y : Nat) (hx : x < W) (hy : y < W) (v : Value) (hv : U y = v) (w : World) : (Op.equalIn 10000 24 (U x) v).run Try.prog w = .ok (decide (x = y)) w := by
  rw [← hv]; exact run_eqU x y hx hy w
theorem inv_any (a m : Nat) (ha : a < W) (hm : m < W) (w : World) : Calls Try.prog 14 #[U a, U m] w fun e w' => (∃ x ok, IV a m x ok ∧ x < W ∧ e = .returned (.tuple #[U x, .bool ok])) ∧ Below w.heap.size w w' := by
  have ht := trivial_any m hm
  rcases Nat.lt_or_ge 1 m with h1 | h1
  · refine inv_main a m h1 hm (fun w => ?_) (fun w => ?_) (fun w => ?_) (fun x hx w => eqU_lit x 1 hx (by decide +kernel) _ U_1 w) (fun x hx w => ?_) w
    · have h := ht w
      rw [decide_eq_false (by omega)] at h
      exact h
    · refine euclid_raw a m ha hm (by omega) (fun w => ?_) (fun x y hx hy h0 w => ?_) (fun x y hx hy hxy w => ?_) (fun x y hx hy hxy w => ?_) (fun x hx w => eqU_lit x 0 hx W_pos _ U_zero w) w
      · have h := of_any 1 (by decide) w
        rw [U_1] at h
        exact h
      · have h := div_any x y hx hy w
        have e : dr 0 x y = x % y := by unfold dr; rw [if_neg (by omega), Nat.zero_mul, Nat.zero_add]
        rw [e] at h
        exact h
      · have h := mul_any x y hx hy w
        rw [Nat.mod_eq_of_lt hxy] at h
        exact h
      · have h := add_any x y hx hy w
        have e1 : addW x y = x + y := Nat.mod_eq_of_lt hxy
        have e2 : ovW x y = false := decide_eq_false (by omega)
        rw [e1, e2] at h
        exact h
    · have h := of_any 1 (by decide) w
      rw [U_1] at h
      exact h
    · have h := sub_any m x hm (Nat.lt_of_le_of_lt hx hm) w
      have e1 : subW m x = m - x := by
        unfold subW
        rw [show m + W - x = (m - x) + W by omega, Nat.add_mod_right, Nat.mod_eq_of_lt (by omega)]
      have e2 : unW m x = false := decide_eq_false (by omega)
      rw [e1, e2] at h
      exact h
  · refine inv_low a m (fun w => ?_) h1 w
    have h := ht w
    rw [decide_eq_true h1] at h
    exact h
end Go.Proofs.Ytillbhdcnhcbhaa

/- The examples of chapter 3 hold. -/
namespace Go.Proofs.Ytillbhdcnhcbhaa
open Go.RowKit Go.Sort
set_option linter.unusedVariables false
attribute [local go_sem] run_eq4 run_eqU_same

set_option maxRecDepth 100000 in
set_option maxHeartbeats 4000000 in
theorem awake3_gen 
    (h1 : Hid (∀ w, Calls Try.prog 14 #[I4 3 0 0 0, I4 7 0 0 0] w fun e w' => e = .returned (.tuple #[I4 5 0 0 0, .bool true]) ∧ Below w.heap.size w w'))
    (h2 : Hid (∀ w, Calls Try.prog 14 #[I4 2 0 0 0, I4 4 0 0 0] w fun e w' => e = .returned (.tuple #[I4 0 0 0 0, .bool false]) ∧ Below w.heap.size w w'))
    (h3 : Hid (∀ w, Calls Try.prog 16 #[I4 18446744073709551615 18446744073709551615 18446744073709551615 18446744073709551615, I4 2 0 0 0, I4 10 0 0 0] w fun e w' => e = .returned (I4 7 0 0 0) ∧ Below w.heap.size w w'))
    (h4 : Hid (∀ w, Calls Try.prog 20 #[I4 3 0 0 0, I4 5 0 0 0] w fun e w' => e = .returned (I4 243 0 0 0) ∧ Below w.heap.size w w')) (w : World) :
    Calls Try.prog 24 #[] w fun e w' => e = .returned (.bool true) ∧ Below w.heap.size w w' := by
  go_enter Try.func24, Try.ntmps24
  go_wp2_with fail
  refine (h1.out _).mono ?_
  rintro e w1 ⟨rfl, hb1⟩
  obtain ⟨p1, f1, z1⟩ := bcell hb1
  try simp at z1
  clear p1 f1
  go_wp2_with fail
  refine (h2.out _).mono ?_
  rintro e w2 ⟨rfl, hb2⟩
  obtain ⟨p2, f2, z2⟩ := bcell hb2
  try simp at z2
  have q2_0 : w1.heap.size < w2.heap.size := by omega
  have c2_0_0 : w2.cell? ⟨w1.heap.size, 0, none⟩ = some (.int .u64 5) := by rw [p2 _ _ (by first | assumption | omega | (simp; done) | (simp; omega))]; go_simp
  have c2_0_1 : w2.cell? ⟨w1.heap.size, 1, none⟩ = some (.int .u64 0) := by rw [p2 _ _ (by first | assumption | omega | (simp; done) | (simp; omega))]; go_simp
  have c2_0_2 : w2.cell? ⟨w1.heap.size, 2, none⟩ = some (.int .u64 0) := by rw [p2 _ _ (by first | assumption | omega | (simp; done) | (simp; omega))]; go_simp
  have c2_0_3 : w2.cell? ⟨w1.heap.size, 3, none⟩ = some (.int .u64 0) := by rw [p2 _ _ (by first | assumption | omega | (simp; done) | (simp; omega))]; go_simp
  clear p2 f2
  go_wp2_with fail
  refine (h3.out _).mono ?_
  rintro e w3 ⟨rfl, hb3⟩
  obtain ⟨p3, f3, z3⟩ := bcell hb3
  try simp at z3
  have q3_0 : w1.heap.size < w3.heap.size := by omega
  have q3_1 : w2.heap.size < w3.heap.size := by omega
  have q3_2 : w2.heap.size + 1 < w3.heap.size := by omega
  have c3_0_0 : w3.cell? ⟨w1.heap.size, 0, none⟩ = some (.int .u64 5) := by rw [p3 _ _ (by first | assumption | omega | (simp; done) | (simp; omega))]; go_simp
  have c3_0_1 : w3.cell? ⟨w1.heap.size, 1, none⟩ = some (.int .u64 0) := by rw [p3 _ _ (by first | assumption | omega | (simp; done) | (simp; omega))]; go_simp
  have c3_0_2 : w3.cell? ⟨w1.heap.size, 2, none⟩ = some (.int .u64 0) := by rw [p3 _ _ (by first | assumption | omega | (simp; done) | (simp; omega))]; go_simp
  have c3_0_3 : w3.cell? ⟨w1.heap.size, 3, none⟩ = some (.int .u64 0) := by rw [p3 _ _ (by first | assumption | omega | (simp; done) | (simp; omega))]; go_simp
  have c3_1_0 : w3.cell? ⟨w2.heap.size, 0, none⟩ = some (.int .u64 0) := by rw [p3 _ _ (by first | assumption | omega | (simp; done) | (simp; omega))]; go_simp
  have c3_1_1 : w3.cell? ⟨w2.heap.size, 1, none⟩ = some (.int .u64 0) := by rw [p3 _ _ (by first | assumption | omega | (simp; done) | (simp; omega))]; go_simp
  have c3_1_2 : w3.cell? ⟨w2.heap.size, 2, none⟩ = some (.int .u64 0) := by rw [p3 _ _ (by first | assumption | omega | (simp; done) | (simp; omega))]; go_simp
  have c3_1_3 : w3.cell? ⟨w2.heap.size, 3, none⟩ = some (.int .u64 0) := by rw [p3 _ _ (by first | assumption | omega | (simp; done) | (simp; omega))]; go_simp
  have c3_2_0 : w3.cell? ⟨w2.heap.size + 1, 0, none⟩ = some (.int .u64 18446744073709551615) := by rw [p3 _ _ (by first | assumption | omega | (simp; done) | (simp; omega))]; go_simp
  have c3_2_1 : w3.cell? ⟨w2.heap.size + 1, 1, none⟩ = some (.int .u64 18446744073709551615) := by rw [p3 _ _ (by first | assumption | omega | (simp; done) | (simp; omega))]; go_simp
  have c3_2_2 : w3.cell? ⟨w2.heap.size + 1, 2, none⟩ = some (.int .u64 18446744073709551615) := by rw [p3 _ _ (by first | assumption | omega | (simp; done) | (simp; omega))]; go_simp
  have c3_2_3 : w3.cell? ⟨w2.heap.size + 1, 3, none⟩ = some (.int .u64 18446744073709551615) := by rw [p3 _ _ (by first | assumption | omega | (simp; done) | (simp; omega))]; go_simp
  clear p3 f3
  clear c2_0_0 c2_0_1 c2_0_2 c2_0_3
  go_wp2_with fail
  refine (h4.out _).mono ?_
  rintro e w4 ⟨rfl, hb4⟩
  obtain ⟨p4, f4, z4⟩ := bcell hb4
  try simp at z4
  have q4_0 : w1.heap.size < w4.heap.size := by omega
  have q4_1 : w2.heap.size < w4.heap.size := by omega
  have q4_2 : w2.heap.size + 1 < w4.heap.size := by omega
  have c4_0_0 : w4.cell? ⟨w1.heap.size, 0, none⟩ = some (.int .u64 5) := by rw [p4 _ _ (by first | assumption | omega | (simp; done) | (simp; omega))]; go_simp
  have c4_0_1 : w4.cell? ⟨w1.heap.size, 1, none⟩ = some (.int .u64 0) := by rw [p4 _ _ (by first | assumption | omega | (simp; done) | (simp; omega))]; go_simp
  have c4_0_2 : w4.cell? ⟨w1.heap.size, 2, none⟩ = some (.int .u64 0) := by rw [p4 _ _ (by first | assumption | omega | (simp; done) | (simp; omega))]; go_simp
  have c4_0_3 : w4.cell? ⟨w1.heap.size, 3, none⟩ = some (.int .u64 0) := by rw [p4 _ _ (by first | assumption | omega | (simp; done) | (simp; omega))]; go_simp
  have c4_1_0 : w4.cell? ⟨w2.heap.size, 0, none⟩ = some (.int .u64 0) := by rw [p4 _ _ (by first | assumption | omega | (simp; done) | (simp; omega))]; go_simp
  have c4_1_1 : w4.cell? ⟨w2.heap.size, 1, none⟩ = some (.int .u64 0) := by rw [p4 _ _ (by first | assumption | omega | (simp; done) | (simp; omega))]; go_simp
  have c4_1_2 : w4.cell? ⟨w2.heap.size, 2, none⟩ = some (.int .u64 0) := by rw [p4 _ _ (by first | assumption | omega | (simp; done) | (simp; omega))]; go_simp
  have c4_1_3 : w4.cell? ⟨w2.heap.size, 3, none⟩ = some (.int .u64 0) := by rw [p4 _ _ (by first | assumption | omega | (simp; done) | (simp; omega))]; go_simp
  have c4_2_0 : w4.cell? ⟨w2.heap.size + 1, 0, none⟩ = some (.int .u64 18446744073709551615) := by rw [p4 _ _ (by first | assumption | omega | (simp; done) | (simp; omega))]; go_simp
  have c4_2_1 : w4.cell? ⟨w2.heap.size + 1, 1, none⟩ = some (.int .u64 18446744073709551615) := by rw [p4 _ _ (by first | assumption | omega | (simp; done) | (simp; omega))]; go_simp
  have c4_2_2 : w4.cell? ⟨w2.heap.size + 1, 2, none⟩ = some (.int .u64 18446744073709551615) := by rw [p4 _ _ (by first | assumption | omega | (simp; done) | (simp; omega))]; go_simp
  have c4_2_3 : w4.cell? ⟨w2.heap.size + 1, 3, none⟩ = some (.int .u64 18446744073709551615) := by rw [p4 _ _ (by first | assumption | omega | (simp; done) | (simp; omega))]; go_simp
  clear p4 f4
  clear c3_0_0 c3_0_1 c3_0_2 c3_0_3 c3_1_0 c3_1_1 c3_1_2 c3_1_3 c3_2_0 c3_2_1 c3_2_2 c3_2_3
  go_wp2
  go_ret
  exact ⟨rfl, by (repeat (first | exact Below.refl _ _ | apply Below.drew | refine bel_alloc ?_ _ | refine bel_set ?_ (by first | (simp; done) | (simp; omega)) _ | refine bel_call ?_ (by assumption)))⟩

theorem U_all : U 115792089237316195423570985008687907853269984665640564039457584007913129639935 = I4 18446744073709551615 18446744073709551615 18446744073709551615 18446744073709551615 := by kernel_rfl
theorem U_5 : U 5 = I4 5 0 0 0 := by kernel_rfl
theorem U_243 : U 243 = I4 243 0 0 0 := by kernel_rfl
theorem inv_fixed (a m x : Nat) (ok : Bool) (ha : a < W) (hm : m < W) (hI : IV a m x ok) (w : World) : Calls Try.prog 14 #[U a, U m] w fun e w' => e = .returned (.tuple #[U x, .bool ok]) ∧ Below w.heap.size w w' := by
  refine (inv_any a m ha hm w).mono ?_
  rintro e w' ⟨⟨y, q, hY, _, rfl⟩, hb⟩
  obtain ⟨rfl, rfl⟩ := hI.unique hY
  exact ⟨rfl, hb⟩
theorem awake3_any (w : World) : Calls Try.prog 24 #[] w fun e w' => e = .returned (.bool true) ∧ Below w.heap.size w w' := by
  refine awake3_gen (fun w => ?_) (fun w => ?_) (fun w => ?_) (fun w => ?_) w
  · have h := inv_fixed 3 7 5 true (by decide +kernel) (by decide +kernel) ⟨fun _ => by decide, fun h => by cases h⟩ w
    rw [U_3, U_7, U_5] at h
    exact h
  · have h := inv_fixed 2 4 0 false (by decide +kernel) (by decide +kernel) ⟨(fun h => by cases h), fun _ => ⟨rfl, fun y _ => by omega⟩⟩ w
    rw [U_2, U_4, U_zero] at h
    exact h
  · have h := addmod_any 115792089237316195423570985008687907853269984665640564039457584007913129639935 2 10 (by decide +kernel) (by decide +kernel) (by decide +kernel) w
    rw [show rm (115792089237316195423570985008687907853269984665640564039457584007913129639935 + 2) 10 = 7 by decide +kernel, U_all, U_2, U_10, U_7] at h
    exact h
  · have h := exp_any 3 5 (by decide +kernel) (by decide +kernel) w
    rw [show rm (3 ^ 5) W = 243 by decide +kernel, U_3, U_5, U_243] at h
    exact h
end Go.Proofs.Ytillbhdcnhcbhaa
