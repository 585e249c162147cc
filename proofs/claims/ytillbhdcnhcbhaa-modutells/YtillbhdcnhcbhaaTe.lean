/- The law ModuTells, walked. -/
import Derived.Test.YtillbhdcnhcbhaaRi2
import Derived.Lib.QuietBelow
import Derived.BigQuiet
namespace Go.Proofs.Ytillbhdcnhcbhaa
open Go.RowKit Go.Sort
set_option linter.unusedVariables false
attribute [local go_sem] run_eq4 run_eqU_same

set_option maxRecDepth 100000 in
set_option maxHeartbeats 4000000 in
theorem tells_true (a b m x s p ep o : Nat)
    (i1 : Hid (∀ w, Calls Try.prog 14 #[U a, U m] w fun e w' => e = .returned (.tuple #[U x, .bool true]) ∧ Below w.heap.size w w'))
    (i2 : Hid (∀ w, Calls Try.prog 15 #[U a, U m] w fun e w' => e = .returned (.tuple #[U x, .bool true]) ∧ Below w.heap.size w w'))
    (x1 : Hid (∀ w, Calls Try.prog 16 #[U a, U b, U m] w fun e w' => e = .returned (U s) ∧ Below w.heap.size w w'))
    (x2 : Hid (∀ w, Calls Try.prog 17 #[U a, U b, U m] w fun e w' => e = .returned (U s) ∧ Below w.heap.size w w'))
    (x3 : Hid (∀ w, Calls Try.prog 18 #[U a, U b, U m] w fun e w' => e = .returned (U p) ∧ Below w.heap.size w w'))
    (x4 : Hid (∀ w, Calls Try.prog 19 #[U a, U b, U m] w fun e w' => e = .returned (U p) ∧ Below w.heap.size w w'))
    (x5 : Hid (∀ w, Calls Try.prog 20 #[U a, U b] w fun e w' => e = .returned (U ep) ∧ Below w.heap.size w w'))
    (x6 : Hid (∀ w, Calls Try.prog 21 #[U a, U b] w fun e w' => e = .returned (U ep) ∧ Below w.heap.size w w'))
    (x7 : Hid (∀ w, Calls Try.prog 22 #[U a, U b, U m] w fun e w' => e = .returned (U o) ∧ Below w.heap.size w w'))
    (x8 : Hid (∀ w, Calls Try.prog 23 #[U a, U b, U m] w fun e w' => e = .returned (U o) ∧ Below w.heap.size w w'))
    (ha : Hid (∀ w, Calls Try.prog 24 #[] w fun e w' => e = .returned (.bool true) ∧ Below w.heap.size w w')) (w : World) :
    Calls Try.prog 4 #[U a, U b, U m] w fun e w' => e = .returned (.bool true) ∧ Below w.heap.size w w' := by
  go_enter Try.func4, Try.ntmps4
  go_wp2_with fail
  refine (i1.out _).mono ?_
  rintro e w1 ⟨rfl, hb1⟩
  obtain ⟨p1, f1, z1⟩ := bcell hb1
  try simp at z1
  have q1_0 : w.heap.size < w1.heap.size := by omega
  have q1_1 : w.heap.size + 1 < w1.heap.size := by omega
  have q1_2 : w.heap.size + 1 + 1 < w1.heap.size := by omega
  have c1_0_0 : w1.cell? ⟨w.heap.size, 0, none⟩ = some (B (l0 a)) := by rw [p1 _ _ (by first | assumption | omega | (simp; done) | (simp; omega))]; go_simp
  have c1_0_1 : w1.cell? ⟨w.heap.size, 1, none⟩ = some (B (l1 a)) := by rw [p1 _ _ (by first | assumption | omega | (simp; done) | (simp; omega))]; go_simp
  have c1_0_2 : w1.cell? ⟨w.heap.size, 2, none⟩ = some (B (l2 a)) := by rw [p1 _ _ (by first | assumption | omega | (simp; done) | (simp; omega))]; go_simp
  have c1_0_3 : w1.cell? ⟨w.heap.size, 3, none⟩ = some (B (l3 a)) := by rw [p1 _ _ (by first | assumption | omega | (simp; done) | (simp; omega))]; go_simp
  have c1_1_0 : w1.cell? ⟨w.heap.size + 1, 0, none⟩ = some (B (l0 b)) := by rw [p1 _ _ (by first | assumption | omega | (simp; done) | (simp; omega))]; go_simp
  have c1_1_1 : w1.cell? ⟨w.heap.size + 1, 1, none⟩ = some (B (l1 b)) := by rw [p1 _ _ (by first | assumption | omega | (simp; done) | (simp; omega))]; go_simp
  have c1_1_2 : w1.cell? ⟨w.heap.size + 1, 2, none⟩ = some (B (l2 b)) := by rw [p1 _ _ (by first | assumption | omega | (simp; done) | (simp; omega))]; go_simp
  have c1_1_3 : w1.cell? ⟨w.heap.size + 1, 3, none⟩ = some (B (l3 b)) := by rw [p1 _ _ (by first | assumption | omega | (simp; done) | (simp; omega))]; go_simp
  have c1_2_0 : w1.cell? ⟨w.heap.size + 1 + 1, 0, none⟩ = some (B (l0 m)) := by rw [p1 _ _ (by first | assumption | omega | (simp; done) | (simp; omega))]; go_simp
  have c1_2_1 : w1.cell? ⟨w.heap.size + 1 + 1, 1, none⟩ = some (B (l1 m)) := by rw [p1 _ _ (by first | assumption | omega | (simp; done) | (simp; omega))]; go_simp
  have c1_2_2 : w1.cell? ⟨w.heap.size + 1 + 1, 2, none⟩ = some (B (l2 m)) := by rw [p1 _ _ (by first | assumption | omega | (simp; done) | (simp; omega))]; go_simp
  have c1_2_3 : w1.cell? ⟨w.heap.size + 1 + 1, 3, none⟩ = some (B (l3 m)) := by rw [p1 _ _ (by first | assumption | omega | (simp; done) | (simp; omega))]; go_simp
  clear p1 f1
  go_wp2_with fail
  refine (i2.out _).mono ?_
  rintro e w2 ⟨rfl, hb2⟩
  obtain ⟨p2, f2, z2⟩ := bcell hb2
  try simp at z2
  have q2_0 : w.heap.size < w2.heap.size := by omega
  have q2_1 : w.heap.size + 1 < w2.heap.size := by omega
  have q2_2 : w.heap.size + 1 + 1 < w2.heap.size := by omega
  have q2_3 : w1.heap.size < w2.heap.size := by omega
  have c2_0_0 : w2.cell? ⟨w.heap.size, 0, none⟩ = some (B (l0 a)) := by rw [p2 _ _ (by first | assumption | omega | (simp; done) | (simp; omega))]; go_simp
  have c2_0_1 : w2.cell? ⟨w.heap.size, 1, none⟩ = some (B (l1 a)) := by rw [p2 _ _ (by first | assumption | omega | (simp; done) | (simp; omega))]; go_simp
  have c2_0_2 : w2.cell? ⟨w.heap.size, 2, none⟩ = some (B (l2 a)) := by rw [p2 _ _ (by first | assumption | omega | (simp; done) | (simp; omega))]; go_simp
  have c2_0_3 : w2.cell? ⟨w.heap.size, 3, none⟩ = some (B (l3 a)) := by rw [p2 _ _ (by first | assumption | omega | (simp; done) | (simp; omega))]; go_simp
  have c2_1_0 : w2.cell? ⟨w.heap.size + 1, 0, none⟩ = some (B (l0 b)) := by rw [p2 _ _ (by first | assumption | omega | (simp; done) | (simp; omega))]; go_simp
  have c2_1_1 : w2.cell? ⟨w.heap.size + 1, 1, none⟩ = some (B (l1 b)) := by rw [p2 _ _ (by first | assumption | omega | (simp; done) | (simp; omega))]; go_simp
  have c2_1_2 : w2.cell? ⟨w.heap.size + 1, 2, none⟩ = some (B (l2 b)) := by rw [p2 _ _ (by first | assumption | omega | (simp; done) | (simp; omega))]; go_simp
  have c2_1_3 : w2.cell? ⟨w.heap.size + 1, 3, none⟩ = some (B (l3 b)) := by rw [p2 _ _ (by first | assumption | omega | (simp; done) | (simp; omega))]; go_simp
  have c2_2_0 : w2.cell? ⟨w.heap.size + 1 + 1, 0, none⟩ = some (B (l0 m)) := by rw [p2 _ _ (by first | assumption | omega | (simp; done) | (simp; omega))]; go_simp
  have c2_2_1 : w2.cell? ⟨w.heap.size + 1 + 1, 1, none⟩ = some (B (l1 m)) := by rw [p2 _ _ (by first | assumption | omega | (simp; done) | (simp; omega))]; go_simp
  have c2_2_2 : w2.cell? ⟨w.heap.size + 1 + 1, 2, none⟩ = some (B (l2 m)) := by rw [p2 _ _ (by first | assumption | omega | (simp; done) | (simp; omega))]; go_simp
  have c2_2_3 : w2.cell? ⟨w.heap.size + 1 + 1, 3, none⟩ = some (B (l3 m)) := by rw [p2 _ _ (by first | assumption | omega | (simp; done) | (simp; omega))]; go_simp
  have c2_3_0 : w2.cell? ⟨w1.heap.size, 0, none⟩ = some (B (l0 x)) := by rw [p2 _ _ (by first | assumption | omega | (simp; done) | (simp; omega))]; go_simp
  have c2_3_1 : w2.cell? ⟨w1.heap.size, 1, none⟩ = some (B (l1 x)) := by rw [p2 _ _ (by first | assumption | omega | (simp; done) | (simp; omega))]; go_simp
  have c2_3_2 : w2.cell? ⟨w1.heap.size, 2, none⟩ = some (B (l2 x)) := by rw [p2 _ _ (by first | assumption | omega | (simp; done) | (simp; omega))]; go_simp
  have c2_3_3 : w2.cell? ⟨w1.heap.size, 3, none⟩ = some (B (l3 x)) := by rw [p2 _ _ (by first | assumption | omega | (simp; done) | (simp; omega))]; go_simp
  clear p2 f2
  clear c1_0_0 c1_0_1 c1_0_2 c1_0_3 c1_1_0 c1_1_1 c1_1_2 c1_1_3 c1_2_0 c1_2_1 c1_2_2 c1_2_3
  go_wp2_with fail
  refine name_world _ ?_
  intro wF hF
  have d0_0 : wF.cell? ⟨w.heap.size, 0, none⟩ = some (B (l0 a)) := by rw [hF]; go_simp
  have d0_1 : wF.cell? ⟨w.heap.size, 1, none⟩ = some (B (l1 a)) := by rw [hF]; go_simp
  have d0_2 : wF.cell? ⟨w.heap.size, 2, none⟩ = some (B (l2 a)) := by rw [hF]; go_simp
  have d0_3 : wF.cell? ⟨w.heap.size, 3, none⟩ = some (B (l3 a)) := by rw [hF]; go_simp
  have d1_0 : wF.cell? ⟨w.heap.size + 1, 0, none⟩ = some (B (l0 b)) := by rw [hF]; go_simp
  have d1_1 : wF.cell? ⟨w.heap.size + 1, 1, none⟩ = some (B (l1 b)) := by rw [hF]; go_simp
  have d1_2 : wF.cell? ⟨w.heap.size + 1, 2, none⟩ = some (B (l2 b)) := by rw [hF]; go_simp
  have d1_3 : wF.cell? ⟨w.heap.size + 1, 3, none⟩ = some (B (l3 b)) := by rw [hF]; go_simp
  have d2_0 : wF.cell? ⟨w.heap.size + 1 + 1, 0, none⟩ = some (B (l0 m)) := by rw [hF]; go_simp
  have d2_1 : wF.cell? ⟨w.heap.size + 1 + 1, 1, none⟩ = some (B (l1 m)) := by rw [hF]; go_simp
  have d2_2 : wF.cell? ⟨w.heap.size + 1 + 1, 2, none⟩ = some (B (l2 m)) := by rw [hF]; go_simp
  have d2_3 : wF.cell? ⟨w.heap.size + 1 + 1, 3, none⟩ = some (B (l3 m)) := by rw [hF]; go_simp
  have d3_0 : wF.cell? ⟨w1.heap.size, 0, none⟩ = some (B (l0 x)) := by rw [hF]; go_simp
  have d3_1 : wF.cell? ⟨w1.heap.size, 1, none⟩ = some (B (l1 x)) := by rw [hF]; go_simp
  have d3_2 : wF.cell? ⟨w1.heap.size, 2, none⟩ = some (B (l2 x)) := by rw [hF]; go_simp
  have d3_3 : wF.cell? ⟨w1.heap.size, 3, none⟩ = some (B (l3 x)) := by rw [hF]; go_simp
  have d4_0 : wF.cell? ⟨w2.heap.size, 0, none⟩ = some (B (l0 x)) := by rw [hF]; go_simp
  have d4_1 : wF.cell? ⟨w2.heap.size, 1, none⟩ = some (B (l1 x)) := by rw [hF]; go_simp
  have d4_2 : wF.cell? ⟨w2.heap.size, 2, none⟩ = some (B (l2 x)) := by rw [hF]; go_simp
  have d4_3 : wF.cell? ⟨w2.heap.size, 3, none⟩ = some (B (l3 x)) := by rw [hF]; go_simp
  have hBF : Below w.heap.size w wF := by rw [hF]; (repeat (first | exact Below.refl _ _ | apply Below.drew | refine bel_alloc ?_ _ | refine bel_set ?_ (by first | (simp; done) | (simp; omega)) _ | refine bel_call ?_ (by assumption)))
  clear hF
  replace d0_0 := cell_regrown d0_0
  replace d0_1 := cell_regrown d0_1
  replace d0_2 := cell_regrown d0_2
  replace d0_3 := cell_regrown d0_3
  replace d1_0 := cell_regrown d1_0
  replace d1_1 := cell_regrown d1_1
  replace d1_2 := cell_regrown d1_2
  replace d1_3 := cell_regrown d1_3
  replace d2_0 := cell_regrown d2_0
  replace d2_1 := cell_regrown d2_1
  replace d2_2 := cell_regrown d2_2
  replace d2_3 := cell_regrown d2_3
  replace d3_0 := cell_regrown d3_0
  replace d3_1 := cell_regrown d3_1
  replace d3_2 := cell_regrown d3_2
  replace d3_3 := cell_regrown d3_3
  replace d4_0 := cell_regrown d4_0
  replace d4_1 := cell_regrown d4_1
  replace d4_2 := cell_regrown d4_2
  replace d4_3 := cell_regrown d4_3
  refine wp_region_quiet_below (by kernel_rfl) (by kernel_rfl) ?_
  repeat (go_big_quiet_step (fail))
  go_big_quiet_step ((exact Calls.regrown_of (x1.out _)))
  repeat (go_big_quiet_step (fail))
  go_big_quiet_step ((exact Calls.regrown_of (x2.out _)))
  repeat (go_big_quiet_step (fail))
  go_big_quiet_step ((exact Calls.regrown_of (x3.out _)))
  repeat (go_big_quiet_step (fail))
  go_big_quiet_step ((exact Calls.regrown_of (x4.out _)))
  repeat (go_big_quiet_step (fail))
  go_big_quiet_step ((exact Calls.regrown_of (x5.out _)))
  repeat (go_big_quiet_step (fail))
  go_big_quiet_step ((exact Calls.regrown_of (x6.out _)))
  repeat (go_big_quiet_step (fail))
  go_big_quiet_step ((exact Calls.regrown_of (x7.out _)))
  repeat (go_big_quiet_step (fail))
  go_big_quiet_step ((exact Calls.regrown_of (x8.out _)))
  repeat (go_big_quiet_step (fail))
  go_big_quiet_step ((exact Calls.regrown_of (ha.out _)))
  repeat (go_big_quiet_step (fail))
  refine wpQuiet_nil ?_
  intro _ hw'
  obtain ⟨⟨dq', osq⟩, hw''⟩ := hw'
  subst hw''
  go_wp2
  go_ret
  exact ⟨rfl, bel_call hBF (below_regrown wF dq' osq)⟩

set_option maxRecDepth 100000 in
set_option maxHeartbeats 4000000 in
theorem tells_false (a b m x s p ep o : Nat)
    (i1 : Hid (∀ w, Calls Try.prog 14 #[U a, U m] w fun e w' => e = .returned (.tuple #[U x, .bool false]) ∧ Below w.heap.size w w'))
    (i2 : Hid (∀ w, Calls Try.prog 15 #[U a, U m] w fun e w' => e = .returned (.tuple #[U x, .bool false]) ∧ Below w.heap.size w w'))
    (x1 : Hid (∀ w, Calls Try.prog 16 #[U a, U b, U m] w fun e w' => e = .returned (U s) ∧ Below w.heap.size w w'))
    (x2 : Hid (∀ w, Calls Try.prog 17 #[U a, U b, U m] w fun e w' => e = .returned (U s) ∧ Below w.heap.size w w'))
    (x3 : Hid (∀ w, Calls Try.prog 18 #[U a, U b, U m] w fun e w' => e = .returned (U p) ∧ Below w.heap.size w w'))
    (x4 : Hid (∀ w, Calls Try.prog 19 #[U a, U b, U m] w fun e w' => e = .returned (U p) ∧ Below w.heap.size w w'))
    (x5 : Hid (∀ w, Calls Try.prog 20 #[U a, U b] w fun e w' => e = .returned (U ep) ∧ Below w.heap.size w w'))
    (x6 : Hid (∀ w, Calls Try.prog 21 #[U a, U b] w fun e w' => e = .returned (U ep) ∧ Below w.heap.size w w'))
    (x7 : Hid (∀ w, Calls Try.prog 22 #[U a, U b, U m] w fun e w' => e = .returned (U o) ∧ Below w.heap.size w w'))
    (x8 : Hid (∀ w, Calls Try.prog 23 #[U a, U b, U m] w fun e w' => e = .returned (U o) ∧ Below w.heap.size w w'))
    (ha : Hid (∀ w, Calls Try.prog 24 #[] w fun e w' => e = .returned (.bool true) ∧ Below w.heap.size w w')) (w : World) :
    Calls Try.prog 4 #[U a, U b, U m] w fun e w' => e = .returned (.bool true) ∧ Below w.heap.size w w' := by
  go_enter Try.func4, Try.ntmps4
  go_wp2_with fail
  refine (i1.out _).mono ?_
  rintro e w1 ⟨rfl, hb1⟩
  obtain ⟨p1, f1, z1⟩ := bcell hb1
  try simp at z1
  have q1_0 : w.heap.size < w1.heap.size := by omega
  have q1_1 : w.heap.size + 1 < w1.heap.size := by omega
  have q1_2 : w.heap.size + 1 + 1 < w1.heap.size := by omega
  have c1_0_0 : w1.cell? ⟨w.heap.size, 0, none⟩ = some (B (l0 a)) := by rw [p1 _ _ (by first | assumption | omega | (simp; done) | (simp; omega))]; go_simp
  have c1_0_1 : w1.cell? ⟨w.heap.size, 1, none⟩ = some (B (l1 a)) := by rw [p1 _ _ (by first | assumption | omega | (simp; done) | (simp; omega))]; go_simp
  have c1_0_2 : w1.cell? ⟨w.heap.size, 2, none⟩ = some (B (l2 a)) := by rw [p1 _ _ (by first | assumption | omega | (simp; done) | (simp; omega))]; go_simp
  have c1_0_3 : w1.cell? ⟨w.heap.size, 3, none⟩ = some (B (l3 a)) := by rw [p1 _ _ (by first | assumption | omega | (simp; done) | (simp; omega))]; go_simp
  have c1_1_0 : w1.cell? ⟨w.heap.size + 1, 0, none⟩ = some (B (l0 b)) := by rw [p1 _ _ (by first | assumption | omega | (simp; done) | (simp; omega))]; go_simp
  have c1_1_1 : w1.cell? ⟨w.heap.size + 1, 1, none⟩ = some (B (l1 b)) := by rw [p1 _ _ (by first | assumption | omega | (simp; done) | (simp; omega))]; go_simp
  have c1_1_2 : w1.cell? ⟨w.heap.size + 1, 2, none⟩ = some (B (l2 b)) := by rw [p1 _ _ (by first | assumption | omega | (simp; done) | (simp; omega))]; go_simp
  have c1_1_3 : w1.cell? ⟨w.heap.size + 1, 3, none⟩ = some (B (l3 b)) := by rw [p1 _ _ (by first | assumption | omega | (simp; done) | (simp; omega))]; go_simp
  have c1_2_0 : w1.cell? ⟨w.heap.size + 1 + 1, 0, none⟩ = some (B (l0 m)) := by rw [p1 _ _ (by first | assumption | omega | (simp; done) | (simp; omega))]; go_simp
  have c1_2_1 : w1.cell? ⟨w.heap.size + 1 + 1, 1, none⟩ = some (B (l1 m)) := by rw [p1 _ _ (by first | assumption | omega | (simp; done) | (simp; omega))]; go_simp
  have c1_2_2 : w1.cell? ⟨w.heap.size + 1 + 1, 2, none⟩ = some (B (l2 m)) := by rw [p1 _ _ (by first | assumption | omega | (simp; done) | (simp; omega))]; go_simp
  have c1_2_3 : w1.cell? ⟨w.heap.size + 1 + 1, 3, none⟩ = some (B (l3 m)) := by rw [p1 _ _ (by first | assumption | omega | (simp; done) | (simp; omega))]; go_simp
  clear p1 f1
  go_wp2_with fail
  refine (i2.out _).mono ?_
  rintro e w2 ⟨rfl, hb2⟩
  obtain ⟨p2, f2, z2⟩ := bcell hb2
  try simp at z2
  have q2_0 : w.heap.size < w2.heap.size := by omega
  have q2_1 : w.heap.size + 1 < w2.heap.size := by omega
  have q2_2 : w.heap.size + 1 + 1 < w2.heap.size := by omega
  have q2_3 : w1.heap.size < w2.heap.size := by omega
  have c2_0_0 : w2.cell? ⟨w.heap.size, 0, none⟩ = some (B (l0 a)) := by rw [p2 _ _ (by first | assumption | omega | (simp; done) | (simp; omega))]; go_simp
  have c2_0_1 : w2.cell? ⟨w.heap.size, 1, none⟩ = some (B (l1 a)) := by rw [p2 _ _ (by first | assumption | omega | (simp; done) | (simp; omega))]; go_simp
  have c2_0_2 : w2.cell? ⟨w.heap.size, 2, none⟩ = some (B (l2 a)) := by rw [p2 _ _ (by first | assumption | omega | (simp; done) | (simp; omega))]; go_simp
  have c2_0_3 : w2.cell? ⟨w.heap.size, 3, none⟩ = some (B (l3 a)) := by rw [p2 _ _ (by first | assumption | omega | (simp; done) | (simp; omega))]; go_simp
  have c2_1_0 : w2.cell? ⟨w.heap.size + 1, 0, none⟩ = some (B (l0 b)) := by rw [p2 _ _ (by first | assumption | omega | (simp; done) | (simp; omega))]; go_simp
  have c2_1_1 : w2.cell? ⟨w.heap.size + 1, 1, none⟩ = some (B (l1 b)) := by rw [p2 _ _ (by first | assumption | omega | (simp; done) | (simp; omega))]; go_simp
  have c2_1_2 : w2.cell? ⟨w.heap.size + 1, 2, none⟩ = some (B (l2 b)) := by rw [p2 _ _ (by first | assumption | omega | (simp; done) | (simp; omega))]; go_simp
  have c2_1_3 : w2.cell? ⟨w.heap.size + 1, 3, none⟩ = some (B (l3 b)) := by rw [p2 _ _ (by first | assumption | omega | (simp; done) | (simp; omega))]; go_simp
  have c2_2_0 : w2.cell? ⟨w.heap.size + 1 + 1, 0, none⟩ = some (B (l0 m)) := by rw [p2 _ _ (by first | assumption | omega | (simp; done) | (simp; omega))]; go_simp
  have c2_2_1 : w2.cell? ⟨w.heap.size + 1 + 1, 1, none⟩ = some (B (l1 m)) := by rw [p2 _ _ (by first | assumption | omega | (simp; done) | (simp; omega))]; go_simp
  have c2_2_2 : w2.cell? ⟨w.heap.size + 1 + 1, 2, none⟩ = some (B (l2 m)) := by rw [p2 _ _ (by first | assumption | omega | (simp; done) | (simp; omega))]; go_simp
  have c2_2_3 : w2.cell? ⟨w.heap.size + 1 + 1, 3, none⟩ = some (B (l3 m)) := by rw [p2 _ _ (by first | assumption | omega | (simp; done) | (simp; omega))]; go_simp
  have c2_3_0 : w2.cell? ⟨w1.heap.size, 0, none⟩ = some (B (l0 x)) := by rw [p2 _ _ (by first | assumption | omega | (simp; done) | (simp; omega))]; go_simp
  have c2_3_1 : w2.cell? ⟨w1.heap.size, 1, none⟩ = some (B (l1 x)) := by rw [p2 _ _ (by first | assumption | omega | (simp; done) | (simp; omega))]; go_simp
  have c2_3_2 : w2.cell? ⟨w1.heap.size, 2, none⟩ = some (B (l2 x)) := by rw [p2 _ _ (by first | assumption | omega | (simp; done) | (simp; omega))]; go_simp
  have c2_3_3 : w2.cell? ⟨w1.heap.size, 3, none⟩ = some (B (l3 x)) := by rw [p2 _ _ (by first | assumption | omega | (simp; done) | (simp; omega))]; go_simp
  clear p2 f2
  clear c1_0_0 c1_0_1 c1_0_2 c1_0_3 c1_1_0 c1_1_1 c1_1_2 c1_1_3 c1_2_0 c1_2_1 c1_2_2 c1_2_3
  go_wp2_with fail
  refine name_world _ ?_
  intro wF hF
  have d0_0 : wF.cell? ⟨w.heap.size, 0, none⟩ = some (B (l0 a)) := by rw [hF]; go_simp
  have d0_1 : wF.cell? ⟨w.heap.size, 1, none⟩ = some (B (l1 a)) := by rw [hF]; go_simp
  have d0_2 : wF.cell? ⟨w.heap.size, 2, none⟩ = some (B (l2 a)) := by rw [hF]; go_simp
  have d0_3 : wF.cell? ⟨w.heap.size, 3, none⟩ = some (B (l3 a)) := by rw [hF]; go_simp
  have d1_0 : wF.cell? ⟨w.heap.size + 1, 0, none⟩ = some (B (l0 b)) := by rw [hF]; go_simp
  have d1_1 : wF.cell? ⟨w.heap.size + 1, 1, none⟩ = some (B (l1 b)) := by rw [hF]; go_simp
  have d1_2 : wF.cell? ⟨w.heap.size + 1, 2, none⟩ = some (B (l2 b)) := by rw [hF]; go_simp
  have d1_3 : wF.cell? ⟨w.heap.size + 1, 3, none⟩ = some (B (l3 b)) := by rw [hF]; go_simp
  have d2_0 : wF.cell? ⟨w.heap.size + 1 + 1, 0, none⟩ = some (B (l0 m)) := by rw [hF]; go_simp
  have d2_1 : wF.cell? ⟨w.heap.size + 1 + 1, 1, none⟩ = some (B (l1 m)) := by rw [hF]; go_simp
  have d2_2 : wF.cell? ⟨w.heap.size + 1 + 1, 2, none⟩ = some (B (l2 m)) := by rw [hF]; go_simp
  have d2_3 : wF.cell? ⟨w.heap.size + 1 + 1, 3, none⟩ = some (B (l3 m)) := by rw [hF]; go_simp
  have d3_0 : wF.cell? ⟨w1.heap.size, 0, none⟩ = some (B (l0 x)) := by rw [hF]; go_simp
  have d3_1 : wF.cell? ⟨w1.heap.size, 1, none⟩ = some (B (l1 x)) := by rw [hF]; go_simp
  have d3_2 : wF.cell? ⟨w1.heap.size, 2, none⟩ = some (B (l2 x)) := by rw [hF]; go_simp
  have d3_3 : wF.cell? ⟨w1.heap.size, 3, none⟩ = some (B (l3 x)) := by rw [hF]; go_simp
  have d4_0 : wF.cell? ⟨w2.heap.size, 0, none⟩ = some (B (l0 x)) := by rw [hF]; go_simp
  have d4_1 : wF.cell? ⟨w2.heap.size, 1, none⟩ = some (B (l1 x)) := by rw [hF]; go_simp
  have d4_2 : wF.cell? ⟨w2.heap.size, 2, none⟩ = some (B (l2 x)) := by rw [hF]; go_simp
  have d4_3 : wF.cell? ⟨w2.heap.size, 3, none⟩ = some (B (l3 x)) := by rw [hF]; go_simp
  have hBF : Below w.heap.size w wF := by rw [hF]; (repeat (first | exact Below.refl _ _ | apply Below.drew | refine bel_alloc ?_ _ | refine bel_set ?_ (by first | (simp; done) | (simp; omega)) _ | refine bel_call ?_ (by assumption)))
  clear hF
  replace d0_0 := cell_regrown d0_0
  replace d0_1 := cell_regrown d0_1
  replace d0_2 := cell_regrown d0_2
  replace d0_3 := cell_regrown d0_3
  replace d1_0 := cell_regrown d1_0
  replace d1_1 := cell_regrown d1_1
  replace d1_2 := cell_regrown d1_2
  replace d1_3 := cell_regrown d1_3
  replace d2_0 := cell_regrown d2_0
  replace d2_1 := cell_regrown d2_1
  replace d2_2 := cell_regrown d2_2
  replace d2_3 := cell_regrown d2_3
  replace d3_0 := cell_regrown d3_0
  replace d3_1 := cell_regrown d3_1
  replace d3_2 := cell_regrown d3_2
  replace d3_3 := cell_regrown d3_3
  replace d4_0 := cell_regrown d4_0
  replace d4_1 := cell_regrown d4_1
  replace d4_2 := cell_regrown d4_2
  replace d4_3 := cell_regrown d4_3
  refine wp_region_quiet_below (by kernel_rfl) (by kernel_rfl) ?_
  repeat (go_big_quiet_step (fail))
  go_big_quiet_step ((exact Calls.regrown_of (x1.out _)))
  repeat (go_big_quiet_step (fail))
  go_big_quiet_step ((exact Calls.regrown_of (x2.out _)))
  repeat (go_big_quiet_step (fail))
  go_big_quiet_step ((exact Calls.regrown_of (x3.out _)))
  repeat (go_big_quiet_step (fail))
  go_big_quiet_step ((exact Calls.regrown_of (x4.out _)))
  repeat (go_big_quiet_step (fail))
  go_big_quiet_step ((exact Calls.regrown_of (x5.out _)))
  repeat (go_big_quiet_step (fail))
  go_big_quiet_step ((exact Calls.regrown_of (x6.out _)))
  repeat (go_big_quiet_step (fail))
  go_big_quiet_step ((exact Calls.regrown_of (x7.out _)))
  repeat (go_big_quiet_step (fail))
  go_big_quiet_step ((exact Calls.regrown_of (x8.out _)))
  repeat (go_big_quiet_step (fail))
  go_big_quiet_step ((exact Calls.regrown_of (ha.out _)))
  repeat (go_big_quiet_step (fail))
  refine wpQuiet_nil ?_
  intro _ hw'
  obtain ⟨⟨dq', osq⟩, hw''⟩ := hw'
  subst hw''
  go_wp2
  go_ret
  exact ⟨rfl, bel_call hBF (below_regrown wF dq' osq)⟩

theorem rinv_fixed (a m x : Nat) (ok : Bool) (ha : a < W) (hm : m < W) (hI : IV a m x ok) (w : World) : Calls Try.prog 15 #[U a, U m] w fun e w' => e = .returned (.tuple #[U x, .bool ok]) ∧ Below w.heap.size w w' := by
  refine (rinv_any a m ha hm w).mono ?_
  rintro e w' ⟨⟨y, q, hY, _, rfl⟩, hb⟩
  obtain ⟨rfl, rfl⟩ := hI.unique hY
  exact ⟨rfl, hb⟩
theorem inv_there (a m : Nat) : ∃ x ok, IV a m x ok := by
  by_cases h : ∃ x, IV a m x true
  · obtain ⟨x, h⟩ := h
    exact ⟨x, true, h⟩
  · refine ⟨0, false, ⟨(fun h => by cases h), fun _ => ⟨rfl, fun y h1 hy => h ⟨y % m, ⟨fun _ => ⟨h1, Nat.mod_lt _ (by omega), ?_⟩, fun h => by cases h⟩⟩⟩⟩⟩
    rw [Nat.mul_mod_mod]; exact hy
theorem tells_walk (a b m : Nat) (ha : a < W) (hb : b < W) (hm : m < W) (w : World) : Calls Try.prog 4 #[U a, U b, U m] w fun e w' => e = .returned (.bool true) ∧ Below w.heap.size w w' := by
  obtain ⟨x, ok, hI⟩ := inv_there a m
  cases ok
  · exact tells_false a b m x _ _ _ _ (inv_fixed a m x false ha hm hI) (rinv_fixed a m x false ha hm hI) (addmod_any a b m ha hb hm) (raddmod_any a b m ha hb hm) (mulmod_any a b m ha hb hm) (rmulmod_any a b m ha hb hm) (exp_any a b ha hb) (rexp_any a b ha hb) (pow_any a b m ha hb hm) (rpow_any a b m ha hb hm) awake3_any w
  · exact tells_true a b m x _ _ _ _ (inv_fixed a m x true ha hm hI) (rinv_fixed a m x true ha hm hI) (addmod_any a b m ha hb hm) (raddmod_any a b m ha hb hm) (mulmod_any a b m ha hb hm) (rmulmod_any a b m ha hb hm) (exp_any a b ha hb) (rexp_any a b ha hb) (pow_any a b m ha hb hm) (rpow_any a b m ha hb hm) awake3_any w
end Go.Proofs.Ytillbhdcnhcbhaa
