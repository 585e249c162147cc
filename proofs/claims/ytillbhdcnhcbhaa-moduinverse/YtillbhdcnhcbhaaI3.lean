/- The law ModuInverse, walked. -/
import Derived.Test.YtillbhdcnhcbhaaMx
import Derived.Lib.QuietBelow
import Derived.BigQuiet
namespace Go.Proofs.Ytillbhdcnhcbhaa
open Go.RowKit Go.Sort
set_option linter.unusedVariables false
attribute [local go_sem] run_eq4 run_eqU_same

set_option maxRecDepth 100000 in
set_option maxHeartbeats 4000000 in
theorem inverse_no (a m : Nat)
    (h1 : Hid (∀ w, Calls Try.prog 14 #[U a, U m] w fun e w' => e = .returned (.tuple #[I4 0 0 0 0, .bool false]) ∧ Below w.heap.size w w'))
    (ha : Hid (∀ w, Calls Try.prog 24 #[] w fun e w' => e = .returned (.bool true) ∧ Below w.heap.size w w')) (w : World) :
    Calls Try.prog 5 #[U a, U m] w fun e w' => e = .returned (.bool true) ∧ Below w.heap.size w w' := by
  go_enter Try.func5, Try.ntmps5
  go_wp2_with fail
  refine (h1.out _).mono ?_
  rintro e w1 ⟨rfl, hb1⟩
  obtain ⟨p1, f1, z1⟩ := bcell hb1
  try simp at z1
  have q1_0 : w.heap.size < w1.heap.size := by omega
  have q1_1 : w.heap.size + 1 < w1.heap.size := by omega
  have c1_0_0 : w1.cell? ⟨w.heap.size, 0, none⟩ = some (B (l0 a)) := by rw [p1 _ _ (by first | assumption | omega | (simp; done) | (simp; omega))]; go_simp
  have c1_0_1 : w1.cell? ⟨w.heap.size, 1, none⟩ = some (B (l1 a)) := by rw [p1 _ _ (by first | assumption | omega | (simp; done) | (simp; omega))]; go_simp
  have c1_0_2 : w1.cell? ⟨w.heap.size, 2, none⟩ = some (B (l2 a)) := by rw [p1 _ _ (by first | assumption | omega | (simp; done) | (simp; omega))]; go_simp
  have c1_0_3 : w1.cell? ⟨w.heap.size, 3, none⟩ = some (B (l3 a)) := by rw [p1 _ _ (by first | assumption | omega | (simp; done) | (simp; omega))]; go_simp
  have c1_1_0 : w1.cell? ⟨w.heap.size + 1, 0, none⟩ = some (B (l0 m)) := by rw [p1 _ _ (by first | assumption | omega | (simp; done) | (simp; omega))]; go_simp
  have c1_1_1 : w1.cell? ⟨w.heap.size + 1, 1, none⟩ = some (B (l1 m)) := by rw [p1 _ _ (by first | assumption | omega | (simp; done) | (simp; omega))]; go_simp
  have c1_1_2 : w1.cell? ⟨w.heap.size + 1, 2, none⟩ = some (B (l2 m)) := by rw [p1 _ _ (by first | assumption | omega | (simp; done) | (simp; omega))]; go_simp
  have c1_1_3 : w1.cell? ⟨w.heap.size + 1, 3, none⟩ = some (B (l3 m)) := by rw [p1 _ _ (by first | assumption | omega | (simp; done) | (simp; omega))]; go_simp
  clear p1 f1
  go_wp2_with fail
  refine (ha.out _).mono ?_
  rintro e w2 ⟨rfl, hb2⟩
  obtain ⟨p2, f2, z2⟩ := bcell hb2
  try simp at z2
  have q2_0 : w.heap.size < w2.heap.size := by omega
  have q2_1 : w.heap.size + 1 < w2.heap.size := by omega
  have q2_2 : w1.heap.size < w2.heap.size := by omega
  have c2_0_0 : w2.cell? ⟨w.heap.size, 0, none⟩ = some (B (l0 a)) := by rw [p2 _ _ (by first | assumption | omega | (simp; done) | (simp; omega))]; go_simp
  have c2_0_1 : w2.cell? ⟨w.heap.size, 1, none⟩ = some (B (l1 a)) := by rw [p2 _ _ (by first | assumption | omega | (simp; done) | (simp; omega))]; go_simp
  have c2_0_2 : w2.cell? ⟨w.heap.size, 2, none⟩ = some (B (l2 a)) := by rw [p2 _ _ (by first | assumption | omega | (simp; done) | (simp; omega))]; go_simp
  have c2_0_3 : w2.cell? ⟨w.heap.size, 3, none⟩ = some (B (l3 a)) := by rw [p2 _ _ (by first | assumption | omega | (simp; done) | (simp; omega))]; go_simp
  have c2_1_0 : w2.cell? ⟨w.heap.size + 1, 0, none⟩ = some (B (l0 m)) := by rw [p2 _ _ (by first | assumption | omega | (simp; done) | (simp; omega))]; go_simp
  have c2_1_1 : w2.cell? ⟨w.heap.size + 1, 1, none⟩ = some (B (l1 m)) := by rw [p2 _ _ (by first | assumption | omega | (simp; done) | (simp; omega))]; go_simp
  have c2_1_2 : w2.cell? ⟨w.heap.size + 1, 2, none⟩ = some (B (l2 m)) := by rw [p2 _ _ (by first | assumption | omega | (simp; done) | (simp; omega))]; go_simp
  have c2_1_3 : w2.cell? ⟨w.heap.size + 1, 3, none⟩ = some (B (l3 m)) := by rw [p2 _ _ (by first | assumption | omega | (simp; done) | (simp; omega))]; go_simp
  have c2_2_0 : w2.cell? ⟨w1.heap.size, 0, none⟩ = some (.int .u64 0) := by rw [p2 _ _ (by first | assumption | omega | (simp; done) | (simp; omega))]; go_simp
  have c2_2_1 : w2.cell? ⟨w1.heap.size, 1, none⟩ = some (.int .u64 0) := by rw [p2 _ _ (by first | assumption | omega | (simp; done) | (simp; omega))]; go_simp
  have c2_2_2 : w2.cell? ⟨w1.heap.size, 2, none⟩ = some (.int .u64 0) := by rw [p2 _ _ (by first | assumption | omega | (simp; done) | (simp; omega))]; go_simp
  have c2_2_3 : w2.cell? ⟨w1.heap.size, 3, none⟩ = some (.int .u64 0) := by rw [p2 _ _ (by first | assumption | omega | (simp; done) | (simp; omega))]; go_simp
  clear p2 f2
  clear c1_0_0 c1_0_1 c1_0_2 c1_0_3 c1_1_0 c1_1_1 c1_1_2 c1_1_3
  go_wp2
  go_ret
  exact ⟨rfl, by (repeat (first | exact Below.refl _ _ | apply Below.drew | refine bel_alloc ?_ _ | refine bel_set ?_ (by first | (simp; done) | (simp; omega)) _ | refine bel_call ?_ (by assumption)))⟩

set_option maxRecDepth 100000 in
set_option maxHeartbeats 4000000 in
theorem inverse_yes (a m x h l y q : Nat)
    (h1 : Hid (∀ w, Calls Try.prog 14 #[U a, U m] w fun e w' => e = .returned (.tuple #[U x, .bool true]) ∧ Below w.heap.size w w'))
    (hw : Hid (∀ w, Calls Try.prog 25 #[U a, U x] w fun e w' => e = .returned (.tuple #[U h, U l]) ∧ Below w.heap.size w w'))
    (h2 : Hid (∀ w, Calls Try.prog 14 #[U x, U m] w fun e w' => e = .returned (.tuple #[U y, .bool true]) ∧ Below w.heap.size w w'))
    (hd : Hid (∀ w, Calls Try.prog 10 #[U a, U m] w fun e w' => e = .returned (.tuple #[U q, U y]) ∧ Below w.heap.size w w'))
    (hr : Hid (∀ w, Calls Try.prog 12 #[U h, U l, U m] w fun e w' => e = .returned (I4 1 0 0 0) ∧ Below w.heap.size w w'))
    (hc : Hid (∀ w, Calls Try.prog 26 #[U x, U m] w fun e w' => e = .returned (.int .i64 (-1)) ∧ Below w.heap.size w w'))
    (ha : Hid (∀ w, Calls Try.prog 24 #[] w fun e w' => e = .returned (.bool true) ∧ Below w.heap.size w w')) (w : World) :
    Calls Try.prog 5 #[U a, U m] w fun e w' => e = .returned (.bool true) ∧ Below w.heap.size w w' := by
  go_enter Try.func5, Try.ntmps5
  go_wp2_with fail
  refine (h1.out _).mono ?_
  rintro e w1 ⟨rfl, hb1⟩
  obtain ⟨p1, f1, z1⟩ := bcell hb1
  try simp at z1
  have q1_0 : w.heap.size < w1.heap.size := by omega
  have q1_1 : w.heap.size + 1 < w1.heap.size := by omega
  have c1_0_0 : w1.cell? ⟨w.heap.size, 0, none⟩ = some (B (l0 a)) := by rw [p1 _ _ (by first | assumption | omega | (simp; done) | (simp; omega))]; go_simp
  have c1_0_1 : w1.cell? ⟨w.heap.size, 1, none⟩ = some (B (l1 a)) := by rw [p1 _ _ (by first | assumption | omega | (simp; done) | (simp; omega))]; go_simp
  have c1_0_2 : w1.cell? ⟨w.heap.size, 2, none⟩ = some (B (l2 a)) := by rw [p1 _ _ (by first | assumption | omega | (simp; done) | (simp; omega))]; go_simp
  have c1_0_3 : w1.cell? ⟨w.heap.size, 3, none⟩ = some (B (l3 a)) := by rw [p1 _ _ (by first | assumption | omega | (simp; done) | (simp; omega))]; go_simp
  have c1_1_0 : w1.cell? ⟨w.heap.size + 1, 0, none⟩ = some (B (l0 m)) := by rw [p1 _ _ (by first | assumption | omega | (simp; done) | (simp; omega))]; go_simp
  have c1_1_1 : w1.cell? ⟨w.heap.size + 1, 1, none⟩ = some (B (l1 m)) := by rw [p1 _ _ (by first | assumption | omega | (simp; done) | (simp; omega))]; go_simp
  have c1_1_2 : w1.cell? ⟨w.heap.size + 1, 2, none⟩ = some (B (l2 m)) := by rw [p1 _ _ (by first | assumption | omega | (simp; done) | (simp; omega))]; go_simp
  have c1_1_3 : w1.cell? ⟨w.heap.size + 1, 3, none⟩ = some (B (l3 m)) := by rw [p1 _ _ (by first | assumption | omega | (simp; done) | (simp; omega))]; go_simp
  clear p1 f1
  go_wp2_with fail
  refine (hw.out _).mono ?_
  rintro e w2 ⟨rfl, hb2⟩
  obtain ⟨p2, f2, z2⟩ := bcell hb2
  try simp at z2
  have q2_0 : w.heap.size < w2.heap.size := by omega
  have q2_1 : w.heap.size + 1 < w2.heap.size := by omega
  have q2_2 : w1.heap.size < w2.heap.size := by omega
  have c2_0_0 : w2.cell? ⟨w.heap.size, 0, none⟩ = some (B (l0 a)) := by rw [p2 _ _ (by first | assumption | omega | (simp; done) | (simp; omega))]; go_simp
  have c2_0_1 : w2.cell? ⟨w.heap.size, 1, none⟩ = some (B (l1 a)) := by rw [p2 _ _ (by first | assumption | omega | (simp; done) | (simp; omega))]; go_simp
  have c2_0_2 : w2.cell? ⟨w.heap.size, 2, none⟩ = some (B (l2 a)) := by rw [p2 _ _ (by first | assumption | omega | (simp; done) | (simp; omega))]; go_simp
  have c2_0_3 : w2.cell? ⟨w.heap.size, 3, none⟩ = some (B (l3 a)) := by rw [p2 _ _ (by first | assumption | omega | (simp; done) | (simp; omega))]; go_simp
  have c2_1_0 : w2.cell? ⟨w.heap.size + 1, 0, none⟩ = some (B (l0 m)) := by rw [p2 _ _ (by first | assumption | omega | (simp; done) | (simp; omega))]; go_simp
  have c2_1_1 : w2.cell? ⟨w.heap.size + 1, 1, none⟩ = some (B (l1 m)) := by rw [p2 _ _ (by first | assumption | omega | (simp; done) | (simp; omega))]; go_simp
  have c2_1_2 : w2.cell? ⟨w.heap.size + 1, 2, none⟩ = some (B (l2 m)) := by rw [p2 _ _ (by first | assumption | omega | (simp; done) | (simp; omega))]; go_simp
  have c2_1_3 : w2.cell? ⟨w.heap.size + 1, 3, none⟩ = some (B (l3 m)) := by rw [p2 _ _ (by first | assumption | omega | (simp; done) | (simp; omega))]; go_simp
  have c2_2_0 : w2.cell? ⟨w1.heap.size, 0, none⟩ = some (B (l0 x)) := by rw [p2 _ _ (by first | assumption | omega | (simp; done) | (simp; omega))]; go_simp
  have c2_2_1 : w2.cell? ⟨w1.heap.size, 1, none⟩ = some (B (l1 x)) := by rw [p2 _ _ (by first | assumption | omega | (simp; done) | (simp; omega))]; go_simp
  have c2_2_2 : w2.cell? ⟨w1.heap.size, 2, none⟩ = some (B (l2 x)) := by rw [p2 _ _ (by first | assumption | omega | (simp; done) | (simp; omega))]; go_simp
  have c2_2_3 : w2.cell? ⟨w1.heap.size, 3, none⟩ = some (B (l3 x)) := by rw [p2 _ _ (by first | assumption | omega | (simp; done) | (simp; omega))]; go_simp
  clear p2 f2
  clear c1_0_0 c1_0_1 c1_0_2 c1_0_3 c1_1_0 c1_1_1 c1_1_2 c1_1_3
  go_wp2_with fail
  refine (h2.out _).mono ?_
  rintro e w3 ⟨rfl, hb3⟩
  obtain ⟨p3, f3, z3⟩ := bcell hb3
  try simp at z3
  have q3_0 : w.heap.size < w3.heap.size := by omega
  have q3_1 : w.heap.size + 1 < w3.heap.size := by omega
  have q3_2 : w1.heap.size < w3.heap.size := by omega
  have q3_3 : w2.heap.size < w3.heap.size := by omega
  have q3_4 : w2.heap.size + 1 < w3.heap.size := by omega
  have c3_0_0 : w3.cell? ⟨w.heap.size, 0, none⟩ = some (B (l0 a)) := by rw [p3 _ _ (by first | assumption | omega | (simp; done) | (simp; omega))]; go_simp
  have c3_0_1 : w3.cell? ⟨w.heap.size, 1, none⟩ = some (B (l1 a)) := by rw [p3 _ _ (by first | assumption | omega | (simp; done) | (simp; omega))]; go_simp
  have c3_0_2 : w3.cell? ⟨w.heap.size, 2, none⟩ = some (B (l2 a)) := by rw [p3 _ _ (by first | assumption | omega | (simp; done) | (simp; omega))]; go_simp
  have c3_0_3 : w3.cell? ⟨w.heap.size, 3, none⟩ = some (B (l3 a)) := by rw [p3 _ _ (by first | assumption | omega | (simp; done) | (simp; omega))]; go_simp
  have c3_1_0 : w3.cell? ⟨w.heap.size + 1, 0, none⟩ = some (B (l0 m)) := by rw [p3 _ _ (by first | assumption | omega | (simp; done) | (simp; omega))]; go_simp
  have c3_1_1 : w3.cell? ⟨w.heap.size + 1, 1, none⟩ = some (B (l1 m)) := by rw [p3 _ _ (by first | assumption | omega | (simp; done) | (simp; omega))]; go_simp
  have c3_1_2 : w3.cell? ⟨w.heap.size + 1, 2, none⟩ = some (B (l2 m)) := by rw [p3 _ _ (by first | assumption | omega | (simp; done) | (simp; omega))]; go_simp
  have c3_1_3 : w3.cell? ⟨w.heap.size + 1, 3, none⟩ = some (B (l3 m)) := by rw [p3 _ _ (by first | assumption | omega | (simp; done) | (simp; omega))]; go_simp
  have c3_2_0 : w3.cell? ⟨w1.heap.size, 0, none⟩ = some (B (l0 x)) := by rw [p3 _ _ (by first | assumption | omega | (simp; done) | (simp; omega))]; go_simp
  have c3_2_1 : w3.cell? ⟨w1.heap.size, 1, none⟩ = some (B (l1 x)) := by rw [p3 _ _ (by first | assumption | omega | (simp; done) | (simp; omega))]; go_simp
  have c3_2_2 : w3.cell? ⟨w1.heap.size, 2, none⟩ = some (B (l2 x)) := by rw [p3 _ _ (by first | assumption | omega | (simp; done) | (simp; omega))]; go_simp
  have c3_2_3 : w3.cell? ⟨w1.heap.size, 3, none⟩ = some (B (l3 x)) := by rw [p3 _ _ (by first | assumption | omega | (simp; done) | (simp; omega))]; go_simp
  have c3_3_0 : w3.cell? ⟨w2.heap.size, 0, none⟩ = some (B (l0 h)) := by rw [p3 _ _ (by first | assumption | omega | (simp; done) | (simp; omega))]; go_simp
  have c3_3_1 : w3.cell? ⟨w2.heap.size, 1, none⟩ = some (B (l1 h)) := by rw [p3 _ _ (by first | assumption | omega | (simp; done) | (simp; omega))]; go_simp
  have c3_3_2 : w3.cell? ⟨w2.heap.size, 2, none⟩ = some (B (l2 h)) := by rw [p3 _ _ (by first | assumption | omega | (simp; done) | (simp; omega))]; go_simp
  have c3_3_3 : w3.cell? ⟨w2.heap.size, 3, none⟩ = some (B (l3 h)) := by rw [p3 _ _ (by first | assumption | omega | (simp; done) | (simp; omega))]; go_simp
  have c3_4_0 : w3.cell? ⟨w2.heap.size + 1, 0, none⟩ = some (B (l0 l)) := by rw [p3 _ _ (by first | assumption | omega | (simp; done) | (simp; omega))]; go_simp
  have c3_4_1 : w3.cell? ⟨w2.heap.size + 1, 1, none⟩ = some (B (l1 l)) := by rw [p3 _ _ (by first | assumption | omega | (simp; done) | (simp; omega))]; go_simp
  have c3_4_2 : w3.cell? ⟨w2.heap.size + 1, 2, none⟩ = some (B (l2 l)) := by rw [p3 _ _ (by first | assumption | omega | (simp; done) | (simp; omega))]; go_simp
  have c3_4_3 : w3.cell? ⟨w2.heap.size + 1, 3, none⟩ = some (B (l3 l)) := by rw [p3 _ _ (by first | assumption | omega | (simp; done) | (simp; omega))]; go_simp
  clear p3 f3
  clear c2_0_0 c2_0_1 c2_0_2 c2_0_3 c2_1_0 c2_1_1 c2_1_2 c2_1_3 c2_2_0 c2_2_1 c2_2_2 c2_2_3
  go_wp2_with fail
  refine (hd.out _).mono ?_
  rintro e w4 ⟨rfl, hb4⟩
  obtain ⟨p4, f4, z4⟩ := bcell hb4
  try simp at z4
  have q4_0 : w.heap.size < w4.heap.size := by omega
  have q4_1 : w.heap.size + 1 < w4.heap.size := by omega
  have q4_2 : w1.heap.size < w4.heap.size := by omega
  have q4_3 : w2.heap.size < w4.heap.size := by omega
  have q4_4 : w2.heap.size + 1 < w4.heap.size := by omega
  have q4_5 : w3.heap.size < w4.heap.size := by omega
  have c4_0_0 : w4.cell? ⟨w.heap.size, 0, none⟩ = some (B (l0 a)) := by rw [p4 _ _ (by first | assumption | omega | (simp; done) | (simp; omega))]; go_simp
  have c4_0_1 : w4.cell? ⟨w.heap.size, 1, none⟩ = some (B (l1 a)) := by rw [p4 _ _ (by first | assumption | omega | (simp; done) | (simp; omega))]; go_simp
  have c4_0_2 : w4.cell? ⟨w.heap.size, 2, none⟩ = some (B (l2 a)) := by rw [p4 _ _ (by first | assumption | omega | (simp; done) | (simp; omega))]; go_simp
  have c4_0_3 : w4.cell? ⟨w.heap.size, 3, none⟩ = some (B (l3 a)) := by rw [p4 _ _ (by first | assumption | omega | (simp; done) | (simp; omega))]; go_simp
  have c4_1_0 : w4.cell? ⟨w.heap.size + 1, 0, none⟩ = some (B (l0 m)) := by rw [p4 _ _ (by first | assumption | omega | (simp; done) | (simp; omega))]; go_simp
  have c4_1_1 : w4.cell? ⟨w.heap.size + 1, 1, none⟩ = some (B (l1 m)) := by rw [p4 _ _ (by first | assumption | omega | (simp; done) | (simp; omega))]; go_simp
  have c4_1_2 : w4.cell? ⟨w.heap.size + 1, 2, none⟩ = some (B (l2 m)) := by rw [p4 _ _ (by first | assumption | omega | (simp; done) | (simp; omega))]; go_simp
  have c4_1_3 : w4.cell? ⟨w.heap.size + 1, 3, none⟩ = some (B (l3 m)) := by rw [p4 _ _ (by first | assumption | omega | (simp; done) | (simp; omega))]; go_simp
  have c4_2_0 : w4.cell? ⟨w1.heap.size, 0, none⟩ = some (B (l0 x)) := by rw [p4 _ _ (by first | assumption | omega | (simp; done) | (simp; omega))]; go_simp
  have c4_2_1 : w4.cell? ⟨w1.heap.size, 1, none⟩ = some (B (l1 x)) := by rw [p4 _ _ (by first | assumption | omega | (simp; done) | (simp; omega))]; go_simp
  have c4_2_2 : w4.cell? ⟨w1.heap.size, 2, none⟩ = some (B (l2 x)) := by rw [p4 _ _ (by first | assumption | omega | (simp; done) | (simp; omega))]; go_simp
  have c4_2_3 : w4.cell? ⟨w1.heap.size, 3, none⟩ = some (B (l3 x)) := by rw [p4 _ _ (by first | assumption | omega | (simp; done) | (simp; omega))]; go_simp
  have c4_3_0 : w4.cell? ⟨w2.heap.size, 0, none⟩ = some (B (l0 h)) := by rw [p4 _ _ (by first | assumption | omega | (simp; done) | (simp; omega))]; go_simp
  have c4_3_1 : w4.cell? ⟨w2.heap.size, 1, none⟩ = some (B (l1 h)) := by rw [p4 _ _ (by first | assumption | omega | (simp; done) | (simp; omega))]; go_simp
  have c4_3_2 : w4.cell? ⟨w2.heap.size, 2, none⟩ = some (B (l2 h)) := by rw [p4 _ _ (by first | assumption | omega | (simp; done) | (simp; omega))]; go_simp
  have c4_3_3 : w4.cell? ⟨w2.heap.size, 3, none⟩ = some (B (l3 h)) := by rw [p4 _ _ (by first | assumption | omega | (simp; done) | (simp; omega))]; go_simp
  have c4_4_0 : w4.cell? ⟨w2.heap.size + 1, 0, none⟩ = some (B (l0 l)) := by rw [p4 _ _ (by first | assumption | omega | (simp; done) | (simp; omega))]; go_simp
  have c4_4_1 : w4.cell? ⟨w2.heap.size + 1, 1, none⟩ = some (B (l1 l)) := by rw [p4 _ _ (by first | assumption | omega | (simp; done) | (simp; omega))]; go_simp
  have c4_4_2 : w4.cell? ⟨w2.heap.size + 1, 2, none⟩ = some (B (l2 l)) := by rw [p4 _ _ (by first | assumption | omega | (simp; done) | (simp; omega))]; go_simp
  have c4_4_3 : w4.cell? ⟨w2.heap.size + 1, 3, none⟩ = some (B (l3 l)) := by rw [p4 _ _ (by first | assumption | omega | (simp; done) | (simp; omega))]; go_simp
  have c4_5_0 : w4.cell? ⟨w3.heap.size, 0, none⟩ = some (B (l0 y)) := by rw [p4 _ _ (by first | assumption | omega | (simp; done) | (simp; omega))]; go_simp
  have c4_5_1 : w4.cell? ⟨w3.heap.size, 1, none⟩ = some (B (l1 y)) := by rw [p4 _ _ (by first | assumption | omega | (simp; done) | (simp; omega))]; go_simp
  have c4_5_2 : w4.cell? ⟨w3.heap.size, 2, none⟩ = some (B (l2 y)) := by rw [p4 _ _ (by first | assumption | omega | (simp; done) | (simp; omega))]; go_simp
  have c4_5_3 : w4.cell? ⟨w3.heap.size, 3, none⟩ = some (B (l3 y)) := by rw [p4 _ _ (by first | assumption | omega | (simp; done) | (simp; omega))]; go_simp
  clear p4 f4
  clear c3_0_0 c3_0_1 c3_0_2 c3_0_3 c3_1_0 c3_1_1 c3_1_2 c3_1_3 c3_2_0 c3_2_1 c3_2_2 c3_2_3 c3_3_0 c3_3_1 c3_3_2 c3_3_3 c3_4_0 c3_4_1 c3_4_2 c3_4_3
  go_wp2_with fail
  refine (hr.out _).mono ?_
  rintro e w5 ⟨rfl, hb5⟩
  obtain ⟨p5, f5, z5⟩ := bcell hb5
  try simp at z5
  have q5_0 : w.heap.size < w5.heap.size := by omega
  have q5_1 : w.heap.size + 1 < w5.heap.size := by omega
  have q5_2 : w1.heap.size < w5.heap.size := by omega
  have q5_3 : w2.heap.size < w5.heap.size := by omega
  have q5_4 : w2.heap.size + 1 < w5.heap.size := by omega
  have q5_5 : w3.heap.size < w5.heap.size := by omega
  have q5_6 : w4.heap.size < w5.heap.size := by omega
  have q5_7 : w4.heap.size + 1 < w5.heap.size := by omega
  have c5_0_0 : w5.cell? ⟨w.heap.size, 0, none⟩ = some (B (l0 a)) := by rw [p5 _ _ (by first | assumption | omega | (simp; done) | (simp; omega))]; go_simp
  have c5_0_1 : w5.cell? ⟨w.heap.size, 1, none⟩ = some (B (l1 a)) := by rw [p5 _ _ (by first | assumption | omega | (simp; done) | (simp; omega))]; go_simp
  have c5_0_2 : w5.cell? ⟨w.heap.size, 2, none⟩ = some (B (l2 a)) := by rw [p5 _ _ (by first | assumption | omega | (simp; done) | (simp; omega))]; go_simp
  have c5_0_3 : w5.cell? ⟨w.heap.size, 3, none⟩ = some (B (l3 a)) := by rw [p5 _ _ (by first | assumption | omega | (simp; done) | (simp; omega))]; go_simp
  have c5_1_0 : w5.cell? ⟨w.heap.size + 1, 0, none⟩ = some (B (l0 m)) := by rw [p5 _ _ (by first | assumption | omega | (simp; done) | (simp; omega))]; go_simp
  have c5_1_1 : w5.cell? ⟨w.heap.size + 1, 1, none⟩ = some (B (l1 m)) := by rw [p5 _ _ (by first | assumption | omega | (simp; done) | (simp; omega))]; go_simp
  have c5_1_2 : w5.cell? ⟨w.heap.size + 1, 2, none⟩ = some (B (l2 m)) := by rw [p5 _ _ (by first | assumption | omega | (simp; done) | (simp; omega))]; go_simp
  have c5_1_3 : w5.cell? ⟨w.heap.size + 1, 3, none⟩ = some (B (l3 m)) := by rw [p5 _ _ (by first | assumption | omega | (simp; done) | (simp; omega))]; go_simp
  have c5_2_0 : w5.cell? ⟨w1.heap.size, 0, none⟩ = some (B (l0 x)) := by rw [p5 _ _ (by first | assumption | omega | (simp; done) | (simp; omega))]; go_simp
  have c5_2_1 : w5.cell? ⟨w1.heap.size, 1, none⟩ = some (B (l1 x)) := by rw [p5 _ _ (by first | assumption | omega | (simp; done) | (simp; omega))]; go_simp
  have c5_2_2 : w5.cell? ⟨w1.heap.size, 2, none⟩ = some (B (l2 x)) := by rw [p5 _ _ (by first | assumption | omega | (simp; done) | (simp; omega))]; go_simp
  have c5_2_3 : w5.cell? ⟨w1.heap.size, 3, none⟩ = some (B (l3 x)) := by rw [p5 _ _ (by first | assumption | omega | (simp; done) | (simp; omega))]; go_simp
  have c5_3_0 : w5.cell? ⟨w2.heap.size, 0, none⟩ = some (B (l0 h)) := by rw [p5 _ _ (by first | assumption | omega | (simp; done) | (simp; omega))]; go_simp
  have c5_3_1 : w5.cell? ⟨w2.heap.size, 1, none⟩ = some (B (l1 h)) := by rw [p5 _ _ (by first | assumption | omega | (simp; done) | (simp; omega))]; go_simp
  have c5_3_2 : w5.cell? ⟨w2.heap.size, 2, none⟩ = some (B (l2 h)) := by rw [p5 _ _ (by first | assumption | omega | (simp; done) | (simp; omega))]; go_simp
  have c5_3_3 : w5.cell? ⟨w2.heap.size, 3, none⟩ = some (B (l3 h)) := by rw [p5 _ _ (by first | assumption | omega | (simp; done) | (simp; omega))]; go_simp
  have c5_4_0 : w5.cell? ⟨w2.heap.size + 1, 0, none⟩ = some (B (l0 l)) := by rw [p5 _ _ (by first | assumption | omega | (simp; done) | (simp; omega))]; go_simp
  have c5_4_1 : w5.cell? ⟨w2.heap.size + 1, 1, none⟩ = some (B (l1 l)) := by rw [p5 _ _ (by first | assumption | omega | (simp; done) | (simp; omega))]; go_simp
  have c5_4_2 : w5.cell? ⟨w2.heap.size + 1, 2, none⟩ = some (B (l2 l)) := by rw [p5 _ _ (by first | assumption | omega | (simp; done) | (simp; omega))]; go_simp
  have c5_4_3 : w5.cell? ⟨w2.heap.size + 1, 3, none⟩ = some (B (l3 l)) := by rw [p5 _ _ (by first | assumption | omega | (simp; done) | (simp; omega))]; go_simp
  have c5_5_0 : w5.cell? ⟨w3.heap.size, 0, none⟩ = some (B (l0 y)) := by rw [p5 _ _ (by first | assumption | omega | (simp; done) | (simp; omega))]; go_simp
  have c5_5_1 : w5.cell? ⟨w3.heap.size, 1, none⟩ = some (B (l1 y)) := by rw [p5 _ _ (by first | assumption | omega | (simp; done) | (simp; omega))]; go_simp
  have c5_5_2 : w5.cell? ⟨w3.heap.size, 2, none⟩ = some (B (l2 y)) := by rw [p5 _ _ (by first | assumption | omega | (simp; done) | (simp; omega))]; go_simp
  have c5_5_3 : w5.cell? ⟨w3.heap.size, 3, none⟩ = some (B (l3 y)) := by rw [p5 _ _ (by first | assumption | omega | (simp; done) | (simp; omega))]; go_simp
  have c5_6_0 : w5.cell? ⟨w4.heap.size, 0, none⟩ = some (B (l0 q)) := by rw [p5 _ _ (by first | assumption | omega | (simp; done) | (simp; omega))]; go_simp
  have c5_6_1 : w5.cell? ⟨w4.heap.size, 1, none⟩ = some (B (l1 q)) := by rw [p5 _ _ (by first | assumption | omega | (simp; done) | (simp; omega))]; go_simp
  have c5_6_2 : w5.cell? ⟨w4.heap.size, 2, none⟩ = some (B (l2 q)) := by rw [p5 _ _ (by first | assumption | omega | (simp; done) | (simp; omega))]; go_simp
  have c5_6_3 : w5.cell? ⟨w4.heap.size, 3, none⟩ = some (B (l3 q)) := by rw [p5 _ _ (by first | assumption | omega | (simp; done) | (simp; omega))]; go_simp
  have c5_7_0 : w5.cell? ⟨w4.heap.size + 1, 0, none⟩ = some (B (l0 y)) := by rw [p5 _ _ (by first | assumption | omega | (simp; done) | (simp; omega))]; go_simp
  have c5_7_1 : w5.cell? ⟨w4.heap.size + 1, 1, none⟩ = some (B (l1 y)) := by rw [p5 _ _ (by first | assumption | omega | (simp; done) | (simp; omega))]; go_simp
  have c5_7_2 : w5.cell? ⟨w4.heap.size + 1, 2, none⟩ = some (B (l2 y)) := by rw [p5 _ _ (by first | assumption | omega | (simp; done) | (simp; omega))]; go_simp
  have c5_7_3 : w5.cell? ⟨w4.heap.size + 1, 3, none⟩ = some (B (l3 y)) := by rw [p5 _ _ (by first | assumption | omega | (simp; done) | (simp; omega))]; go_simp
  clear p5 f5
  clear c4_0_0 c4_0_1 c4_0_2 c4_0_3 c4_1_0 c4_1_1 c4_1_2 c4_1_3 c4_2_0 c4_2_1 c4_2_2 c4_2_3 c4_3_0 c4_3_1 c4_3_2 c4_3_3 c4_4_0 c4_4_1 c4_4_2 c4_4_3 c4_5_0 c4_5_1 c4_5_2 c4_5_3
  go_wp2_with fail
  refine (hc.out _).mono ?_
  rintro e w6 ⟨rfl, hb6⟩
  obtain ⟨p6, f6, z6⟩ := bcell hb6
  try simp at z6
  have q6_0 : w.heap.size < w6.heap.size := by omega
  have q6_1 : w.heap.size + 1 < w6.heap.size := by omega
  have q6_2 : w1.heap.size < w6.heap.size := by omega
  have q6_3 : w2.heap.size < w6.heap.size := by omega
  have q6_4 : w2.heap.size + 1 < w6.heap.size := by omega
  have q6_5 : w3.heap.size < w6.heap.size := by omega
  have q6_6 : w4.heap.size < w6.heap.size := by omega
  have q6_7 : w4.heap.size + 1 < w6.heap.size := by omega
  have c6_0_0 : w6.cell? ⟨w.heap.size, 0, none⟩ = some (B (l0 a)) := by rw [p6 _ _ (by first | assumption | omega | (simp; done) | (simp; omega))]; go_simp
  have c6_0_1 : w6.cell? ⟨w.heap.size, 1, none⟩ = some (B (l1 a)) := by rw [p6 _ _ (by first | assumption | omega | (simp; done) | (simp; omega))]; go_simp
  have c6_0_2 : w6.cell? ⟨w.heap.size, 2, none⟩ = some (B (l2 a)) := by rw [p6 _ _ (by first | assumption | omega | (simp; done) | (simp; omega))]; go_simp
  have c6_0_3 : w6.cell? ⟨w.heap.size, 3, none⟩ = some (B (l3 a)) := by rw [p6 _ _ (by first | assumption | omega | (simp; done) | (simp; omega))]; go_simp
  have c6_1_0 : w6.cell? ⟨w.heap.size + 1, 0, none⟩ = some (B (l0 m)) := by rw [p6 _ _ (by first | assumption | omega | (simp; done) | (simp; omega))]; go_simp
  have c6_1_1 : w6.cell? ⟨w.heap.size + 1, 1, none⟩ = some (B (l1 m)) := by rw [p6 _ _ (by first | assumption | omega | (simp; done) | (simp; omega))]; go_simp
  have c6_1_2 : w6.cell? ⟨w.heap.size + 1, 2, none⟩ = some (B (l2 m)) := by rw [p6 _ _ (by first | assumption | omega | (simp; done) | (simp; omega))]; go_simp
  have c6_1_3 : w6.cell? ⟨w.heap.size + 1, 3, none⟩ = some (B (l3 m)) := by rw [p6 _ _ (by first | assumption | omega | (simp; done) | (simp; omega))]; go_simp
  have c6_2_0 : w6.cell? ⟨w1.heap.size, 0, none⟩ = some (B (l0 x)) := by rw [p6 _ _ (by first | assumption | omega | (simp; done) | (simp; omega))]; go_simp
  have c6_2_1 : w6.cell? ⟨w1.heap.size, 1, none⟩ = some (B (l1 x)) := by rw [p6 _ _ (by first | assumption | omega | (simp; done) | (simp; omega))]; go_simp
  have c6_2_2 : w6.cell? ⟨w1.heap.size, 2, none⟩ = some (B (l2 x)) := by rw [p6 _ _ (by first | assumption | omega | (simp; done) | (simp; omega))]; go_simp
  have c6_2_3 : w6.cell? ⟨w1.heap.size, 3, none⟩ = some (B (l3 x)) := by rw [p6 _ _ (by first | assumption | omega | (simp; done) | (simp; omega))]; go_simp
  have c6_3_0 : w6.cell? ⟨w2.heap.size, 0, none⟩ = some (B (l0 h)) := by rw [p6 _ _ (by first | assumption | omega | (simp; done) | (simp; omega))]; go_simp
  have c6_3_1 : w6.cell? ⟨w2.heap.size, 1, none⟩ = some (B (l1 h)) := by rw [p6 _ _ (by first | assumption | omega | (simp; done) | (simp; omega))]; go_simp
  have c6_3_2 : w6.cell? ⟨w2.heap.size, 2, none⟩ = some (B (l2 h)) := by rw [p6 _ _ (by first | assumption | omega | (simp; done) | (simp; omega))]; go_simp
  have c6_3_3 : w6.cell? ⟨w2.heap.size, 3, none⟩ = some (B (l3 h)) := by rw [p6 _ _ (by first | assumption | omega | (simp; done) | (simp; omega))]; go_simp
  have c6_4_0 : w6.cell? ⟨w2.heap.size + 1, 0, none⟩ = some (B (l0 l)) := by rw [p6 _ _ (by first | assumption | omega | (simp; done) | (simp; omega))]; go_simp
  have c6_4_1 : w6.cell? ⟨w2.heap.size + 1, 1, none⟩ = some (B (l1 l)) := by rw [p6 _ _ (by first | assumption | omega | (simp; done) | (simp; omega))]; go_simp
  have c6_4_2 : w6.cell? ⟨w2.heap.size + 1, 2, none⟩ = some (B (l2 l)) := by rw [p6 _ _ (by first | assumption | omega | (simp; done) | (simp; omega))]; go_simp
  have c6_4_3 : w6.cell? ⟨w2.heap.size + 1, 3, none⟩ = some (B (l3 l)) := by rw [p6 _ _ (by first | assumption | omega | (simp; done) | (simp; omega))]; go_simp
  have c6_5_0 : w6.cell? ⟨w3.heap.size, 0, none⟩ = some (B (l0 y)) := by rw [p6 _ _ (by first | assumption | omega | (simp; done) | (simp; omega))]; go_simp
  have c6_5_1 : w6.cell? ⟨w3.heap.size, 1, none⟩ = some (B (l1 y)) := by rw [p6 _ _ (by first | assumption | omega | (simp; done) | (simp; omega))]; go_simp
  have c6_5_2 : w6.cell? ⟨w3.heap.size, 2, none⟩ = some (B (l2 y)) := by rw [p6 _ _ (by first | assumption | omega | (simp; done) | (simp; omega))]; go_simp
  have c6_5_3 : w6.cell? ⟨w3.heap.size, 3, none⟩ = some (B (l3 y)) := by rw [p6 _ _ (by first | assumption | omega | (simp; done) | (simp; omega))]; go_simp
  have c6_6_0 : w6.cell? ⟨w4.heap.size, 0, none⟩ = some (B (l0 q)) := by rw [p6 _ _ (by first | assumption | omega | (simp; done) | (simp; omega))]; go_simp
  have c6_6_1 : w6.cell? ⟨w4.heap.size, 1, none⟩ = some (B (l1 q)) := by rw [p6 _ _ (by first | assumption | omega | (simp; done) | (simp; omega))]; go_simp
  have c6_6_2 : w6.cell? ⟨w4.heap.size, 2, none⟩ = some (B (l2 q)) := by rw [p6 _ _ (by first | assumption | omega | (simp; done) | (simp; omega))]; go_simp
  have c6_6_3 : w6.cell? ⟨w4.heap.size, 3, none⟩ = some (B (l3 q)) := by rw [p6 _ _ (by first | assumption | omega | (simp; done) | (simp; omega))]; go_simp
  have c6_7_0 : w6.cell? ⟨w4.heap.size + 1, 0, none⟩ = some (B (l0 y)) := by rw [p6 _ _ (by first | assumption | omega | (simp; done) | (simp; omega))]; go_simp
  have c6_7_1 : w6.cell? ⟨w4.heap.size + 1, 1, none⟩ = some (B (l1 y)) := by rw [p6 _ _ (by first | assumption | omega | (simp; done) | (simp; omega))]; go_simp
  have c6_7_2 : w6.cell? ⟨w4.heap.size + 1, 2, none⟩ = some (B (l2 y)) := by rw [p6 _ _ (by first | assumption | omega | (simp; done) | (simp; omega))]; go_simp
  have c6_7_3 : w6.cell? ⟨w4.heap.size + 1, 3, none⟩ = some (B (l3 y)) := by rw [p6 _ _ (by first | assumption | omega | (simp; done) | (simp; omega))]; go_simp
  clear p6 f6
  clear c5_0_0 c5_0_1 c5_0_2 c5_0_3 c5_1_0 c5_1_1 c5_1_2 c5_1_3 c5_2_0 c5_2_1 c5_2_2 c5_2_3 c5_3_0 c5_3_1 c5_3_2 c5_3_3 c5_4_0 c5_4_1 c5_4_2 c5_4_3 c5_5_0 c5_5_1 c5_5_2 c5_5_3 c5_6_0 c5_6_1 c5_6_2 c5_6_3 c5_7_0 c5_7_1 c5_7_2 c5_7_3
  go_wp2_with fail
  refine (ha.out _).mono ?_
  rintro e w7 ⟨rfl, hb7⟩
  obtain ⟨p7, f7, z7⟩ := bcell hb7
  try simp at z7
  have q7_0 : w.heap.size < w7.heap.size := by omega
  have q7_1 : w.heap.size + 1 < w7.heap.size := by omega
  have q7_2 : w1.heap.size < w7.heap.size := by omega
  have q7_3 : w2.heap.size < w7.heap.size := by omega
  have q7_4 : w2.heap.size + 1 < w7.heap.size := by omega
  have q7_5 : w3.heap.size < w7.heap.size := by omega
  have q7_6 : w4.heap.size < w7.heap.size := by omega
  have q7_7 : w4.heap.size + 1 < w7.heap.size := by omega
  have c7_0_0 : w7.cell? ⟨w.heap.size, 0, none⟩ = some (B (l0 a)) := by rw [p7 _ _ (by first | assumption | omega | (simp; done) | (simp; omega))]; go_simp
  have c7_0_1 : w7.cell? ⟨w.heap.size, 1, none⟩ = some (B (l1 a)) := by rw [p7 _ _ (by first | assumption | omega | (simp; done) | (simp; omega))]; go_simp
  have c7_0_2 : w7.cell? ⟨w.heap.size, 2, none⟩ = some (B (l2 a)) := by rw [p7 _ _ (by first | assumption | omega | (simp; done) | (simp; omega))]; go_simp
  have c7_0_3 : w7.cell? ⟨w.heap.size, 3, none⟩ = some (B (l3 a)) := by rw [p7 _ _ (by first | assumption | omega | (simp; done) | (simp; omega))]; go_simp
  have c7_1_0 : w7.cell? ⟨w.heap.size + 1, 0, none⟩ = some (B (l0 m)) := by rw [p7 _ _ (by first | assumption | omega | (simp; done) | (simp; omega))]; go_simp
  have c7_1_1 : w7.cell? ⟨w.heap.size + 1, 1, none⟩ = some (B (l1 m)) := by rw [p7 _ _ (by first | assumption | omega | (simp; done) | (simp; omega))]; go_simp
  have c7_1_2 : w7.cell? ⟨w.heap.size + 1, 2, none⟩ = some (B (l2 m)) := by rw [p7 _ _ (by first | assumption | omega | (simp; done) | (simp; omega))]; go_simp
  have c7_1_3 : w7.cell? ⟨w.heap.size + 1, 3, none⟩ = some (B (l3 m)) := by rw [p7 _ _ (by first | assumption | omega | (simp; done) | (simp; omega))]; go_simp
  have c7_2_0 : w7.cell? ⟨w1.heap.size, 0, none⟩ = some (B (l0 x)) := by rw [p7 _ _ (by first | assumption | omega | (simp; done) | (simp; omega))]; go_simp
  have c7_2_1 : w7.cell? ⟨w1.heap.size, 1, none⟩ = some (B (l1 x)) := by rw [p7 _ _ (by first | assumption | omega | (simp; done) | (simp; omega))]; go_simp
  have c7_2_2 : w7.cell? ⟨w1.heap.size, 2, none⟩ = some (B (l2 x)) := by rw [p7 _ _ (by first | assumption | omega | (simp; done) | (simp; omega))]; go_simp
  have c7_2_3 : w7.cell? ⟨w1.heap.size, 3, none⟩ = some (B (l3 x)) := by rw [p7 _ _ (by first | assumption | omega | (simp; done) | (simp; omega))]; go_simp
  have c7_3_0 : w7.cell? ⟨w2.heap.size, 0, none⟩ = some (B (l0 h)) := by rw [p7 _ _ (by first | assumption | omega | (simp; done) | (simp; omega))]; go_simp
  have c7_3_1 : w7.cell? ⟨w2.heap.size, 1, none⟩ = some (B (l1 h)) := by rw [p7 _ _ (by first | assumption | omega | (simp; done) | (simp; omega))]; go_simp
  have c7_3_2 : w7.cell? ⟨w2.heap.size, 2, none⟩ = some (B (l2 h)) := by rw [p7 _ _ (by first | assumption | omega | (simp; done) | (simp; omega))]; go_simp
  have c7_3_3 : w7.cell? ⟨w2.heap.size, 3, none⟩ = some (B (l3 h)) := by rw [p7 _ _ (by first | assumption | omega | (simp; done) | (simp; omega))]; go_simp
  have c7_4_0 : w7.cell? ⟨w2.heap.size + 1, 0, none⟩ = some (B (l0 l)) := by rw [p7 _ _ (by first | assumption | omega | (simp; done) | (simp; omega))]; go_simp
  have c7_4_1 : w7.cell? ⟨w2.heap.size + 1, 1, none⟩ = some (B (l1 l)) := by rw [p7 _ _ (by first | assumption | omega | (simp; done) | (simp; omega))]; go_simp
  have c7_4_2 : w7.cell? ⟨w2.heap.size + 1, 2, none⟩ = some (B (l2 l)) := by rw [p7 _ _ (by first | assumption | omega | (simp; done) | (simp; omega))]; go_simp
  have c7_4_3 : w7.cell? ⟨w2.heap.size + 1, 3, none⟩ = some (B (l3 l)) := by rw [p7 _ _ (by first | assumption | omega | (simp; done) | (simp; omega))]; go_simp
  have c7_5_0 : w7.cell? ⟨w3.heap.size, 0, none⟩ = some (B (l0 y)) := by rw [p7 _ _ (by first | assumption | omega | (simp; done) | (simp; omega))]; go_simp
  have c7_5_1 : w7.cell? ⟨w3.heap.size, 1, none⟩ = some (B (l1 y)) := by rw [p7 _ _ (by first | assumption | omega | (simp; done) | (simp; omega))]; go_simp
  have c7_5_2 : w7.cell? ⟨w3.heap.size, 2, none⟩ = some (B (l2 y)) := by rw [p7 _ _ (by first | assumption | omega | (simp; done) | (simp; omega))]; go_simp
  have c7_5_3 : w7.cell? ⟨w3.heap.size, 3, none⟩ = some (B (l3 y)) := by rw [p7 _ _ (by first | assumption | omega | (simp; done) | (simp; omega))]; go_simp
  have c7_6_0 : w7.cell? ⟨w4.heap.size, 0, none⟩ = some (B (l0 q)) := by rw [p7 _ _ (by first | assumption | omega | (simp; done) | (simp; omega))]; go_simp
  have c7_6_1 : w7.cell? ⟨w4.heap.size, 1, none⟩ = some (B (l1 q)) := by rw [p7 _ _ (by first | assumption | omega | (simp; done) | (simp; omega))]; go_simp
  have c7_6_2 : w7.cell? ⟨w4.heap.size, 2, none⟩ = some (B (l2 q)) := by rw [p7 _ _ (by first | assumption | omega | (simp; done) | (simp; omega))]; go_simp
  have c7_6_3 : w7.cell? ⟨w4.heap.size, 3, none⟩ = some (B (l3 q)) := by rw [p7 _ _ (by first | assumption | omega | (simp; done) | (simp; omega))]; go_simp
  have c7_7_0 : w7.cell? ⟨w4.heap.size + 1, 0, none⟩ = some (B (l0 y)) := by rw [p7 _ _ (by first | assumption | omega | (simp; done) | (simp; omega))]; go_simp
  have c7_7_1 : w7.cell? ⟨w4.heap.size + 1, 1, none⟩ = some (B (l1 y)) := by rw [p7 _ _ (by first | assumption | omega | (simp; done) | (simp; omega))]; go_simp
  have c7_7_2 : w7.cell? ⟨w4.heap.size + 1, 2, none⟩ = some (B (l2 y)) := by rw [p7 _ _ (by first | assumption | omega | (simp; done) | (simp; omega))]; go_simp
  have c7_7_3 : w7.cell? ⟨w4.heap.size + 1, 3, none⟩ = some (B (l3 y)) := by rw [p7 _ _ (by first | assumption | omega | (simp; done) | (simp; omega))]; go_simp
  clear p7 f7
  clear c6_0_0 c6_0_1 c6_0_2 c6_0_3 c6_1_0 c6_1_1 c6_1_2 c6_1_3 c6_2_0 c6_2_1 c6_2_2 c6_2_3 c6_3_0 c6_3_1 c6_3_2 c6_3_3 c6_4_0 c6_4_1 c6_4_2 c6_4_3 c6_5_0 c6_5_1 c6_5_2 c6_5_3 c6_6_0 c6_6_1 c6_6_2 c6_6_3 c6_7_0 c6_7_1 c6_7_2 c6_7_3
  go_wp2
  go_ret
  exact ⟨rfl, by (repeat (first | exact Below.refl _ _ | apply Below.drew | refine bel_alloc ?_ _ | refine bel_set ?_ (by first | (simp; done) | (simp; omega)) _ | refine bel_call ?_ (by assumption)))⟩

theorem inverse_walk (a m : Nat) (ha : a < W) (hm : m < W) (w : World) : Calls Try.prog 5 #[U a, U m] w fun e w' => e = .returned (.bool true) ∧ Below w.heap.size w w' := by
  by_cases hx : ∃ x, IV a m x true
  · obtain ⟨x, hI⟩ := hx
    obtain ⟨h1, hxm, hax⟩ := hI.yes rfl
    have hxW : x < W := Nat.lt_trans hxm hm
    have hd := Nat.div_add_mod (a * x) W
    have hI2 : IV x m (a % m) true := ⟨fun _ => ⟨h1, Nat.mod_lt _ (by omega), by rw [Nat.mul_mod_mod, Nat.mul_comm]; exact hax⟩, fun h => by cases h⟩
    have e0 : dr 0 a m = a % m := by unfold dr; rw [if_neg (by omega), Nat.zero_mul, Nat.zero_add]
    refine inverse_yes a m x (a * x / W) (a * x % W) (a % m) (a / m) (inv_fixed a m x true ha hm hI) (rwide_any a x ha hxW) (inv_fixed x m (a % m) true hxW hm hI2) (fun w => ?_) (fun w => ?_) (fun w => ?_) awake3_any w
    · have h := rdiv_any a m ha hm w
      rw [e0] at h
      exact h
    · have h := rrest_any (a * x / W) (a * x % W) m (Nat.div_lt_of_lt_mul (Nat.mul_lt_mul'' ha hxW)) (Nat.mod_lt _ W_pos) hm w
      have e : dr (a * x / W) (a * x % W) m = 1 := by
        unfold dr
        rw [if_neg (by omega), Nat.mul_comm (a * x / W), hd]; exact hax
      rw [e, U_1] at h
      exact h
    · have h := rcmp_any x m hxW hm w
      have e : cmpN x m = -1 := by unfold cmpN; rw [if_pos hxm]
      rw [e] at h
      exact h
  · refine inverse_no a m (fun w => ?_) awake3_any w
    refine (inv_any a m ha hm w).mono ?_
    rintro e w' ⟨⟨y, q, hY, _, rfl⟩, hb⟩
    cases q
    · rw [(hY.no rfl).1, U_zero]
      exact ⟨rfl, hb⟩
    · exact absurd ⟨y, hY⟩ hx
end Go.Proofs.Ytillbhdcnhcbhaa
