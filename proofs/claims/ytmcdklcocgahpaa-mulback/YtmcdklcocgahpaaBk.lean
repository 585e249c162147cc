/- The law MulBack, walked. -/
import Derived.Test.YtmcdklcocgahpaaAw
import Derived.Lib.QuietBelow
import Derived.BigQuiet
namespace Go.Proofs.Ytmcdklcocgahpaa
open Go.RowKit Go.Sort
set_option linter.unusedVariables false
attribute [local go_sem] run_eq4 run_eqU_same

set_option maxRecDepth 100000 in
set_option maxHeartbeats 4000000 in
theorem back_zero (a : Nat)
    (hd : Hid (∀ w, Calls Try.prog 13 #[U a, I4 0 0 0 0] w fun e w' => e = .returned (.tuple #[I4 0 0 0 0, I4 0 0 0 0]) ∧ Below w.heap.size w w'))
    (ha : Hid (∀ w, Calls Try.prog 12 #[] w fun e w' => e = .returned (.bool true) ∧ Below w.heap.size w w')) (w : World) :
    Calls Try.prog 5 #[U a, I4 0 0 0 0] w fun e w' => e = .returned (.bool true) ∧ Below w.heap.size w w' := by
  go_enter Try.func5, Try.ntmps5
  go_wp2_with fail
  refine (hd.out _).mono ?_
  rintro e w1 ⟨rfl, hb1⟩
  obtain ⟨p1, f1, z1⟩ := bcell hb1
  try simp at z1
  have q1_0 : w.heap.size < w1.heap.size := by omega
  have q1_1 : w.heap.size + 1 < w1.heap.size := by omega
  have c1_0_0 : w1.cell? ⟨w.heap.size, 0, none⟩ = some (B (l0 a)) := by rw [p1 _ _ (by first | assumption | omega | (simp; done) | (simp; omega))]; go_simp
  have c1_0_1 : w1.cell? ⟨w.heap.size, 1, none⟩ = some (B (l1 a)) := by rw [p1 _ _ (by first | assumption | omega | (simp; done) | (simp; omega))]; go_simp
  have c1_0_2 : w1.cell? ⟨w.heap.size, 2, none⟩ = some (B (l2 a)) := by rw [p1 _ _ (by first | assumption | omega | (simp; done) | (simp; omega))]; go_simp
  have c1_0_3 : w1.cell? ⟨w.heap.size, 3, none⟩ = some (B (l3 a)) := by rw [p1 _ _ (by first | assumption | omega | (simp; done) | (simp; omega))]; go_simp
  have c1_1_0 : w1.cell? ⟨w.heap.size + 1, 0, none⟩ = some (.int .u64 0) := by rw [p1 _ _ (by first | assumption | omega | (simp; done) | (simp; omega))]; go_simp
  have c1_1_1 : w1.cell? ⟨w.heap.size + 1, 1, none⟩ = some (.int .u64 0) := by rw [p1 _ _ (by first | assumption | omega | (simp; done) | (simp; omega))]; go_simp
  have c1_1_2 : w1.cell? ⟨w.heap.size + 1, 2, none⟩ = some (.int .u64 0) := by rw [p1 _ _ (by first | assumption | omega | (simp; done) | (simp; omega))]; go_simp
  have c1_1_3 : w1.cell? ⟨w.heap.size + 1, 3, none⟩ = some (.int .u64 0) := by rw [p1 _ _ (by first | assumption | omega | (simp; done) | (simp; omega))]; go_simp
  clear p1 f1
  go_wp2_with fail
  refine (ha.out _).mono ?_
  rintro e w2 ⟨rfl, hb2⟩
  obtain ⟨p2, f2, z2⟩ := bcell hb2
  try simp at z2
  have q2_0 : w.heap.size < w2.heap.size := by omega
  have q2_1 : w.heap.size + 1 < w2.heap.size := by omega
  have q2_2 : w1.heap.size < w2.heap.size := by omega
  have q2_3 : w1.heap.size + 1 < w2.heap.size := by omega
  have c2_0_0 : w2.cell? ⟨w.heap.size, 0, none⟩ = some (B (l0 a)) := by rw [p2 _ _ (by first | assumption | omega | (simp; done) | (simp; omega))]; go_simp
  have c2_0_1 : w2.cell? ⟨w.heap.size, 1, none⟩ = some (B (l1 a)) := by rw [p2 _ _ (by first | assumption | omega | (simp; done) | (simp; omega))]; go_simp
  have c2_0_2 : w2.cell? ⟨w.heap.size, 2, none⟩ = some (B (l2 a)) := by rw [p2 _ _ (by first | assumption | omega | (simp; done) | (simp; omega))]; go_simp
  have c2_0_3 : w2.cell? ⟨w.heap.size, 3, none⟩ = some (B (l3 a)) := by rw [p2 _ _ (by first | assumption | omega | (simp; done) | (simp; omega))]; go_simp
  have c2_1_0 : w2.cell? ⟨w.heap.size + 1, 0, none⟩ = some (.int .u64 0) := by rw [p2 _ _ (by first | assumption | omega | (simp; done) | (simp; omega))]; go_simp
  have c2_1_1 : w2.cell? ⟨w.heap.size + 1, 1, none⟩ = some (.int .u64 0) := by rw [p2 _ _ (by first | assumption | omega | (simp; done) | (simp; omega))]; go_simp
  have c2_1_2 : w2.cell? ⟨w.heap.size + 1, 2, none⟩ = some (.int .u64 0) := by rw [p2 _ _ (by first | assumption | omega | (simp; done) | (simp; omega))]; go_simp
  have c2_1_3 : w2.cell? ⟨w.heap.size + 1, 3, none⟩ = some (.int .u64 0) := by rw [p2 _ _ (by first | assumption | omega | (simp; done) | (simp; omega))]; go_simp
  have c2_2_0 : w2.cell? ⟨w1.heap.size, 0, none⟩ = some (.int .u64 0) := by rw [p2 _ _ (by first | assumption | omega | (simp; done) | (simp; omega))]; go_simp
  have c2_2_1 : w2.cell? ⟨w1.heap.size, 1, none⟩ = some (.int .u64 0) := by rw [p2 _ _ (by first | assumption | omega | (simp; done) | (simp; omega))]; go_simp
  have c2_2_2 : w2.cell? ⟨w1.heap.size, 2, none⟩ = some (.int .u64 0) := by rw [p2 _ _ (by first | assumption | omega | (simp; done) | (simp; omega))]; go_simp
  have c2_2_3 : w2.cell? ⟨w1.heap.size, 3, none⟩ = some (.int .u64 0) := by rw [p2 _ _ (by first | assumption | omega | (simp; done) | (simp; omega))]; go_simp
  have c2_3_0 : w2.cell? ⟨w1.heap.size + 1, 0, none⟩ = some (.int .u64 0) := by rw [p2 _ _ (by first | assumption | omega | (simp; done) | (simp; omega))]; go_simp
  have c2_3_1 : w2.cell? ⟨w1.heap.size + 1, 1, none⟩ = some (.int .u64 0) := by rw [p2 _ _ (by first | assumption | omega | (simp; done) | (simp; omega))]; go_simp
  have c2_3_2 : w2.cell? ⟨w1.heap.size + 1, 2, none⟩ = some (.int .u64 0) := by rw [p2 _ _ (by first | assumption | omega | (simp; done) | (simp; omega))]; go_simp
  have c2_3_3 : w2.cell? ⟨w1.heap.size + 1, 3, none⟩ = some (.int .u64 0) := by rw [p2 _ _ (by first | assumption | omega | (simp; done) | (simp; omega))]; go_simp
  clear p2 f2
  clear c1_0_0 c1_0_1 c1_0_2 c1_0_3 c1_1_0 c1_1_1 c1_1_2 c1_1_3
  go_wp2
  go_ret
  exact ⟨rfl, by (repeat (first | exact Below.refl _ _ | apply Below.drew | refine bel_alloc ?_ _ | refine bel_set ?_ (by first | (simp; done) | (simp; omega)) _ | refine bel_call ?_ (by assumption)))⟩

set_option maxRecDepth 100000 in
set_option maxHeartbeats 4000000 in
theorem back_gen (a b q r l : Nat)
    (hd : Hid (∀ w, Calls Try.prog 13 #[U a, U b] w fun e w' => e = .returned (.tuple #[U q, U r]) ∧ Below w.heap.size w w'))
    (hw : Hid (∀ w, Calls Try.prog 8 #[U q, U b] w fun e w' => e = .returned (.tuple #[I4 0 0 0 0, U l]) ∧ Below w.heap.size w w'))
    (hs : Hid (∀ w, Calls Try.prog 17 #[U l, U r] w fun e w' => e = .returned (.tuple #[U a, .bool false]) ∧ Below w.heap.size w w'))
    (hc : Hid (∀ w, Calls Try.prog 18 #[U r, U b] w fun e w' => e = .returned (.int .i64 (-1)) ∧ Below w.heap.size w w'))
    (ha : Hid (∀ w, Calls Try.prog 12 #[] w fun e w' => e = .returned (.bool true) ∧ Below w.heap.size w w'))
    (hb : ∀ w, (Op.equalIn 10000 24 (U b) (I4 0 0 0 0)).run Try.prog w = .ok false w) (w : World) :
    Calls Try.prog 5 #[U a, U b] w fun e w' => e = .returned (.bool true) ∧ Below w.heap.size w w' := by
  go_enter Try.func5, Try.ntmps5
  go_wp2_with fail
  refine (hd.out _).mono ?_
  rintro e w1 ⟨rfl, hb1⟩
  obtain ⟨p1, f1, z1⟩ := bcell hb1
  try simp at z1
  have q1_0 : w.heap.size < w1.heap.size := by omega
  have q1_1 : w.heap.size + 1 < w1.heap.size := by omega
  have c1_0_0 : w1.cell? ⟨w.heap.size, 0, none⟩ = some (B (l0 a)) := by rw [p1 _ _ (by first | assumption | omega | (simp; done) | (simp; omega))]; go_simp
  have c1_0_1 : w1.cell? ⟨w.heap.size, 1, none⟩ = some (B (l1 a)) := by rw [p1 _ _ (by first | assumption | omega | (simp; done) | (simp; omega))]; go_simp
  have c1_0_2 : w1.cell? ⟨w.heap.size, 2, none⟩ = some (B (l2 a)) := by rw [p1 _ _ (by first | assumption | omega | (simp; done) | (simp; omega))]; go_simp
  have c1_0_3 : w1.cell? ⟨w.heap.size, 3, none⟩ = some (B (l3 a)) := by rw [p1 _ _ (by first | assumption | omega | (simp; done) | (simp; omega))]; go_simp
  have c1_1_0 : w1.cell? ⟨w.heap.size + 1, 0, none⟩ = some (B (l0 b)) := by rw [p1 _ _ (by first | assumption | omega | (simp; done) | (simp; omega))]; go_simp
  have c1_1_1 : w1.cell? ⟨w.heap.size + 1, 1, none⟩ = some (B (l1 b)) := by rw [p1 _ _ (by first | assumption | omega | (simp; done) | (simp; omega))]; go_simp
  have c1_1_2 : w1.cell? ⟨w.heap.size + 1, 2, none⟩ = some (B (l2 b)) := by rw [p1 _ _ (by first | assumption | omega | (simp; done) | (simp; omega))]; go_simp
  have c1_1_3 : w1.cell? ⟨w.heap.size + 1, 3, none⟩ = some (B (l3 b)) := by rw [p1 _ _ (by first | assumption | omega | (simp; done) | (simp; omega))]; go_simp
  clear p1 f1
  go_wp2_with fail
  refine (hw.out _).mono ?_
  rintro e w2 ⟨rfl, hb2⟩
  obtain ⟨p2, f2, z2⟩ := bcell hb2
  try simp at z2
  have q2_0 : w.heap.size < w2.heap.size := by omega
  have q2_1 : w.heap.size + 1 < w2.heap.size := by omega
  have q2_2 : w1.heap.size < w2.heap.size := by omega
  have q2_3 : w1.heap.size + 1 < w2.heap.size := by omega
  have c2_0_0 : w2.cell? ⟨w.heap.size, 0, none⟩ = some (B (l0 a)) := by rw [p2 _ _ (by first | assumption | omega | (simp; done) | (simp; omega))]; go_simp
  have c2_0_1 : w2.cell? ⟨w.heap.size, 1, none⟩ = some (B (l1 a)) := by rw [p2 _ _ (by first | assumption | omega | (simp; done) | (simp; omega))]; go_simp
  have c2_0_2 : w2.cell? ⟨w.heap.size, 2, none⟩ = some (B (l2 a)) := by rw [p2 _ _ (by first | assumption | omega | (simp; done) | (simp; omega))]; go_simp
  have c2_0_3 : w2.cell? ⟨w.heap.size, 3, none⟩ = some (B (l3 a)) := by rw [p2 _ _ (by first | assumption | omega | (simp; done) | (simp; omega))]; go_simp
  have c2_1_0 : w2.cell? ⟨w.heap.size + 1, 0, none⟩ = some (B (l0 b)) := by rw [p2 _ _ (by first | assumption | omega | (simp; done) | (simp; omega))]; go_simp
  have c2_1_1 : w2.cell? ⟨w.heap.size + 1, 1, none⟩ = some (B (l1 b)) := by rw [p2 _ _ (by first | assumption | omega | (simp; done) | (simp; omega))]; go_simp
  have c2_1_2 : w2.cell? ⟨w.heap.size + 1, 2, none⟩ = some (B (l2 b)) := by rw [p2 _ _ (by first | assumption | omega | (simp; done) | (simp; omega))]; go_simp
  have c2_1_3 : w2.cell? ⟨w.heap.size + 1, 3, none⟩ = some (B (l3 b)) := by rw [p2 _ _ (by first | assumption | omega | (simp; done) | (simp; omega))]; go_simp
  have c2_2_0 : w2.cell? ⟨w1.heap.size, 0, none⟩ = some (B (l0 q)) := by rw [p2 _ _ (by first | assumption | omega | (simp; done) | (simp; omega))]; go_simp
  have c2_2_1 : w2.cell? ⟨w1.heap.size, 1, none⟩ = some (B (l1 q)) := by rw [p2 _ _ (by first | assumption | omega | (simp; done) | (simp; omega))]; go_simp
  have c2_2_2 : w2.cell? ⟨w1.heap.size, 2, none⟩ = some (B (l2 q)) := by rw [p2 _ _ (by first | assumption | omega | (simp; done) | (simp; omega))]; go_simp
  have c2_2_3 : w2.cell? ⟨w1.heap.size, 3, none⟩ = some (B (l3 q)) := by rw [p2 _ _ (by first | assumption | omega | (simp; done) | (simp; omega))]; go_simp
  have c2_3_0 : w2.cell? ⟨w1.heap.size + 1, 0, none⟩ = some (B (l0 r)) := by rw [p2 _ _ (by first | assumption | omega | (simp; done) | (simp; omega))]; go_simp
  have c2_3_1 : w2.cell? ⟨w1.heap.size + 1, 1, none⟩ = some (B (l1 r)) := by rw [p2 _ _ (by first | assumption | omega | (simp; done) | (simp; omega))]; go_simp
  have c2_3_2 : w2.cell? ⟨w1.heap.size + 1, 2, none⟩ = some (B (l2 r)) := by rw [p2 _ _ (by first | assumption | omega | (simp; done) | (simp; omega))]; go_simp
  have c2_3_3 : w2.cell? ⟨w1.heap.size + 1, 3, none⟩ = some (B (l3 r)) := by rw [p2 _ _ (by first | assumption | omega | (simp; done) | (simp; omega))]; go_simp
  clear p2 f2
  clear c1_0_0 c1_0_1 c1_0_2 c1_0_3 c1_1_0 c1_1_1 c1_1_2 c1_1_3
  go_wp2_with fail
  refine (hs.out _).mono ?_
  rintro e w3 ⟨rfl, hb3⟩
  obtain ⟨p3, f3, z3⟩ := bcell hb3
  try simp at z3
  have q3_0 : w.heap.size < w3.heap.size := by omega
  have q3_1 : w.heap.size + 1 < w3.heap.size := by omega
  have q3_2 : w1.heap.size < w3.heap.size := by omega
  have q3_3 : w1.heap.size + 1 < w3.heap.size := by omega
  have q3_4 : w2.heap.size < w3.heap.size := by omega
  have q3_5 : w2.heap.size + 1 < w3.heap.size := by omega
  have c3_0_0 : w3.cell? ⟨w.heap.size, 0, none⟩ = some (B (l0 a)) := by rw [p3 _ _ (by first | assumption | omega | (simp; done) | (simp; omega))]; go_simp
  have c3_0_1 : w3.cell? ⟨w.heap.size, 1, none⟩ = some (B (l1 a)) := by rw [p3 _ _ (by first | assumption | omega | (simp; done) | (simp; omega))]; go_simp
  have c3_0_2 : w3.cell? ⟨w.heap.size, 2, none⟩ = some (B (l2 a)) := by rw [p3 _ _ (by first | assumption | omega | (simp; done) | (simp; omega))]; go_simp
  have c3_0_3 : w3.cell? ⟨w.heap.size, 3, none⟩ = some (B (l3 a)) := by rw [p3 _ _ (by first | assumption | omega | (simp; done) | (simp; omega))]; go_simp
  have c3_1_0 : w3.cell? ⟨w.heap.size + 1, 0, none⟩ = some (B (l0 b)) := by rw [p3 _ _ (by first | assumption | omega | (simp; done) | (simp; omega))]; go_simp
  have c3_1_1 : w3.cell? ⟨w.heap.size + 1, 1, none⟩ = some (B (l1 b)) := by rw [p3 _ _ (by first | assumption | omega | (simp; done) | (simp; omega))]; go_simp
  have c3_1_2 : w3.cell? ⟨w.heap.size + 1, 2, none⟩ = some (B (l2 b)) := by rw [p3 _ _ (by first | assumption | omega | (simp; done) | (simp; omega))]; go_simp
  have c3_1_3 : w3.cell? ⟨w.heap.size + 1, 3, none⟩ = some (B (l3 b)) := by rw [p3 _ _ (by first | assumption | omega | (simp; done) | (simp; omega))]; go_simp
  have c3_2_0 : w3.cell? ⟨w1.heap.size, 0, none⟩ = some (B (l0 q)) := by rw [p3 _ _ (by first | assumption | omega | (simp; done) | (simp; omega))]; go_simp
  have c3_2_1 : w3.cell? ⟨w1.heap.size, 1, none⟩ = some (B (l1 q)) := by rw [p3 _ _ (by first | assumption | omega | (simp; done) | (simp; omega))]; go_simp
  have c3_2_2 : w3.cell? ⟨w1.heap.size, 2, none⟩ = some (B (l2 q)) := by rw [p3 _ _ (by first | assumption | omega | (simp; done) | (simp; omega))]; go_simp
  have c3_2_3 : w3.cell? ⟨w1.heap.size, 3, none⟩ = some (B (l3 q)) := by rw [p3 _ _ (by first | assumption | omega | (simp; done) | (simp; omega))]; go_simp
  have c3_3_0 : w3.cell? ⟨w1.heap.size + 1, 0, none⟩ = some (B (l0 r)) := by rw [p3 _ _ (by first | assumption | omega | (simp; done) | (simp; omega))]; go_simp
  have c3_3_1 : w3.cell? ⟨w1.heap.size + 1, 1, none⟩ = some (B (l1 r)) := by rw [p3 _ _ (by first | assumption | omega | (simp; done) | (simp; omega))]; go_simp
  have c3_3_2 : w3.cell? ⟨w1.heap.size + 1, 2, none⟩ = some (B (l2 r)) := by rw [p3 _ _ (by first | assumption | omega | (simp; done) | (simp; omega))]; go_simp
  have c3_3_3 : w3.cell? ⟨w1.heap.size + 1, 3, none⟩ = some (B (l3 r)) := by rw [p3 _ _ (by first | assumption | omega | (simp; done) | (simp; omega))]; go_simp
  have c3_4_0 : w3.cell? ⟨w2.heap.size, 0, none⟩ = some (.int .u64 0) := by rw [p3 _ _ (by first | assumption | omega | (simp; done) | (simp; omega))]; go_simp
  have c3_4_1 : w3.cell? ⟨w2.heap.size, 1, none⟩ = some (.int .u64 0) := by rw [p3 _ _ (by first | assumption | omega | (simp; done) | (simp; omega))]; go_simp
  have c3_4_2 : w3.cell? ⟨w2.heap.size, 2, none⟩ = some (.int .u64 0) := by rw [p3 _ _ (by first | assumption | omega | (simp; done) | (simp; omega))]; go_simp
  have c3_4_3 : w3.cell? ⟨w2.heap.size, 3, none⟩ = some (.int .u64 0) := by rw [p3 _ _ (by first | assumption | omega | (simp; done) | (simp; omega))]; go_simp
  have c3_5_0 : w3.cell? ⟨w2.heap.size + 1, 0, none⟩ = some (B (l0 l)) := by rw [p3 _ _ (by first | assumption | omega | (simp; done) | (simp; omega))]; go_simp
  have c3_5_1 : w3.cell? ⟨w2.heap.size + 1, 1, none⟩ = some (B (l1 l)) := by rw [p3 _ _ (by first | assumption | omega | (simp; done) | (simp; omega))]; go_simp
  have c3_5_2 : w3.cell? ⟨w2.heap.size + 1, 2, none⟩ = some (B (l2 l)) := by rw [p3 _ _ (by first | assumption | omega | (simp; done) | (simp; omega))]; go_simp
  have c3_5_3 : w3.cell? ⟨w2.heap.size + 1, 3, none⟩ = some (B (l3 l)) := by rw [p3 _ _ (by first | assumption | omega | (simp; done) | (simp; omega))]; go_simp
  clear p3 f3
  clear c2_0_0 c2_0_1 c2_0_2 c2_0_3 c2_1_0 c2_1_1 c2_1_2 c2_1_3 c2_2_0 c2_2_1 c2_2_2 c2_2_3 c2_3_0 c2_3_1 c2_3_2 c2_3_3
  go_wp2_with fail
  refine (hc.out _).mono ?_
  rintro e w4 ⟨rfl, hb4⟩
  obtain ⟨p4, f4, z4⟩ := bcell hb4
  try simp at z4
  have q4_0 : w.heap.size < w4.heap.size := by omega
  have q4_1 : w.heap.size + 1 < w4.heap.size := by omega
  have q4_2 : w1.heap.size < w4.heap.size := by omega
  have q4_3 : w1.heap.size + 1 < w4.heap.size := by omega
  have q4_4 : w2.heap.size < w4.heap.size := by omega
  have q4_5 : w2.heap.size + 1 < w4.heap.size := by omega
  have q4_6 : w3.heap.size < w4.heap.size := by omega
  have c4_0_0 : w4.cell? ⟨w.heap.size, 0, none⟩ = some (B (l0 a)) := by rw [p4 _ _ (by first | assumption | omega | (simp; done) | (simp; omega))]; go_simp
  have c4_0_1 : w4.cell? ⟨w.heap.size, 1, none⟩ = some (B (l1 a)) := by rw [p4 _ _ (by first | assumption | omega | (simp; done) | (simp; omega))]; go_simp
  have c4_0_2 : w4.cell? ⟨w.heap.size, 2, none⟩ = some (B (l2 a)) := by rw [p4 _ _ (by first | assumption | omega | (simp; done) | (simp; omega))]; go_simp
  have c4_0_3 : w4.cell? ⟨w.heap.size, 3, none⟩ = some (B (l3 a)) := by rw [p4 _ _ (by first | assumption | omega | (simp; done) | (simp; omega))]; go_simp
  have c4_1_0 : w4.cell? ⟨w.heap.size + 1, 0, none⟩ = some (B (l0 b)) := by rw [p4 _ _ (by first | assumption | omega | (simp; done) | (simp; omega))]; go_simp
  have c4_1_1 : w4.cell? ⟨w.heap.size + 1, 1, none⟩ = some (B (l1 b)) := by rw [p4 _ _ (by first | assumption | omega | (simp; done) | (simp; omega))]; go_simp
  have c4_1_2 : w4.cell? ⟨w.heap.size + 1, 2, none⟩ = some (B (l2 b)) := by rw [p4 _ _ (by first | assumption | omega | (simp; done) | (simp; omega))]; go_simp
  have c4_1_3 : w4.cell? ⟨w.heap.size + 1, 3, none⟩ = some (B (l3 b)) := by rw [p4 _ _ (by first | assumption | omega | (simp; done) | (simp; omega))]; go_simp
  have c4_2_0 : w4.cell? ⟨w1.heap.size, 0, none⟩ = some (B (l0 q)) := by rw [p4 _ _ (by first | assumption | omega | (simp; done) | (simp; omega))]; go_simp
  have c4_2_1 : w4.cell? ⟨w1.heap.size, 1, none⟩ = some (B (l1 q)) := by rw [p4 _ _ (by first | assumption | omega | (simp; done) | (simp; omega))]; go_simp
  have c4_2_2 : w4.cell? ⟨w1.heap.size, 2, none⟩ = some (B (l2 q)) := by rw [p4 _ _ (by first | assumption | omega | (simp; done) | (simp; omega))]; go_simp
  have c4_2_3 : w4.cell? ⟨w1.heap.size, 3, none⟩ = some (B (l3 q)) := by rw [p4 _ _ (by first | assumption | omega | (simp; done) | (simp; omega))]; go_simp
  have c4_3_0 : w4.cell? ⟨w1.heap.size + 1, 0, none⟩ = some (B (l0 r)) := by rw [p4 _ _ (by first | assumption | omega | (simp; done) | (simp; omega))]; go_simp
  have c4_3_1 : w4.cell? ⟨w1.heap.size + 1, 1, none⟩ = some (B (l1 r)) := by rw [p4 _ _ (by first | assumption | omega | (simp; done) | (simp; omega))]; go_simp
  have c4_3_2 : w4.cell? ⟨w1.heap.size + 1, 2, none⟩ = some (B (l2 r)) := by rw [p4 _ _ (by first | assumption | omega | (simp; done) | (simp; omega))]; go_simp
  have c4_3_3 : w4.cell? ⟨w1.heap.size + 1, 3, none⟩ = some (B (l3 r)) := by rw [p4 _ _ (by first | assumption | omega | (simp; done) | (simp; omega))]; go_simp
  have c4_4_0 : w4.cell? ⟨w2.heap.size, 0, none⟩ = some (.int .u64 0) := by rw [p4 _ _ (by first | assumption | omega | (simp; done) | (simp; omega))]; go_simp
  have c4_4_1 : w4.cell? ⟨w2.heap.size, 1, none⟩ = some (.int .u64 0) := by rw [p4 _ _ (by first | assumption | omega | (simp; done) | (simp; omega))]; go_simp
  have c4_4_2 : w4.cell? ⟨w2.heap.size, 2, none⟩ = some (.int .u64 0) := by rw [p4 _ _ (by first | assumption | omega | (simp; done) | (simp; omega))]; go_simp
  have c4_4_3 : w4.cell? ⟨w2.heap.size, 3, none⟩ = some (.int .u64 0) := by rw [p4 _ _ (by first | assumption | omega | (simp; done) | (simp; omega))]; go_simp
  have c4_5_0 : w4.cell? ⟨w2.heap.size + 1, 0, none⟩ = some (B (l0 l)) := by rw [p4 _ _ (by first | assumption | omega | (simp; done) | (simp; omega))]; go_simp
  have c4_5_1 : w4.cell? ⟨w2.heap.size + 1, 1, none⟩ = some (B (l1 l)) := by rw [p4 _ _ (by first | assumption | omega | (simp; done) | (simp; omega))]; go_simp
  have c4_5_2 : w4.cell? ⟨w2.heap.size + 1, 2, none⟩ = some (B (l2 l)) := by rw [p4 _ _ (by first | assumption | omega | (simp; done) | (simp; omega))]; go_simp
  have c4_5_3 : w4.cell? ⟨w2.heap.size + 1, 3, none⟩ = some (B (l3 l)) := by rw [p4 _ _ (by first | assumption | omega | (simp; done) | (simp; omega))]; go_simp
  have c4_6_0 : w4.cell? ⟨w3.heap.size, 0, none⟩ = some (B (l0 a)) := by rw [p4 _ _ (by first | assumption | omega | (simp; done) | (simp; omega))]; go_simp
  have c4_6_1 : w4.cell? ⟨w3.heap.size, 1, none⟩ = some (B (l1 a)) := by rw [p4 _ _ (by first | assumption | omega | (simp; done) | (simp; omega))]; go_simp
  have c4_6_2 : w4.cell? ⟨w3.heap.size, 2, none⟩ = some (B (l2 a)) := by rw [p4 _ _ (by first | assumption | omega | (simp; done) | (simp; omega))]; go_simp
  have c4_6_3 : w4.cell? ⟨w3.heap.size, 3, none⟩ = some (B (l3 a)) := by rw [p4 _ _ (by first | assumption | omega | (simp; done) | (simp; omega))]; go_simp
  clear p4 f4
  clear c3_0_0 c3_0_1 c3_0_2 c3_0_3 c3_1_0 c3_1_1 c3_1_2 c3_1_3 c3_2_0 c3_2_1 c3_2_2 c3_2_3 c3_3_0 c3_3_1 c3_3_2 c3_3_3 c3_4_0 c3_4_1 c3_4_2 c3_4_3 c3_5_0 c3_5_1 c3_5_2 c3_5_3
  go_wp2_with fail
  refine (ha.out _).mono ?_
  rintro e w5 ⟨rfl, hb5⟩
  obtain ⟨p5, f5, z5⟩ := bcell hb5
  try simp at z5
  have q5_0 : w.heap.size < w5.heap.size := by omega
  have q5_1 : w.heap.size + 1 < w5.heap.size := by omega
  have q5_2 : w1.heap.size < w5.heap.size := by omega
  have q5_3 : w1.heap.size + 1 < w5.heap.size := by omega
  have q5_4 : w2.heap.size < w5.heap.size := by omega
  have q5_5 : w2.heap.size + 1 < w5.heap.size := by omega
  have q5_6 : w3.heap.size < w5.heap.size := by omega
  have c5_0_0 : w5.cell? ⟨w.heap.size, 0, none⟩ = some (B (l0 a)) := by rw [p5 _ _ (by first | assumption | omega | (simp; done) | (simp; omega))]; go_simp
  have c5_0_1 : w5.cell? ⟨w.heap.size, 1, none⟩ = some (B (l1 a)) := by rw [p5 _ _ (by first | assumption | omega | (simp; done) | (simp; omega))]; go_simp
  have c5_0_2 : w5.cell? ⟨w.heap.size, 2, none⟩ = some (B (l2 a)) := by rw [p5 _ _ (by first | assumption | omega | (simp; done) | (simp; omega))]; go_simp
  have c5_0_3 : w5.cell? ⟨w.heap.size, 3, none⟩ = some (B (l3 a)) := by rw [p5 _ _ (by first | assumption | omega | (simp; done) | (simp; omega))]; go_simp
  have c5_1_0 : w5.cell? ⟨w.heap.size + 1, 0, none⟩ = some (B (l0 b)) := by rw [p5 _ _ (by first | assumption | omega | (simp; done) | (simp; omega))]; go_simp
  have c5_1_1 : w5.cell? ⟨w.heap.size + 1, 1, none⟩ = some (B (l1 b)) := by rw [p5 _ _ (by first | assumption | omega | (simp; done) | (simp; omega))]; go_simp
  have c5_1_2 : w5.cell? ⟨w.heap.size + 1, 2, none⟩ = some (B (l2 b)) := by rw [p5 _ _ (by first | assumption | omega | (simp; done) | (simp; omega))]; go_simp
  have c5_1_3 : w5.cell? ⟨w.heap.size + 1, 3, none⟩ = some (B (l3 b)) := by rw [p5 _ _ (by first | assumption | omega | (simp; done) | (simp; omega))]; go_simp
  have c5_2_0 : w5.cell? ⟨w1.heap.size, 0, none⟩ = some (B (l0 q)) := by rw [p5 _ _ (by first | assumption | omega | (simp; done) | (simp; omega))]; go_simp
  have c5_2_1 : w5.cell? ⟨w1.heap.size, 1, none⟩ = some (B (l1 q)) := by rw [p5 _ _ (by first | assumption | omega | (simp; done) | (simp; omega))]; go_simp
  have c5_2_2 : w5.cell? ⟨w1.heap.size, 2, none⟩ = some (B (l2 q)) := by rw [p5 _ _ (by first | assumption | omega | (simp; done) | (simp; omega))]; go_simp
  have c5_2_3 : w5.cell? ⟨w1.heap.size, 3, none⟩ = some (B (l3 q)) := by rw [p5 _ _ (by first | assumption | omega | (simp; done) | (simp; omega))]; go_simp
  have c5_3_0 : w5.cell? ⟨w1.heap.size + 1, 0, none⟩ = some (B (l0 r)) := by rw [p5 _ _ (by first | assumption | omega | (simp; done) | (simp; omega))]; go_simp
  have c5_3_1 : w5.cell? ⟨w1.heap.size + 1, 1, none⟩ = some (B (l1 r)) := by rw [p5 _ _ (by first | assumption | omega | (simp; done) | (simp; omega))]; go_simp
  have c5_3_2 : w5.cell? ⟨w1.heap.size + 1, 2, none⟩ = some (B (l2 r)) := by rw [p5 _ _ (by first | assumption | omega | (simp; done) | (simp; omega))]; go_simp
  have c5_3_3 : w5.cell? ⟨w1.heap.size + 1, 3, none⟩ = some (B (l3 r)) := by rw [p5 _ _ (by first | assumption | omega | (simp; done) | (simp; omega))]; go_simp
  have c5_4_0 : w5.cell? ⟨w2.heap.size, 0, none⟩ = some (.int .u64 0) := by rw [p5 _ _ (by first | assumption | omega | (simp; done) | (simp; omega))]; go_simp
  have c5_4_1 : w5.cell? ⟨w2.heap.size, 1, none⟩ = some (.int .u64 0) := by rw [p5 _ _ (by first | assumption | omega | (simp; done) | (simp; omega))]; go_simp
  have c5_4_2 : w5.cell? ⟨w2.heap.size, 2, none⟩ = some (.int .u64 0) := by rw [p5 _ _ (by first | assumption | omega | (simp; done) | (simp; omega))]; go_simp
  have c5_4_3 : w5.cell? ⟨w2.heap.size, 3, none⟩ = some (.int .u64 0) := by rw [p5 _ _ (by first | assumption | omega | (simp; done) | (simp; omega))]; go_simp
  have c5_5_0 : w5.cell? ⟨w2.heap.size + 1, 0, none⟩ = some (B (l0 l)) := by rw [p5 _ _ (by first | assumption | omega | (simp; done) | (simp; omega))]; go_simp
  have c5_5_1 : w5.cell? ⟨w2.heap.size + 1, 1, none⟩ = some (B (l1 l)) := by rw [p5 _ _ (by first | assumption | omega | (simp; done) | (simp; omega))]; go_simp
  have c5_5_2 : w5.cell? ⟨w2.heap.size + 1, 2, none⟩ = some (B (l2 l)) := by rw [p5 _ _ (by first | assumption | omega | (simp; done) | (simp; omega))]; go_simp
  have c5_5_3 : w5.cell? ⟨w2.heap.size + 1, 3, none⟩ = some (B (l3 l)) := by rw [p5 _ _ (by first | assumption | omega | (simp; done) | (simp; omega))]; go_simp
  have c5_6_0 : w5.cell? ⟨w3.heap.size, 0, none⟩ = some (B (l0 a)) := by rw [p5 _ _ (by first | assumption | omega | (simp; done) | (simp; omega))]; go_simp
  have c5_6_1 : w5.cell? ⟨w3.heap.size, 1, none⟩ = some (B (l1 a)) := by rw [p5 _ _ (by first | assumption | omega | (simp; done) | (simp; omega))]; go_simp
  have c5_6_2 : w5.cell? ⟨w3.heap.size, 2, none⟩ = some (B (l2 a)) := by rw [p5 _ _ (by first | assumption | omega | (simp; done) | (simp; omega))]; go_simp
  have c5_6_3 : w5.cell? ⟨w3.heap.size, 3, none⟩ = some (B (l3 a)) := by rw [p5 _ _ (by first | assumption | omega | (simp; done) | (simp; omega))]; go_simp
  clear p5 f5
  clear c4_0_0 c4_0_1 c4_0_2 c4_0_3 c4_1_0 c4_1_1 c4_1_2 c4_1_3 c4_2_0 c4_2_1 c4_2_2 c4_2_3 c4_3_0 c4_3_1 c4_3_2 c4_3_3 c4_4_0 c4_4_1 c4_4_2 c4_4_3 c4_5_0 c4_5_1 c4_5_2 c4_5_3 c4_6_0 c4_6_1 c4_6_2 c4_6_3
  go_wp2
  go_ret
  exact ⟨rfl, by (repeat (first | exact Below.refl _ _ | apply Below.drew | refine bel_alloc ?_ _ | refine bel_set ?_ (by first | (simp; done) | (simp; omega)) _ | refine bel_call ?_ (by assumption)))⟩

theorem back_walk (a b : Nat) (ha : a < W) (hb : b < W) (w : World) : Calls Try.prog 5 #[U a, U b] w fun e w' => e = .returned (.bool true) ∧ Below w.heap.size w w' := by
  rcases Nat.eq_zero_or_pos b with h0 | h0
  · subst h0
    rw [U_zero]
    exact back_zero a (fun w => by have h := div_any a 0 ha W_pos w; rw [Nat.div_zero, show dr 0 a 0 = 0 from rfl, U_zero] at h; exact h) awake_any w
  · have er : dr 0 a b = a % b := by unfold dr; rw [if_neg (by omega), Nat.zero_mul, Nat.zero_add]
    have hq : a / b * b ≤ a := Nat.div_mul_le_self a b
    have hqW : a / b < W := Nat.lt_of_le_of_lt (Nat.div_le_self _ _) ha
    have hr : a % b < b := Nat.mod_lt _ h0
    have hs : a / b * b + a % b = a := by rw [Nat.mul_comm]; exact Nat.div_add_mod a b
    have hl : a / b * b < W := Nat.lt_of_le_of_lt hq ha
    refine back_gen a b (a / b) (a % b) (a / b * b) (fun w => ?_) (fun w => ?_) (fun w => ?_) (fun w => ?_) awake_any (fun w => ?_) w
    · have h := div_any a b ha hb w
      rw [er] at h
      exact h
    · have h := wide_any (a / b) b hqW hb w
      rw [Nat.div_eq_of_lt hl, Nat.mod_eq_of_lt hl, U_zero] at h
      exact h
    · have h := radd_any (a / b * b) (a % b) hl (Nat.lt_trans hr hb) w
      have e1 : addW (a / b * b) (a % b) = a := by unfold addW; rw [hs]; exact Nat.mod_eq_of_lt ha
      have e2 : ovW (a / b * b) (a % b) = false := by unfold ovW; rw [hs]; exact decide_eq_false (by omega)
      rw [e1, e2] at h
      exact h
    · have h := rcmp_any (a % b) b (Nat.lt_trans hr hb) hb w
      have e1 : cmpN (a % b) b = -1 := by unfold cmpN; rw [if_pos hr]
      rw [e1] at h
      exact h
    · have h := run_eqU b 0 hb W_pos w
      rw [decide_eq_false (by omega), U_zero] at h
      exact h
end Go.Proofs.Ytmcdklcocgahpaa
