/- The law ModuTwice, walked. -/
import Derived.Test.YtillbhdcnhcbhaaMx
import Derived.Lib.QuietBelow
import Derived.BigQuiet
namespace Go.Proofs.Ytillbhdcnhcbhaa
open Go.RowKit Go.Sort
set_option linter.unusedVariables false
attribute [local go_sem] run_eq4 run_eqU_same

set_option maxRecDepth 100000 in
set_option maxHeartbeats 4000000 in
theorem twice_gen (a m i k n q1 o1 q2 lf e1 e2 p1 p2 : Nat)
    (hi : i < 65536)
    (hk : k < 65536)
    (ei : IntKind.u64.wrap (i : Int) = (i : Int))
    (ek : IntKind.u64.wrap (k : Int) = (k : Int))
    (en : IntKind.u64.wrap ((i : Int) * (k : Int)) = (n : Int))
    (d1 : Hid (∀ w, Calls Try.prog 10 #[I4 1 0 0 0, U m] w fun e w' => e = .returned (.tuple #[U q1, U o1]) ∧ Below w.heap.size w w'))
    (d2 : Hid (∀ w, Calls Try.prog 10 #[U a, U m] w fun e w' => e = .returned (.tuple #[U q2, U lf]) ∧ Below w.heap.size w w'))
    (x1 : Hid (∀ w, Calls Try.prog 20 #[U a, I4 (i : Nat) 0 0 0] w fun e w' => e = .returned (U e1) ∧ Below w.heap.size w w'))
    (x2 : Hid (∀ w, Calls Try.prog 20 #[U e1, I4 (k : Nat) 0 0 0] w fun e w' => e = .returned (U e2) ∧ Below w.heap.size w w'))
    (x3 : Hid (∀ w, Calls Try.prog 20 #[U a, I4 (n : Nat) 0 0 0] w fun e w' => e = .returned (U e2) ∧ Below w.heap.size w w'))
    (y1 : Hid (∀ w, Calls Try.prog 22 #[U a, I4 (i : Nat) 0 0 0, U m] w fun e w' => e = .returned (U p1) ∧ Below w.heap.size w w'))
    (y2 : Hid (∀ w, Calls Try.prog 22 #[U p1, I4 (k : Nat) 0 0 0, U m] w fun e w' => e = .returned (U p2) ∧ Below w.heap.size w w'))
    (y3 : Hid (∀ w, Calls Try.prog 22 #[U a, I4 (n : Nat) 0 0 0, U m] w fun e w' => e = .returned (U p2) ∧ Below w.heap.size w w'))
    (v1 : Hid (∀ w, Calls Try.prog 20 #[U a, I4 0 0 0 0] w fun e w' => e = .returned (I4 1 0 0 0) ∧ Below w.heap.size w w'))
    (v2 : Hid (∀ w, Calls Try.prog 20 #[U a, I4 1 0 0 0] w fun e w' => e = .returned (U a) ∧ Below w.heap.size w w'))
    (v3 : Hid (∀ w, Calls Try.prog 22 #[U a, I4 0 0 0 0, U m] w fun e w' => e = .returned (U o1) ∧ Below w.heap.size w w'))
    (v4 : Hid (∀ w, Calls Try.prog 22 #[U a, I4 1 0 0 0, U m] w fun e w' => e = .returned (U lf) ∧ Below w.heap.size w w'))
    (ha : Hid (∀ w, Calls Try.prog 24 #[] w fun e w' => e = .returned (.bool true) ∧ Below w.heap.size w w')) (w : World) :
    Calls Try.prog 8 #[U a, U m, .int .u16 (i : Nat), .int .u16 (k : Nat)] w fun e w' => e = .returned (.bool true) ∧ Below w.heap.size w w' := by
  go_enter Try.func8, Try.ntmps8
  go_wp2_with fail
  refine (d1.out _).mono ?_
  rintro e w1 ⟨rfl, hb1⟩
  obtain ⟨p1, f1, z1⟩ := bcell hb1
  try simp at z1
  have q1_0 : w.heap.size < w1.heap.size := by omega
  have q1_1 : w.heap.size + 1 < w1.heap.size := by omega
  have q1_2 : w.heap.size + 1 + 1 < w1.heap.size := by omega
  have q1_3 : w.heap.size + 1 + 1 + 1 < w1.heap.size := by omega
  have q1_4 : w.heap.size + 1 + 1 + 1 + 1 < w1.heap.size := by omega
  have c1_0_0 : w1.cell? ⟨w.heap.size, 0, none⟩ = some (B (l0 a)) := by rw [p1 _ _ (by first | assumption | omega | (simp; done) | (simp; omega))]; go_simp
  have c1_0_1 : w1.cell? ⟨w.heap.size, 1, none⟩ = some (B (l1 a)) := by rw [p1 _ _ (by first | assumption | omega | (simp; done) | (simp; omega))]; go_simp
  have c1_0_2 : w1.cell? ⟨w.heap.size, 2, none⟩ = some (B (l2 a)) := by rw [p1 _ _ (by first | assumption | omega | (simp; done) | (simp; omega))]; go_simp
  have c1_0_3 : w1.cell? ⟨w.heap.size, 3, none⟩ = some (B (l3 a)) := by rw [p1 _ _ (by first | assumption | omega | (simp; done) | (simp; omega))]; go_simp
  have c1_1_0 : w1.cell? ⟨w.heap.size + 1, 0, none⟩ = some (B (l0 m)) := by rw [p1 _ _ (by first | assumption | omega | (simp; done) | (simp; omega))]; go_simp
  have c1_1_1 : w1.cell? ⟨w.heap.size + 1, 1, none⟩ = some (B (l1 m)) := by rw [p1 _ _ (by first | assumption | omega | (simp; done) | (simp; omega))]; go_simp
  have c1_1_2 : w1.cell? ⟨w.heap.size + 1, 2, none⟩ = some (B (l2 m)) := by rw [p1 _ _ (by first | assumption | omega | (simp; done) | (simp; omega))]; go_simp
  have c1_1_3 : w1.cell? ⟨w.heap.size + 1, 3, none⟩ = some (B (l3 m)) := by rw [p1 _ _ (by first | assumption | omega | (simp; done) | (simp; omega))]; go_simp
  have c1_2_0 : w1.cell? ⟨w.heap.size + 1 + 1, 0, none⟩ = some (.int .u64 (i : Nat)) := by rw [p1 _ _ (by first | assumption | omega | (simp; done) | (simp; omega))]; go_simp
  have c1_2_1 : w1.cell? ⟨w.heap.size + 1 + 1, 1, none⟩ = some (.int .u64 0) := by rw [p1 _ _ (by first | assumption | omega | (simp; done) | (simp; omega))]; go_simp
  have c1_2_2 : w1.cell? ⟨w.heap.size + 1 + 1, 2, none⟩ = some (.int .u64 0) := by rw [p1 _ _ (by first | assumption | omega | (simp; done) | (simp; omega))]; go_simp
  have c1_2_3 : w1.cell? ⟨w.heap.size + 1 + 1, 3, none⟩ = some (.int .u64 0) := by rw [p1 _ _ (by first | assumption | omega | (simp; done) | (simp; omega))]; go_simp
  have c1_3_0 : w1.cell? ⟨w.heap.size + 1 + 1 + 1, 0, none⟩ = some (.int .u64 (k : Nat)) := by rw [p1 _ _ (by first | assumption | omega | (simp; done) | (simp; omega))]; go_simp
  have c1_3_1 : w1.cell? ⟨w.heap.size + 1 + 1 + 1, 1, none⟩ = some (.int .u64 0) := by rw [p1 _ _ (by first | assumption | omega | (simp; done) | (simp; omega))]; go_simp
  have c1_3_2 : w1.cell? ⟨w.heap.size + 1 + 1 + 1, 2, none⟩ = some (.int .u64 0) := by rw [p1 _ _ (by first | assumption | omega | (simp; done) | (simp; omega))]; go_simp
  have c1_3_3 : w1.cell? ⟨w.heap.size + 1 + 1 + 1, 3, none⟩ = some (.int .u64 0) := by rw [p1 _ _ (by first | assumption | omega | (simp; done) | (simp; omega))]; go_simp
  have c1_4_0 : w1.cell? ⟨w.heap.size + 1 + 1 + 1 + 1, 0, none⟩ = some (.int .u64 (n : Nat)) := by rw [p1 _ _ (by first | assumption | omega | (simp; done) | (simp; omega))]; go_simp
  have c1_4_1 : w1.cell? ⟨w.heap.size + 1 + 1 + 1 + 1, 1, none⟩ = some (.int .u64 0) := by rw [p1 _ _ (by first | assumption | omega | (simp; done) | (simp; omega))]; go_simp
  have c1_4_2 : w1.cell? ⟨w.heap.size + 1 + 1 + 1 + 1, 2, none⟩ = some (.int .u64 0) := by rw [p1 _ _ (by first | assumption | omega | (simp; done) | (simp; omega))]; go_simp
  have c1_4_3 : w1.cell? ⟨w.heap.size + 1 + 1 + 1 + 1, 3, none⟩ = some (.int .u64 0) := by rw [p1 _ _ (by first | assumption | omega | (simp; done) | (simp; omega))]; go_simp
  clear p1 f1
  go_wp2_with fail
  refine (d2.out _).mono ?_
  rintro e w2 ⟨rfl, hb2⟩
  obtain ⟨p2, f2, z2⟩ := bcell hb2
  try simp at z2
  have q2_0 : w.heap.size < w2.heap.size := by omega
  have q2_1 : w.heap.size + 1 < w2.heap.size := by omega
  have q2_2 : w.heap.size + 1 + 1 < w2.heap.size := by omega
  have q2_3 : w.heap.size + 1 + 1 + 1 < w2.heap.size := by omega
  have q2_4 : w.heap.size + 1 + 1 + 1 + 1 < w2.heap.size := by omega
  have q2_5 : w1.heap.size < w2.heap.size := by omega
  have q2_6 : w1.heap.size + 1 < w2.heap.size := by omega
  have c2_0_0 : w2.cell? ⟨w.heap.size, 0, none⟩ = some (B (l0 a)) := by rw [p2 _ _ (by first | assumption | omega | (simp; done) | (simp; omega))]; go_simp
  have c2_0_1 : w2.cell? ⟨w.heap.size, 1, none⟩ = some (B (l1 a)) := by rw [p2 _ _ (by first | assumption | omega | (simp; done) | (simp; omega))]; go_simp
  have c2_0_2 : w2.cell? ⟨w.heap.size, 2, none⟩ = some (B (l2 a)) := by rw [p2 _ _ (by first | assumption | omega | (simp; done) | (simp; omega))]; go_simp
  have c2_0_3 : w2.cell? ⟨w.heap.size, 3, none⟩ = some (B (l3 a)) := by rw [p2 _ _ (by first | assumption | omega | (simp; done) | (simp; omega))]; go_simp
  have c2_1_0 : w2.cell? ⟨w.heap.size + 1, 0, none⟩ = some (B (l0 m)) := by rw [p2 _ _ (by first | assumption | omega | (simp; done) | (simp; omega))]; go_simp
  have c2_1_1 : w2.cell? ⟨w.heap.size + 1, 1, none⟩ = some (B (l1 m)) := by rw [p2 _ _ (by first | assumption | omega | (simp; done) | (simp; omega))]; go_simp
  have c2_1_2 : w2.cell? ⟨w.heap.size + 1, 2, none⟩ = some (B (l2 m)) := by rw [p2 _ _ (by first | assumption | omega | (simp; done) | (simp; omega))]; go_simp
  have c2_1_3 : w2.cell? ⟨w.heap.size + 1, 3, none⟩ = some (B (l3 m)) := by rw [p2 _ _ (by first | assumption | omega | (simp; done) | (simp; omega))]; go_simp
  have c2_2_0 : w2.cell? ⟨w.heap.size + 1 + 1, 0, none⟩ = some (.int .u64 (i : Nat)) := by rw [p2 _ _ (by first | assumption | omega | (simp; done) | (simp; omega))]; go_simp
  have c2_2_1 : w2.cell? ⟨w.heap.size + 1 + 1, 1, none⟩ = some (.int .u64 0) := by rw [p2 _ _ (by first | assumption | omega | (simp; done) | (simp; omega))]; go_simp
  have c2_2_2 : w2.cell? ⟨w.heap.size + 1 + 1, 2, none⟩ = some (.int .u64 0) := by rw [p2 _ _ (by first | assumption | omega | (simp; done) | (simp; omega))]; go_simp
  have c2_2_3 : w2.cell? ⟨w.heap.size + 1 + 1, 3, none⟩ = some (.int .u64 0) := by rw [p2 _ _ (by first | assumption | omega | (simp; done) | (simp; omega))]; go_simp
  have c2_3_0 : w2.cell? ⟨w.heap.size + 1 + 1 + 1, 0, none⟩ = some (.int .u64 (k : Nat)) := by rw [p2 _ _ (by first | assumption | omega | (simp; done) | (simp; omega))]; go_simp
  have c2_3_1 : w2.cell? ⟨w.heap.size + 1 + 1 + 1, 1, none⟩ = some (.int .u64 0) := by rw [p2 _ _ (by first | assumption | omega | (simp; done) | (simp; omega))]; go_simp
  have c2_3_2 : w2.cell? ⟨w.heap.size + 1 + 1 + 1, 2, none⟩ = some (.int .u64 0) := by rw [p2 _ _ (by first | assumption | omega | (simp; done) | (simp; omega))]; go_simp
  have c2_3_3 : w2.cell? ⟨w.heap.size + 1 + 1 + 1, 3, none⟩ = some (.int .u64 0) := by rw [p2 _ _ (by first | assumption | omega | (simp; done) | (simp; omega))]; go_simp
  have c2_4_0 : w2.cell? ⟨w.heap.size + 1 + 1 + 1 + 1, 0, none⟩ = some (.int .u64 (n : Nat)) := by rw [p2 _ _ (by first | assumption | omega | (simp; done) | (simp; omega))]; go_simp
  have c2_4_1 : w2.cell? ⟨w.heap.size + 1 + 1 + 1 + 1, 1, none⟩ = some (.int .u64 0) := by rw [p2 _ _ (by first | assumption | omega | (simp; done) | (simp; omega))]; go_simp
  have c2_4_2 : w2.cell? ⟨w.heap.size + 1 + 1 + 1 + 1, 2, none⟩ = some (.int .u64 0) := by rw [p2 _ _ (by first | assumption | omega | (simp; done) | (simp; omega))]; go_simp
  have c2_4_3 : w2.cell? ⟨w.heap.size + 1 + 1 + 1 + 1, 3, none⟩ = some (.int .u64 0) := by rw [p2 _ _ (by first | assumption | omega | (simp; done) | (simp; omega))]; go_simp
  have c2_5_0 : w2.cell? ⟨w1.heap.size, 0, none⟩ = some (B (l0 q1)) := by rw [p2 _ _ (by first | assumption | omega | (simp; done) | (simp; omega))]; go_simp
  have c2_5_1 : w2.cell? ⟨w1.heap.size, 1, none⟩ = some (B (l1 q1)) := by rw [p2 _ _ (by first | assumption | omega | (simp; done) | (simp; omega))]; go_simp
  have c2_5_2 : w2.cell? ⟨w1.heap.size, 2, none⟩ = some (B (l2 q1)) := by rw [p2 _ _ (by first | assumption | omega | (simp; done) | (simp; omega))]; go_simp
  have c2_5_3 : w2.cell? ⟨w1.heap.size, 3, none⟩ = some (B (l3 q1)) := by rw [p2 _ _ (by first | assumption | omega | (simp; done) | (simp; omega))]; go_simp
  have c2_6_0 : w2.cell? ⟨w1.heap.size + 1, 0, none⟩ = some (B (l0 o1)) := by rw [p2 _ _ (by first | assumption | omega | (simp; done) | (simp; omega))]; go_simp
  have c2_6_1 : w2.cell? ⟨w1.heap.size + 1, 1, none⟩ = some (B (l1 o1)) := by rw [p2 _ _ (by first | assumption | omega | (simp; done) | (simp; omega))]; go_simp
  have c2_6_2 : w2.cell? ⟨w1.heap.size + 1, 2, none⟩ = some (B (l2 o1)) := by rw [p2 _ _ (by first | assumption | omega | (simp; done) | (simp; omega))]; go_simp
  have c2_6_3 : w2.cell? ⟨w1.heap.size + 1, 3, none⟩ = some (B (l3 o1)) := by rw [p2 _ _ (by first | assumption | omega | (simp; done) | (simp; omega))]; go_simp
  clear p2 f2
  clear c1_0_0 c1_0_1 c1_0_2 c1_0_3 c1_1_0 c1_1_1 c1_1_2 c1_1_3 c1_2_0 c1_2_1 c1_2_2 c1_2_3 c1_3_0 c1_3_1 c1_3_2 c1_3_3 c1_4_0 c1_4_1 c1_4_2 c1_4_3
  go_wp2_with fail
  refine name_world _ ?_
  intro wF hF
  have d0_0 : wF.cell? ⟨w.heap.size, 0, none⟩ = some (B (l0 a)) := by rw [hF]; go_simp
  have d0_1 : wF.cell? ⟨w.heap.size, 1, none⟩ = some (B (l1 a)) := by rw [hF]; go_simp
  have d0_2 : wF.cell? ⟨w.heap.size, 2, none⟩ = some (B (l2 a)) := by rw [hF]; go_simp
  have d0_3 : wF.cell? ⟨w.heap.size, 3, none⟩ = some (B (l3 a)) := by rw [hF]; go_simp
  have d1_0 : wF.cell? ⟨w.heap.size + 1, 0, none⟩ = some (B (l0 m)) := by rw [hF]; go_simp
  have d1_1 : wF.cell? ⟨w.heap.size + 1, 1, none⟩ = some (B (l1 m)) := by rw [hF]; go_simp
  have d1_2 : wF.cell? ⟨w.heap.size + 1, 2, none⟩ = some (B (l2 m)) := by rw [hF]; go_simp
  have d1_3 : wF.cell? ⟨w.heap.size + 1, 3, none⟩ = some (B (l3 m)) := by rw [hF]; go_simp
  have d2_0 : wF.cell? ⟨w.heap.size + 1 + 1, 0, none⟩ = some (.int .u64 (i : Nat)) := by rw [hF]; go_simp
  have d2_1 : wF.cell? ⟨w.heap.size + 1 + 1, 1, none⟩ = some (.int .u64 0) := by rw [hF]; go_simp
  have d2_2 : wF.cell? ⟨w.heap.size + 1 + 1, 2, none⟩ = some (.int .u64 0) := by rw [hF]; go_simp
  have d2_3 : wF.cell? ⟨w.heap.size + 1 + 1, 3, none⟩ = some (.int .u64 0) := by rw [hF]; go_simp
  have d3_0 : wF.cell? ⟨w.heap.size + 1 + 1 + 1, 0, none⟩ = some (.int .u64 (k : Nat)) := by rw [hF]; go_simp
  have d3_1 : wF.cell? ⟨w.heap.size + 1 + 1 + 1, 1, none⟩ = some (.int .u64 0) := by rw [hF]; go_simp
  have d3_2 : wF.cell? ⟨w.heap.size + 1 + 1 + 1, 2, none⟩ = some (.int .u64 0) := by rw [hF]; go_simp
  have d3_3 : wF.cell? ⟨w.heap.size + 1 + 1 + 1, 3, none⟩ = some (.int .u64 0) := by rw [hF]; go_simp
  have d4_0 : wF.cell? ⟨w.heap.size + 1 + 1 + 1 + 1, 0, none⟩ = some (.int .u64 (n : Nat)) := by rw [hF]; go_simp
  have d4_1 : wF.cell? ⟨w.heap.size + 1 + 1 + 1 + 1, 1, none⟩ = some (.int .u64 0) := by rw [hF]; go_simp
  have d4_2 : wF.cell? ⟨w.heap.size + 1 + 1 + 1 + 1, 2, none⟩ = some (.int .u64 0) := by rw [hF]; go_simp
  have d4_3 : wF.cell? ⟨w.heap.size + 1 + 1 + 1 + 1, 3, none⟩ = some (.int .u64 0) := by rw [hF]; go_simp
  have d5_0 : wF.cell? ⟨w1.heap.size, 0, none⟩ = some (B (l0 q1)) := by rw [hF]; go_simp
  have d5_1 : wF.cell? ⟨w1.heap.size, 1, none⟩ = some (B (l1 q1)) := by rw [hF]; go_simp
  have d5_2 : wF.cell? ⟨w1.heap.size, 2, none⟩ = some (B (l2 q1)) := by rw [hF]; go_simp
  have d5_3 : wF.cell? ⟨w1.heap.size, 3, none⟩ = some (B (l3 q1)) := by rw [hF]; go_simp
  have d6_0 : wF.cell? ⟨w1.heap.size + 1, 0, none⟩ = some (B (l0 o1)) := by rw [hF]; go_simp
  have d6_1 : wF.cell? ⟨w1.heap.size + 1, 1, none⟩ = some (B (l1 o1)) := by rw [hF]; go_simp
  have d6_2 : wF.cell? ⟨w1.heap.size + 1, 2, none⟩ = some (B (l2 o1)) := by rw [hF]; go_simp
  have d6_3 : wF.cell? ⟨w1.heap.size + 1, 3, none⟩ = some (B (l3 o1)) := by rw [hF]; go_simp
  have d7_0 : wF.cell? ⟨w2.heap.size, 0, none⟩ = some (B (l0 q2)) := by rw [hF]; go_simp
  have d7_1 : wF.cell? ⟨w2.heap.size, 1, none⟩ = some (B (l1 q2)) := by rw [hF]; go_simp
  have d7_2 : wF.cell? ⟨w2.heap.size, 2, none⟩ = some (B (l2 q2)) := by rw [hF]; go_simp
  have d7_3 : wF.cell? ⟨w2.heap.size, 3, none⟩ = some (B (l3 q2)) := by rw [hF]; go_simp
  have d8_0 : wF.cell? ⟨w2.heap.size + 1, 0, none⟩ = some (B (l0 lf)) := by rw [hF]; go_simp
  have d8_1 : wF.cell? ⟨w2.heap.size + 1, 1, none⟩ = some (B (l1 lf)) := by rw [hF]; go_simp
  have d8_2 : wF.cell? ⟨w2.heap.size + 1, 2, none⟩ = some (B (l2 lf)) := by rw [hF]; go_simp
  have d8_3 : wF.cell? ⟨w2.heap.size + 1, 3, none⟩ = some (B (l3 lf)) := by rw [hF]; go_simp
  have hBF : Below w.heap.size w wF := by rw [hF]; (repeat (first | exact Below.refl _ _ | apply Below.drew | refine bel_alloc ?_ _ | refine bel_set ?_ (by first | (simp; done) | (simp; omega)) _ | refine bel_call ?_ (by assumption)))
  clear hF
  replace d0_0 := cell_regrown d0_0
  replace d0_1 := cell_regrown d0_1
  replace d0_2 := cell_regrown d0_2
  replace d0_3 := cell_regrown d0_3
  replace d1_0 := cell_regrown d1_0
  replace d1_1 := cell_regrown d1_1
  replace d1_2 := cell_regrown d1_2
  replace d1_3 := cell_regrown d1_3
  replace d2_0 := cell_regrown d2_0
  replace d2_1 := cell_regrown d2_1
  replace d2_2 := cell_regrown d2_2
  replace d2_3 := cell_regrown d2_3
  replace d3_0 := cell_regrown d3_0
  replace d3_1 := cell_regrown d3_1
  replace d3_2 := cell_regrown d3_2
  replace d3_3 := cell_regrown d3_3
  replace d4_0 := cell_regrown d4_0
  replace d4_1 := cell_regrown d4_1
  replace d4_2 := cell_regrown d4_2
  replace d4_3 := cell_regrown d4_3
  replace d5_0 := cell_regrown d5_0
  replace d5_1 := cell_regrown d5_1
  replace d5_2 := cell_regrown d5_2
  replace d5_3 := cell_regrown d5_3
  replace d6_0 := cell_regrown d6_0
  replace d6_1 := cell_regrown d6_1
  replace d6_2 := cell_regrown d6_2
  replace d6_3 := cell_regrown d6_3
  replace d7_0 := cell_regrown d7_0
  replace d7_1 := cell_regrown d7_1
  replace d7_2 := cell_regrown d7_2
  replace d7_3 := cell_regrown d7_3
  replace d8_0 := cell_regrown d8_0
  replace d8_1 := cell_regrown d8_1
  replace d8_2 := cell_regrown d8_2
  replace d8_3 := cell_regrown d8_3
  refine wp_region_quiet_below (by kernel_rfl) (by kernel_rfl) ?_
  repeat (go_big_quiet_step (fail))
  go_big_quiet_step ((exact Calls.regrown_of (x1.out _)))
  repeat (go_big_quiet_step (fail))
  go_big_quiet_step ((exact Calls.regrown_of (x2.out _)))
  repeat (go_big_quiet_step (fail))
  go_big_quiet_step ((exact Calls.regrown_of (x3.out _)))
  repeat (go_big_quiet_step (fail))
  go_big_quiet_step ((exact Calls.regrown_of (y1.out _)))
  repeat (go_big_quiet_step (fail))
  go_big_quiet_step ((exact Calls.regrown_of (y2.out _)))
  repeat (go_big_quiet_step (fail))
  go_big_quiet_step ((exact Calls.regrown_of (y3.out _)))
  repeat (go_big_quiet_step (fail))
  go_big_quiet_step ((exact Calls.regrown_of (v1.out _)))
  repeat (go_big_quiet_step (fail))
  go_big_quiet_step ((exact Calls.regrown_of (v2.out _)))
  repeat (go_big_quiet_step (fail))
  go_big_quiet_step ((exact Calls.regrown_of (v3.out _)))
  repeat (go_big_quiet_step (fail))
  go_big_quiet_step ((exact Calls.regrown_of (v4.out _)))
  repeat (go_big_quiet_step (fail))
  go_big_quiet_step ((exact Calls.regrown_of (ha.out _)))
  repeat (go_big_quiet_step (fail))
  refine wpQuiet_nil ?_
  intro _ hw'
  obtain ⟨⟨dq', osq⟩, hw''⟩ := hw'
  subst hw''
  go_wp2
  go_ret
  exact ⟨rfl, bel_call hBF (below_regrown wF dq' osq)⟩

theorem twice_walk (a m i k : Nat) (ha : a < W) (hm : m < W) (hi : i < 65536) (hk : k < 65536) (w : World) : Calls Try.prog 8 #[U a, U m, .int .u16 (i : Nat), .int .u16 (k : Nat)] w fun e w' => e = .returned (.bool true) ∧ Below w.heap.size w w' := by
  have hMW : M < W := by decide +kernel
  have hp : i * k < 4294967296 := by
    have : i * k ≤ 65535 * 65535 := Nat.mul_le_mul (by omega) (by omega)
    omega
  have hiM : i < M := by unfold M; omega
  have hkM : k < M := by unfold M; omega
  have hnM : i * k < M := by unfold M; omega
  have eU : ∀ x, x < M → I4 (x : Nat) 0 0 0 = U x := fun x hx => (U_lit x hx).symm
  have one : rm 1 m = dr 0 1 m := by unfold dr rm; rw [Nat.zero_mul, Nat.zero_add]
  have lef : rm a m = dr 0 a m := by unfold dr rm; rw [Nat.zero_mul, Nat.zero_add]
  have hW1 : rm a W = a := by rw [rm_W, Nat.mod_eq_of_lt ha]
  refine twice_gen a m i k (i * k) (1 / m) (rm 1 m) (a / m) (rm a m) (rm (a ^ i) W) (rm (a ^ (i * k)) W) (rm (a ^ i) m) (rm (a ^ (i * k)) m) hi hk ?_ ?_ ?_ (fun w => ?_) (fun w => ?_) (fun w => ?_) (fun w => ?_) (fun w => ?_) (fun w => ?_) (fun w => ?_) (fun w => ?_) (fun w => ?_) (fun w => ?_) (fun w => ?_) (fun w => ?_) awake3_any w
  · simp only [IntKind.wrap_u64]; omega
  · simp only [IntKind.wrap_u64]; omega
  · rw [show (i : Int) * (k : Int) = ((i * k : Nat) : Int) by simp]
    generalize i * k = x at *
    simp only [IntKind.wrap_u64]; omega
  · have h := rdiv_any 1 m (by decide +kernel) hm w
    rw [U_1, ← one] at h; exact h
  · have h := rdiv_any a m ha hm w
    rw [← lef] at h; exact h
  · rw [eU i hiM]; exact exp_any a i ha (Nat.lt_trans hiM hMW) w
  · have h := exp_any (rm (a ^ i) W) k (by rw [rm_W]; exact Nat.mod_lt _ W_pos) (Nat.lt_trans hkM hMW) w
    rw [pw_twice] at h
    rw [eU k hkM]; exact h
  · rw [eU _ hnM]; exact exp_any a (i * k) ha (Nat.lt_trans hnM hMW) w
  · rw [eU i hiM]; exact pow_any a i m ha (Nat.lt_trans hiM hMW) hm w
  · have h := pow_any (rm (a ^ i) m) k m (rm_lt _ hm) (Nat.lt_trans hkM hMW) hm w
    rw [pw_twice] at h
    rw [eU k hkM]; exact h
  · rw [eU _ hnM]; exact pow_any a (i * k) m ha (Nat.lt_trans hnM hMW) hm w
  · have h := exp_any a 0 ha W_pos w
    rw [Nat.pow_zero, show rm 1 W = 1 by decide +kernel, U_zero, U_1] at h; exact h
  · have h := exp_any a 1 ha (by decide +kernel) w
    rw [Nat.pow_one, hW1, U_1] at h; exact h
  · have h := pow_any a 0 m ha W_pos hm w
    rw [Nat.pow_zero, U_zero] at h; exact h
  · have h := pow_any a 1 m ha (by decide +kernel) hm w
    rw [Nat.pow_one, U_1] at h; exact h
end Go.Proofs.Ytillbhdcnhcbhaa
