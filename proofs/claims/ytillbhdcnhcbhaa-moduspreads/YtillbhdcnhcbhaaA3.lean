/- The examples of chapter 3 hold. -/
import Derived.Test.YtillbhdcnhcbhaaIn
import Derived.Lib.QuietBelow
import Derived.BigQuiet
namespace Go.Proofs.Ytillbhdcnhcbhaa
open Go.RowKit Go.Sort
set_option linter.unusedVariables false
attribute [local go_sem] run_eq4 run_eqU_same

set_option maxRecDepth 100000 in
set_option maxHeartbeats 4000000 in
theorem awake3_gen 
    (h1 : Hid (∀ w, Calls Try.prog 14 #[I4 3 0 0 0, I4 7 0 0 0] w fun e w' => e = .returned (.tuple #[I4 5 0 0 0, .bool true]) ∧ Below w.heap.size w w'))
    (h2 : Hid (∀ w, Calls Try.prog 14 #[I4 2 0 0 0, I4 4 0 0 0] w fun e w' => e = .returned (.tuple #[I4 0 0 0 0, .bool false]) ∧ Below w.heap.size w w'))
    (h3 : Hid (∀ w, Calls Try.prog 16 #[I4 18446744073709551615 18446744073709551615 18446744073709551615 18446744073709551615, I4 2 0 0 0, I4 10 0 0 0] w fun e w' => e = .returned (I4 7 0 0 0) ∧ Below w.heap.size w w'))
    (h4 : Hid (∀ w, Calls Try.prog 20 #[I4 3 0 0 0, I4 5 0 0 0] w fun e w' => e = .returned (I4 243 0 0 0) ∧ Below w.heap.size w w')) (w : World) :
    Calls Try.prog 24 #[] w fun e w' => e = .returned (.bool true) ∧ Below w.heap.size w w' := by
  go_enter Try.func24, Try.ntmps24
  go_wp2_with fail
  refine (h1.out _).mono ?_
  rintro e w1 ⟨rfl, hb1⟩
  obtain ⟨p1, f1, z1⟩ := bcell hb1
  try simp at z1
  clear p1 f1
  go_wp2_with fail
  refine (h2.out _).mono ?_
  rintro e w2 ⟨rfl, hb2⟩
  obtain ⟨p2, f2, z2⟩ := bcell hb2
  try simp at z2
  have q2_0 : w1.heap.size < w2.heap.size := by omega
  have c2_0_0 : w2.cell? ⟨w1.heap.size, 0, none⟩ = some (.int .u64 5) := by rw [p2 _ _ (by first | assumption | omega | (simp; done) | (simp; omega))]; go_simp
  have c2_0_1 : w2.cell? ⟨w1.heap.size, 1, none⟩ = some (.int .u64 0) := by rw [p2 _ _ (by first | assumption | omega | (simp; done) | (simp; omega))]; go_simp
  have c2_0_2 : w2.cell? ⟨w1.heap.size, 2, none⟩ = some (.int .u64 0) := by rw [p2 _ _ (by first | assumption | omega | (simp; done) | (simp; omega))]; go_simp
  have c2_0_3 : w2.cell? ⟨w1.heap.size, 3, none⟩ = some (.int .u64 0) := by rw [p2 _ _ (by first | assumption | omega | (simp; done) | (simp; omega))]; go_simp
  clear p2 f2
  go_wp2_with fail
  refine (h3.out _).mono ?_
  rintro e w3 ⟨rfl, hb3⟩
  obtain ⟨p3, f3, z3⟩ := bcell hb3
  try simp at z3
  have q3_0 : w1.heap.size < w3.heap.size := by omega
  have q3_1 : w2.heap.size < w3.heap.size := by omega
  have q3_2 : w2.heap.size + 1 < w3.heap.size := by omega
  have c3_0_0 : w3.cell? ⟨w1.heap.size, 0, none⟩ = some (.int .u64 5) := by rw [p3 _ _ (by first | assumption | omega | (simp; done) | (simp; omega))]; go_simp
  have c3_0_1 : w3.cell? ⟨w1.heap.size, 1, none⟩ = some (.int .u64 0) := by rw [p3 _ _ (by first | assumption | omega | (simp; done) | (simp; omega))]; go_simp
  have c3_0_2 : w3.cell? ⟨w1.heap.size, 2, none⟩ = some (.int .u64 0) := by rw [p3 _ _ (by first | assumption | omega | (simp; done) | (simp; omega))]; go_simp
  have c3_0_3 : w3.cell? ⟨w1.heap.size, 3, none⟩ = some (.int .u64 0) := by rw [p3 _ _ (by first | assumption | omega | (simp; done) | (simp; omega))]; go_simp
  have c3_1_0 : w3.cell? ⟨w2.heap.size, 0, none⟩ = some (.int .u64 0) := by rw [p3 _ _ (by first | assumption | omega | (simp; done) | (simp; omega))]; go_simp
  have c3_1_1 : w3.cell? ⟨w2.heap.size, 1, none⟩ = some (.int .u64 0) := by rw [p3 _ _ (by first | assumption | omega | (simp; done) | (simp; omega))]; go_simp
  have c3_1_2 : w3.cell? ⟨w2.heap.size, 2, none⟩ = some (.int .u64 0) := by rw [p3 _ _ (by first | assumption | omega | (simp; done) | (simp; omega))]; go_simp
  have c3_1_3 : w3.cell? ⟨w2.heap.size, 3, none⟩ = some (.int .u64 0) := by rw [p3 _ _ (by first | assumption | omega | (simp; done) | (simp; omega))]; go_simp
  have c3_2_0 : w3.cell? ⟨w2.heap.size + 1, 0, none⟩ = some (.int .u64 18446744073709551615) := by rw [p3 _ _ (by first | assumption | omega | (simp; done) | (simp; omega))]; go_simp
  have c3_2_1 : w3.cell? ⟨w2.heap.size + 1, 1, none⟩ = some (.int .u64 18446744073709551615) := by rw [p3 _ _ (by first | assumption | omega | (simp; done) | (simp; omega))]; go_simp
  have c3_2_2 : w3.cell? ⟨w2.heap.size + 1, 2, none⟩ = some (.int .u64 18446744073709551615) := by rw [p3 _ _ (by first | assumption | omega | (simp; done) | (simp; omega))]; go_simp
  have c3_2_3 : w3.cell? ⟨w2.heap.size + 1, 3, none⟩ = some (.int .u64 18446744073709551615) := by rw [p3 _ _ (by first | assumption | omega | (simp; done) | (simp; omega))]; go_simp
  clear p3 f3
  clear c2_0_0 c2_0_1 c2_0_2 c2_0_3
  go_wp2_with fail
  refine (h4.out _).mono ?_
  rintro e w4 ⟨rfl, hb4⟩
  obtain ⟨p4, f4, z4⟩ := bcell hb4
  try simp at z4
  have q4_0 : w1.heap.size < w4.heap.size := by omega
  have q4_1 : w2.heap.size < w4.heap.size := by omega
  have q4_2 : w2.heap.size + 1 < w4.heap.size := by omega
  have c4_0_0 : w4.cell? ⟨w1.heap.size, 0, none⟩ = some (.int .u64 5) := by rw [p4 _ _ (by first | assumption | omega | (simp; done) | (simp; omega))]; go_simp
  have c4_0_1 : w4.cell? ⟨w1.heap.size, 1, none⟩ = some (.int .u64 0) := by rw [p4 _ _ (by first | assumption | omega | (simp; done) | (simp; omega))]; go_simp
  have c4_0_2 : w4.cell? ⟨w1.heap.size, 2, none⟩ = some (.int .u64 0) := by rw [p4 _ _ (by first | assumption | omega | (simp; done) | (simp; omega))]; go_simp
  have c4_0_3 : w4.cell? ⟨w1.heap.size, 3, none⟩ = some (.int .u64 0) := by rw [p4 _ _ (by first | assumption | omega | (simp; done) | (simp; omega))]; go_simp
  have c4_1_0 : w4.cell? ⟨w2.heap.size, 0, none⟩ = some (.int .u64 0) := by rw [p4 _ _ (by first | assumption | omega | (simp; done) | (simp; omega))]; go_simp
  have c4_1_1 : w4.cell? ⟨w2.heap.size, 1, none⟩ = some (.int .u64 0) := by rw [p4 _ _ (by first | assumption | omega | (simp; done) | (simp; omega))]; go_simp
  have c4_1_2 : w4.cell? ⟨w2.heap.size, 2, none⟩ = some (.int .u64 0) := by rw [p4 _ _ (by first | assumption | omega | (simp; done) | (simp; omega))]; go_simp
  have c4_1_3 : w4.cell? ⟨w2.heap.size, 3, none⟩ = some (.int .u64 0) := by rw [p4 _ _ (by first | assumption | omega | (simp; done) | (simp; omega))]; go_simp
  have c4_2_0 : w4.cell? ⟨w2.heap.size + 1, 0, none⟩ = some (.int .u64 18446744073709551615) := by rw [p4 _ _ (by first | assumption | omega | (simp; done) | (simp; omega))]; go_simp
  have c4_2_1 : w4.cell? ⟨w2.heap.size + 1, 1, none⟩ = some (.int .u64 18446744073709551615) := by rw [p4 _ _ (by first | assumption | omega | (simp; done) | (simp; omega))]; go_simp
  have c4_2_2 : w4.cell? ⟨w2.heap.size + 1, 2, none⟩ = some (.int .u64 18446744073709551615) := by rw [p4 _ _ (by first | assumption | omega | (simp; done) | (simp; omega))]; go_simp
  have c4_2_3 : w4.cell? ⟨w2.heap.size + 1, 3, none⟩ = some (.int .u64 18446744073709551615) := by rw [p4 _ _ (by first | assumption | omega | (simp; done) | (simp; omega))]; go_simp
  clear p4 f4
  clear c3_0_0 c3_0_1 c3_0_2 c3_0_3 c3_1_0 c3_1_1 c3_1_2 c3_1_3 c3_2_0 c3_2_1 c3_2_2 c3_2_3
  go_wp2
  go_ret
  exact ⟨rfl, by (repeat (first | exact Below.refl _ _ | apply Below.drew | refine bel_alloc ?_ _ | refine bel_set ?_ (by first | (simp; done) | (simp; omega)) _ | refine bel_call ?_ (by assumption)))⟩

theorem U_all : U 115792089237316195423570985008687907853269984665640564039457584007913129639935 = I4 18446744073709551615 18446744073709551615 18446744073709551615 18446744073709551615 := by kernel_rfl
theorem U_5 : U 5 = I4 5 0 0 0 := by kernel_rfl
theorem U_243 : U 243 = I4 243 0 0 0 := by kernel_rfl
theorem inv_fixed (a m x : Nat) (ok : Bool) (ha : a < W) (hm : m < W) (hI : IV a m x ok) (w : World) : Calls Try.prog 14 #[U a, U m] w fun e w' => e = .returned (.tuple #[U x, .bool ok]) ∧ Below w.heap.size w w' := by
  refine (inv_any a m ha hm w).mono ?_
  rintro e w' ⟨⟨y, q, hY, _, rfl⟩, hb⟩
  obtain ⟨rfl, rfl⟩ := hI.unique hY
  exact ⟨rfl, hb⟩
theorem awake3_any (w : World) : Calls Try.prog 24 #[] w fun e w' => e = .returned (.bool true) ∧ Below w.heap.size w w' := by
  refine awake3_gen (fun w => ?_) (fun w => ?_) (fun w => ?_) (fun w => ?_) w
  · have h := inv_fixed 3 7 5 true (by decide +kernel) (by decide +kernel) ⟨fun _ => by decide, fun h => by cases h⟩ w
    rw [U_3, U_7, U_5] at h
    exact h
  · have h := inv_fixed 2 4 0 false (by decide +kernel) (by decide +kernel) ⟨(fun h => by cases h), fun _ => ⟨rfl, fun y _ => by omega⟩⟩ w
    rw [U_2, U_4, U_zero] at h
    exact h
  · have h := addmod_any 115792089237316195423570985008687907853269984665640564039457584007913129639935 2 10 (by decide +kernel) (by decide +kernel) (by decide +kernel) w
    rw [show rm (115792089237316195423570985008687907853269984665640564039457584007913129639935 + 2) 10 = 7 by decide +kernel, U_all, U_2, U_10, U_7] at h
    exact h
  · have h := exp_any 3 5 (by decide +kernel) (by decide +kernel) w
    rw [show rm (3 ^ 5) W = 243 by decide +kernel, U_3, U_5, U_243] at h
    exact h
end Go.Proofs.Ytillbhdcnhcbhaa
