/- The examples of chapter 2 hold: the function awake hands back true, and changes nothing that was there. -/
import Derived.Test.YtillbhdcnhcbhaaDc
import Derived.Lib.QuietBelow
import Derived.BigQuiet
namespace Go.Proofs.Ytillbhdcnhcbhaa
open Go.RowKit Go.Sort
set_option linter.unusedVariables false
attribute [local go_sem] run_eq4 run_eqU_same

set_option maxRecDepth 100000 in
set_option maxHeartbeats 4000000 in
theorem awake_gen 
    (hw : Hid (∀ w, Calls Try.prog 33 #[I4 0 0 0 9223372036854775808, I4 4 0 0 0] w fun e w' => e = .returned (.tuple #[I4 2 0 0 0, I4 0 0 0 0]) ∧ Below w.heap.size w w'))
    (hd : Hid (∀ w, Calls Try.prog 9 #[I4 7 0 0 0, I4 2 0 0 0] w fun e w' => e = .returned (.tuple #[I4 3 0 0 0, I4 1 0 0 0]) ∧ Below w.heap.size w w'))
    (hz : Hid (∀ w, Calls Try.prog 9 #[I4 7 0 0 0, I4 0 0 0 0] w fun e w' => e = .returned (.tuple #[I4 0 0 0 0, I4 0 0 0 0]) ∧ Below w.heap.size w w'))
    (hr : Hid (∀ w, Calls Try.prog 11 #[I4 1 0 0 0, I4 0 0 0 0, I4 10 0 0 0] w fun e w' => e = .returned (I4 6 0 0 0) ∧ Below w.heap.size w w')) (w : World) :
    Calls Try.prog 13 #[] w fun e w' => e = .returned (.bool true) ∧ Below w.heap.size w w' := by
  go_enter Try.func13, Try.ntmps13
  go_wp2_with fail
  refine (hw.out _).mono ?_
  rintro e w1 ⟨rfl, hb1⟩
  obtain ⟨p1, f1, z1⟩ := bcell hb1
  try simp at z1
  clear p1 f1
  go_wp2_with fail
  refine (hd.out _).mono ?_
  rintro e w2 ⟨rfl, hb2⟩
  obtain ⟨p2, f2, z2⟩ := bcell hb2
  try simp at z2
  have q2_0 : w1.heap.size < w2.heap.size := by omega
  have q2_1 : w1.heap.size + 1 < w2.heap.size := by omega
  have c2_0_0 : w2.cell? ⟨w1.heap.size, 0, none⟩ = some (.int .u64 2) := by rw [p2 _ _ (by first | assumption | omega | (simp; done) | (simp; omega))]; go_simp
  have c2_0_1 : w2.cell? ⟨w1.heap.size, 1, none⟩ = some (.int .u64 0) := by rw [p2 _ _ (by first | assumption | omega | (simp; done) | (simp; omega))]; go_simp
  have c2_0_2 : w2.cell? ⟨w1.heap.size, 2, none⟩ = some (.int .u64 0) := by rw [p2 _ _ (by first | assumption | omega | (simp; done) | (simp; omega))]; go_simp
  have c2_0_3 : w2.cell? ⟨w1.heap.size, 3, none⟩ = some (.int .u64 0) := by rw [p2 _ _ (by first | assumption | omega | (simp; done) | (simp; omega))]; go_simp
  have c2_1_0 : w2.cell? ⟨w1.heap.size + 1, 0, none⟩ = some (.int .u64 0) := by rw [p2 _ _ (by first | assumption | omega | (simp; done) | (simp; omega))]; go_simp
  have c2_1_1 : w2.cell? ⟨w1.heap.size + 1, 1, none⟩ = some (.int .u64 0) := by rw [p2 _ _ (by first | assumption | omega | (simp; done) | (simp; omega))]; go_simp
  have c2_1_2 : w2.cell? ⟨w1.heap.size + 1, 2, none⟩ = some (.int .u64 0) := by rw [p2 _ _ (by first | assumption | omega | (simp; done) | (simp; omega))]; go_simp
  have c2_1_3 : w2.cell? ⟨w1.heap.size + 1, 3, none⟩ = some (.int .u64 0) := by rw [p2 _ _ (by first | assumption | omega | (simp; done) | (simp; omega))]; go_simp
  clear p2 f2
  go_wp2_with fail
  refine (hz.out _).mono ?_
  rintro e w3 ⟨rfl, hb3⟩
  obtain ⟨p3, f3, z3⟩ := bcell hb3
  try simp at z3
  have q3_0 : w1.heap.size < w3.heap.size := by omega
  have q3_1 : w1.heap.size + 1 < w3.heap.size := by omega
  have q3_2 : w2.heap.size < w3.heap.size := by omega
  have q3_3 : w2.heap.size + 1 < w3.heap.size := by omega
  have c3_0_0 : w3.cell? ⟨w1.heap.size, 0, none⟩ = some (.int .u64 2) := by rw [p3 _ _ (by first | assumption | omega | (simp; done) | (simp; omega))]; go_simp
  have c3_0_1 : w3.cell? ⟨w1.heap.size, 1, none⟩ = some (.int .u64 0) := by rw [p3 _ _ (by first | assumption | omega | (simp; done) | (simp; omega))]; go_simp
  have c3_0_2 : w3.cell? ⟨w1.heap.size, 2, none⟩ = some (.int .u64 0) := by rw [p3 _ _ (by first | assumption | omega | (simp; done) | (simp; omega))]; go_simp
  have c3_0_3 : w3.cell? ⟨w1.heap.size, 3, none⟩ = some (.int .u64 0) := by rw [p3 _ _ (by first | assumption | omega | (simp; done) | (simp; omega))]; go_simp
  have c3_1_0 : w3.cell? ⟨w1.heap.size + 1, 0, none⟩ = some (.int .u64 0) := by rw [p3 _ _ (by first | assumption | omega | (simp; done) | (simp; omega))]; go_simp
  have c3_1_1 : w3.cell? ⟨w1.heap.size + 1, 1, none⟩ = some (.int .u64 0) := by rw [p3 _ _ (by first | assumption | omega | (simp; done) | (simp; omega))]; go_simp
  have c3_1_2 : w3.cell? ⟨w1.heap.size + 1, 2, none⟩ = some (.int .u64 0) := by rw [p3 _ _ (by first | assumption | omega | (simp; done) | (simp; omega))]; go_simp
  have c3_1_3 : w3.cell? ⟨w1.heap.size + 1, 3, none⟩ = some (.int .u64 0) := by rw [p3 _ _ (by first | assumption | omega | (simp; done) | (simp; omega))]; go_simp
  have c3_2_0 : w3.cell? ⟨w2.heap.size, 0, none⟩ = some (.int .u64 3) := by rw [p3 _ _ (by first | assumption | omega | (simp; done) | (simp; omega))]; go_simp
  have c3_2_1 : w3.cell? ⟨w2.heap.size, 1, none⟩ = some (.int .u64 0) := by rw [p3 _ _ (by first | assumption | omega | (simp; done) | (simp; omega))]; go_simp
  have c3_2_2 : w3.cell? ⟨w2.heap.size, 2, none⟩ = some (.int .u64 0) := by rw [p3 _ _ (by first | assumption | omega | (simp; done) | (simp; omega))]; go_simp
  have c3_2_3 : w3.cell? ⟨w2.heap.size, 3, none⟩ = some (.int .u64 0) := by rw [p3 _ _ (by first | assumption | omega | (simp; done) | (simp; omega))]; go_simp
  have c3_3_0 : w3.cell? ⟨w2.heap.size + 1, 0, none⟩ = some (.int .u64 1) := by rw [p3 _ _ (by first | assumption | omega | (simp; done) | (simp; omega))]; go_simp
  have c3_3_1 : w3.cell? ⟨w2.heap.size + 1, 1, none⟩ = some (.int .u64 0) := by rw [p3 _ _ (by first | assumption | omega | (simp; done) | (simp; omega))]; go_simp
  have c3_3_2 : w3.cell? ⟨w2.heap.size + 1, 2, none⟩ = some (.int .u64 0) := by rw [p3 _ _ (by first | assumption | omega | (simp; done) | (simp; omega))]; go_simp
  have c3_3_3 : w3.cell? ⟨w2.heap.size + 1, 3, none⟩ = some (.int .u64 0) := by rw [p3 _ _ (by first | assumption | omega | (simp; done) | (simp; omega))]; go_simp
  clear p3 f3
  clear c2_0_0 c2_0_1 c2_0_2 c2_0_3 c2_1_0 c2_1_1 c2_1_2 c2_1_3
  go_wp2_with fail
  refine (hr.out _).mono ?_
  rintro e w4 ⟨rfl, hb4⟩
  obtain ⟨p4, f4, z4⟩ := bcell hb4
  try simp at z4
  have q4_0 : w1.heap.size < w4.heap.size := by omega
  have q4_1 : w1.heap.size + 1 < w4.heap.size := by omega
  have q4_2 : w2.heap.size < w4.heap.size := by omega
  have q4_3 : w2.heap.size + 1 < w4.heap.size := by omega
  have q4_4 : w3.heap.size < w4.heap.size := by omega
  have q4_5 : w3.heap.size + 1 < w4.heap.size := by omega
  have c4_0_0 : w4.cell? ⟨w1.heap.size, 0, none⟩ = some (.int .u64 2) := by rw [p4 _ _ (by first | assumption | omega | (simp; done) | (simp; omega))]; go_simp
  have c4_0_1 : w4.cell? ⟨w1.heap.size, 1, none⟩ = some (.int .u64 0) := by rw [p4 _ _ (by first | assumption | omega | (simp; done) | (simp; omega))]; go_simp
  have c4_0_2 : w4.cell? ⟨w1.heap.size, 2, none⟩ = some (.int .u64 0) := by rw [p4 _ _ (by first | assumption | omega | (simp; done) | (simp; omega))]; go_simp
  have c4_0_3 : w4.cell? ⟨w1.heap.size, 3, none⟩ = some (.int .u64 0) := by rw [p4 _ _ (by first | assumption | omega | (simp; done) | (simp; omega))]; go_simp
  have c4_1_0 : w4.cell? ⟨w1.heap.size + 1, 0, none⟩ = some (.int .u64 0) := by rw [p4 _ _ (by first | assumption | omega | (simp; done) | (simp; omega))]; go_simp
  have c4_1_1 : w4.cell? ⟨w1.heap.size + 1, 1, none⟩ = some (.int .u64 0) := by rw [p4 _ _ (by first | assumption | omega | (simp; done) | (simp; omega))]; go_simp
  have c4_1_2 : w4.cell? ⟨w1.heap.size + 1, 2, none⟩ = some (.int .u64 0) := by rw [p4 _ _ (by first | assumption | omega | (simp; done) | (simp; omega))]; go_simp
  have c4_1_3 : w4.cell? ⟨w1.heap.size + 1, 3, none⟩ = some (.int .u64 0) := by rw [p4 _ _ (by first | assumption | omega | (simp; done) | (simp; omega))]; go_simp
  have c4_2_0 : w4.cell? ⟨w2.heap.size, 0, none⟩ = some (.int .u64 3) := by rw [p4 _ _ (by first | assumption | omega | (simp; done) | (simp; omega))]; go_simp
  have c4_2_1 : w4.cell? ⟨w2.heap.size, 1, none⟩ = some (.int .u64 0) := by rw [p4 _ _ (by first | assumption | omega | (simp; done) | (simp; omega))]; go_simp
  have c4_2_2 : w4.cell? ⟨w2.heap.size, 2, none⟩ = some (.int .u64 0) := by rw [p4 _ _ (by first | assumption | omega | (simp; done) | (simp; omega))]; go_simp
  have c4_2_3 : w4.cell? ⟨w2.heap.size, 3, none⟩ = some (.int .u64 0) := by rw [p4 _ _ (by first | assumption | omega | (simp; done) | (simp; omega))]; go_simp
  have c4_3_0 : w4.cell? ⟨w2.heap.size + 1, 0, none⟩ = some (.int .u64 1) := by rw [p4 _ _ (by first | assumption | omega | (simp; done) | (simp; omega))]; go_simp
  have c4_3_1 : w4.cell? ⟨w2.heap.size + 1, 1, none⟩ = some (.int .u64 0) := by rw [p4 _ _ (by first | assumption | omega | (simp; done) | (simp; omega))]; go_simp
  have c4_3_2 : w4.cell? ⟨w2.heap.size + 1, 2, none⟩ = some (.int .u64 0) := by rw [p4 _ _ (by first | assumption | omega | (simp; done) | (simp; omega))]; go_simp
  have c4_3_3 : w4.cell? ⟨w2.heap.size + 1, 3, none⟩ = some (.int .u64 0) := by rw [p4 _ _ (by first | assumption | omega | (simp; done) | (simp; omega))]; go_simp
  have c4_4_0 : w4.cell? ⟨w3.heap.size, 0, none⟩ = some (.int .u64 0) := by rw [p4 _ _ (by first | assumption | omega | (simp; done) | (simp; omega))]; go_simp
  have c4_4_1 : w4.cell? ⟨w3.heap.size, 1, none⟩ = some (.int .u64 0) := by rw [p4 _ _ (by first | assumption | omega | (simp; done) | (simp; omega))]; go_simp
  have c4_4_2 : w4.cell? ⟨w3.heap.size, 2, none⟩ = some (.int .u64 0) := by rw [p4 _ _ (by first | assumption | omega | (simp; done) | (simp; omega))]; go_simp
  have c4_4_3 : w4.cell? ⟨w3.heap.size, 3, none⟩ = some (.int .u64 0) := by rw [p4 _ _ (by first | assumption | omega | (simp; done) | (simp; omega))]; go_simp
  have c4_5_0 : w4.cell? ⟨w3.heap.size + 1, 0, none⟩ = some (.int .u64 0) := by rw [p4 _ _ (by first | assumption | omega | (simp; done) | (simp; omega))]; go_simp
  have c4_5_1 : w4.cell? ⟨w3.heap.size + 1, 1, none⟩ = some (.int .u64 0) := by rw [p4 _ _ (by first | assumption | omega | (simp; done) | (simp; omega))]; go_simp
  have c4_5_2 : w4.cell? ⟨w3.heap.size + 1, 2, none⟩ = some (.int .u64 0) := by rw [p4 _ _ (by first | assumption | omega | (simp; done) | (simp; omega))]; go_simp
  have c4_5_3 : w4.cell? ⟨w3.heap.size + 1, 3, none⟩ = some (.int .u64 0) := by rw [p4 _ _ (by first | assumption | omega | (simp; done) | (simp; omega))]; go_simp
  clear p4 f4
  clear c3_0_0 c3_0_1 c3_0_2 c3_0_3 c3_1_0 c3_1_1 c3_1_2 c3_1_3 c3_2_0 c3_2_1 c3_2_2 c3_2_3 c3_3_0 c3_3_1 c3_3_2 c3_3_3
  go_wp2
  go_ret
  exact ⟨rfl, by (repeat (first | exact Below.refl _ _ | apply Below.drew | refine bel_alloc ?_ _ | refine bel_set ?_ (by first | (simp; done) | (simp; omega)) _ | refine bel_call ?_ (by assumption)))⟩

theorem U_lit (n : Nat) (h : n < M) : U n = I4 (n : Nat) 0 0 0 := by
  obtain ⟨e0, e1, e2, e3⟩ := of_parts n h
  unfold U
  rw [e0, e1, e2, e3]
  rfl
theorem U_top : U 57896044618658097711785492504343953926634992332820282019728792003956564819968 = I4 0 0 0 9223372036854775808 := by kernel_rfl
theorem U_2 : U 2 = I4 2 0 0 0 := by kernel_rfl
theorem U_1 : U 1 = I4 1 0 0 0 := by kernel_rfl
theorem U_3 : U 3 = I4 3 0 0 0 := by kernel_rfl
theorem U_4 : U 4 = I4 4 0 0 0 := by kernel_rfl
theorem U_6 : U 6 = I4 6 0 0 0 := by kernel_rfl
theorem U_7 : U 7 = I4 7 0 0 0 := by kernel_rfl
theorem U_10 : U 10 = I4 10 0 0 0 := by kernel_rfl
theorem awake_any (w : World) : Calls Try.prog 13 #[] w fun e w' => e = .returned (.bool true) ∧ Below w.heap.size w w' := by
  refine awake_gen (fun w => ?_) (fun w => ?_) (fun w => ?_) (fun w => ?_) w
  · have h := wide_any 57896044618658097711785492504343953926634992332820282019728792003956564819968 4 (by decide +kernel) (by decide +kernel) w
    rw [show 57896044618658097711785492504343953926634992332820282019728792003956564819968 * 4 / W = 2 by decide +kernel, show 57896044618658097711785492504343953926634992332820282019728792003956564819968 * 4 % W = 0 by decide +kernel, U_top, U_4, U_2, U_zero] at h
    exact h
  · have h := div_any 7 2 (by decide +kernel) (by decide +kernel) w
    rw [show 7 / 2 = 3 by decide, show dr 0 7 2 = 1 by decide +kernel, U_7, U_2, U_3, U_1] at h
    exact h
  · have h := div_any 7 0 (by decide +kernel) (by decide +kernel) w
    rw [show 7 / 0 = 0 by decide, show dr 0 7 0 = 0 by decide +kernel, U_7, U_zero] at h
    exact h
  · have h := rest_any 1 0 10 (by decide +kernel) (by decide +kernel) (by decide +kernel) w
    rw [show dr 1 0 10 = 6 by decide +kernel, U_1, U_zero, U_10, U_6] at h
    exact h
end Go.Proofs.Ytillbhdcnhcbhaa
