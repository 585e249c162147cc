/- The walk of the law NumSums. -/
import Derived.Test.YtgmdckibfndbkaaOr
import Derived.Lib.QuietBelow
import Derived.BigQuiet
namespace Go.Proofs.Ytgmdckibfndbkaa
open Go.RowKit Go.Sort
set_option linter.unusedVariables false

attribute [local go_sem] run_eqU_same

set_option maxRecDepth 100000 in
set_option maxHeartbeats 4000000 in
theorem sums_gen (n m k x y : Nat) (o u : Bool) (c : Int)
    (hAdd : Hid (∀ w, Calls Try.prog 9 #[U n, U m] w fun e w' => e = .returned (.tuple #[U x, .bool o]) ∧ Below w.heap.size w w'))
    (hRAdd : Hid (∀ w, Calls Try.prog 10 #[U n, U m] w fun e w' => e = .returned (.tuple #[U x, .bool o]) ∧ Below w.heap.size w w'))
    (hSub : Hid (∀ w, Calls Try.prog 11 #[U n, U m] w fun e w' => e = .returned (.tuple #[U y, .bool u]) ∧ Below w.heap.size w w'))
    (hRSub : Hid (∀ w, Calls Try.prog 12 #[U n, U m] w fun e w' => e = .returned (.tuple #[U y, .bool u]) ∧ Below w.heap.size w w'))
    (hCmp : Hid (∀ w, Calls Try.prog 13 #[U n, U m] w fun e w' => e = .returned (.int .i64 c) ∧ Below w.heap.size w w'))
    (hRCmp : Hid (∀ w, Calls Try.prog 14 #[U n, U m] w fun e w' => e = .returned (.int .i64 c) ∧ Below w.heap.size w w'))
    (hOf : Hid (∀ w, Calls Try.prog 15 #[B k] w fun e w' => e = .returned (U k) ∧ Below w.heap.size w w'))
    (hROf : Hid (∀ w, Calls Try.prog 16 #[B k] w fun e w' => e = .returned (U k) ∧ Below w.heap.size w w'))
    (hAw : Hid (∀ w, Calls Try.prog 17 #[] w fun e w' => e = .returned (.bool true) ∧ Below w.heap.size w w')) (w : World) :
    Calls Try.prog 3 #[U n, U m, B k] w fun e w' => e = .returned (.bool true) ∧ Below w.heap.size w w' := by
  go_enter Try.func3, Try.ntmps3
  go_wp2_with fail
  refine (hAdd.out _).mono ?_
  rintro e w1 ⟨rfl, hb1⟩
  obtain ⟨p1, f1, z1⟩ := bcell hb1
  try simp at z1
  have q1_0 : w.heap.size < w1.heap.size := by omega
  have q1_1 : w.heap.size + 1 < w1.heap.size := by omega
  go_wp2_with fail
  refine (hRAdd.out _).mono ?_
  rintro e w2 ⟨rfl, hb2⟩
  obtain ⟨p2, f2, z2⟩ := bcell hb2
  try simp at z2
  have q2_0 : w.heap.size < w2.heap.size := by omega
  have q2_1 : w.heap.size + 1 < w2.heap.size := by omega
  have q2_2 : w1.heap.size < w2.heap.size := by omega
  go_wp2_with fail
  refine (hSub.out _).mono ?_
  rintro e w3 ⟨rfl, hb3⟩
  obtain ⟨p3, f3, z3⟩ := bcell hb3
  try simp at z3
  have q3_0 : w.heap.size < w3.heap.size := by omega
  have q3_1 : w.heap.size + 1 < w3.heap.size := by omega
  have q3_2 : w1.heap.size < w3.heap.size := by omega
  have q3_3 : w2.heap.size < w3.heap.size := by omega
  go_wp2_with fail
  refine (hRSub.out _).mono ?_
  rintro e w4 ⟨rfl, hb4⟩
  obtain ⟨p4, f4, z4⟩ := bcell hb4
  try simp at z4
  have q4_0 : w.heap.size < w4.heap.size := by omega
  have q4_1 : w.heap.size + 1 < w4.heap.size := by omega
  have q4_2 : w1.heap.size < w4.heap.size := by omega
  have q4_3 : w2.heap.size < w4.heap.size := by omega
  have q4_4 : w3.heap.size < w4.heap.size := by omega
  go_wp2_with fail
  refine name_world _ ?_
  intro wF hF
  have c0_0 : wF.cell? ⟨w.heap.size, 0, none⟩ = some (B (l0 n)) := by rw [hF]; go_simp
  have c0_1 : wF.cell? ⟨w.heap.size, 1, none⟩ = some (B (l1 n)) := by rw [hF]; go_simp
  have c0_2 : wF.cell? ⟨w.heap.size, 2, none⟩ = some (B (l2 n)) := by rw [hF]; go_simp
  have c0_3 : wF.cell? ⟨w.heap.size, 3, none⟩ = some (B (l3 n)) := by rw [hF]; go_simp
  have c1_0 : wF.cell? ⟨(w.heap.size + 1), 0, none⟩ = some (B (l0 m)) := by rw [hF]; go_simp
  have c1_1 : wF.cell? ⟨(w.heap.size + 1), 1, none⟩ = some (B (l1 m)) := by rw [hF]; go_simp
  have c1_2 : wF.cell? ⟨(w.heap.size + 1), 2, none⟩ = some (B (l2 m)) := by rw [hF]; go_simp
  have c1_3 : wF.cell? ⟨(w.heap.size + 1), 3, none⟩ = some (B (l3 m)) := by rw [hF]; go_simp
  have c2_0 : wF.cell? ⟨w1.heap.size, 0, none⟩ = some (B (l0 x)) := by rw [hF]; go_simp
  have c2_1 : wF.cell? ⟨w1.heap.size, 1, none⟩ = some (B (l1 x)) := by rw [hF]; go_simp
  have c2_2 : wF.cell? ⟨w1.heap.size, 2, none⟩ = some (B (l2 x)) := by rw [hF]; go_simp
  have c2_3 : wF.cell? ⟨w1.heap.size, 3, none⟩ = some (B (l3 x)) := by rw [hF]; go_simp
  have c3_0 : wF.cell? ⟨w2.heap.size, 0, none⟩ = some (B (l0 x)) := by rw [hF]; go_simp
  have c3_1 : wF.cell? ⟨w2.heap.size, 1, none⟩ = some (B (l1 x)) := by rw [hF]; go_simp
  have c3_2 : wF.cell? ⟨w2.heap.size, 2, none⟩ = some (B (l2 x)) := by rw [hF]; go_simp
  have c3_3 : wF.cell? ⟨w2.heap.size, 3, none⟩ = some (B (l3 x)) := by rw [hF]; go_simp
  have c4_0 : wF.cell? ⟨w3.heap.size, 0, none⟩ = some (B (l0 y)) := by rw [hF]; go_simp
  have c4_1 : wF.cell? ⟨w3.heap.size, 1, none⟩ = some (B (l1 y)) := by rw [hF]; go_simp
  have c4_2 : wF.cell? ⟨w3.heap.size, 2, none⟩ = some (B (l2 y)) := by rw [hF]; go_simp
  have c4_3 : wF.cell? ⟨w3.heap.size, 3, none⟩ = some (B (l3 y)) := by rw [hF]; go_simp
  have c5_0 : wF.cell? ⟨w4.heap.size, 0, none⟩ = some (B (l0 y)) := by rw [hF]; go_simp
  have c5_1 : wF.cell? ⟨w4.heap.size, 1, none⟩ = some (B (l1 y)) := by rw [hF]; go_simp
  have c5_2 : wF.cell? ⟨w4.heap.size, 2, none⟩ = some (B (l2 y)) := by rw [hF]; go_simp
  have c5_3 : wF.cell? ⟨w4.heap.size, 3, none⟩ = some (B (l3 y)) := by rw [hF]; go_simp
  have hBF : Below w.heap.size w wF := by rw [hF]; (repeat (first | exact Below.refl _ _ | apply Below.drew | refine bel_alloc ?_ _ | refine bel_set ?_ (by first | (simp; done) | (simp; omega)) _ | refine bel_call ?_ (by assumption)))
  clear hF
  clear p4 f4 hb4 z4 p3 f3 hb3 z3 p2 f2 hb2 z2 p1 f1 hb1 z1
  replace c0_0 := cell_regrown c0_0
  replace c0_1 := cell_regrown c0_1
  replace c0_2 := cell_regrown c0_2
  replace c0_3 := cell_regrown c0_3
  replace c1_0 := cell_regrown c1_0
  replace c1_1 := cell_regrown c1_1
  replace c1_2 := cell_regrown c1_2
  replace c1_3 := cell_regrown c1_3
  replace c2_0 := cell_regrown c2_0
  replace c2_1 := cell_regrown c2_1
  replace c2_2 := cell_regrown c2_2
  replace c2_3 := cell_regrown c2_3
  replace c3_0 := cell_regrown c3_0
  replace c3_1 := cell_regrown c3_1
  replace c3_2 := cell_regrown c3_2
  replace c3_3 := cell_regrown c3_3
  replace c4_0 := cell_regrown c4_0
  replace c4_1 := cell_regrown c4_1
  replace c4_2 := cell_regrown c4_2
  replace c4_3 := cell_regrown c4_3
  replace c5_0 := cell_regrown c5_0
  replace c5_1 := cell_regrown c5_1
  replace c5_2 := cell_regrown c5_2
  replace c5_3 := cell_regrown c5_3
  refine wp_region_quiet_below (by kernel_rfl) (by kernel_rfl) ?_
  repeat (go_big_quiet_step (fail))
  go_big_quiet_step (exact Calls.regrown_of (hCmp.out _))
  repeat (go_big_quiet_step (fail))
  go_big_quiet_step (exact Calls.regrown_of (hRCmp.out _))
  repeat (go_big_quiet_step (fail))
  go_big_quiet_step (exact Calls.regrown_of (hOf.out _))
  repeat (go_big_quiet_step (fail))
  go_big_quiet_step (exact Calls.regrown_of (hROf.out _))
  repeat (go_big_quiet_step (fail))
  go_big_quiet_step (exact Calls.regrown_of (hAw.out _))
  repeat (go_big_quiet_step (fail))
  refine wpQuiet_nil ?_
  intro _ hw'
  obtain ⟨⟨dq, osq⟩, hw''⟩ := hw'
  subst hw''
  go_wp2
  go_ret
  exact ⟨rfl, bel_call hBF (below_regrown wF dq osq)⟩

theorem sums_walk (n m k : Nat) (hn : n < W) (hm : m < W) (hk : k < M) (w : World) : Calls Try.prog 3 #[U n, U m, B k] w fun e w' => e = .returned (.bool true) ∧ Below w.heap.size w w' :=
  sums_gen n m k (addW n m) (subW n m) (ovW n m) (unW n m) (cmpN n m) (fun w => add_any n m hn hm w) (fun w => radd_any n m hn hm w) (fun w => sub_any n m hn hm w) (fun w => rsub_any n m hn hm w) (fun w => cmp_any n m hn hm w) (fun w => rcmp_any n m hn hm w) (fun w => of_any k hk w) (fun w => rof_any k hk w) (fun w => awake_any w) w

end Go.Proofs.Ytgmdckibfndbkaa
