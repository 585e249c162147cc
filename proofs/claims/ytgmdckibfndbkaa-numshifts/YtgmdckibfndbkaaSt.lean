/- The walk of the law NumShifts. -/
import Derived.Test.YtgmdckibfndbkaaOr
import Derived.Lib.QuietBelow
import Derived.BigQuiet
namespace Go.Proofs.Ytgmdckibfndbkaa
open Go.RowKit Go.Sort
set_option linter.unusedVariables false

theorem run_eq0 (w : World) : (Op.equalIn 10000 24 (I4 0 0 0 0) (I4 0 0 0 0)).run Try.prog w = .ok true w := run_eq4 0 0 0 0 0 0 0 0 w
attribute [local go_sem] run_eqU_same run_eq0

set_option maxRecDepth 100000 in
set_option maxHeartbeats 4000000 in
theorem shifts_gen (n m k j S x t v y b : Nat) (c : Int) (q : Bool) (hk : (k : Int) % 257 = (j : Int)) (hj : j ≤ 256) (hbj : decide ((256 : Int) - (j : Int) < (b : Int)) = false) (hc0 : -1 ≤ c) (hc1 : c ≤ 1) (hq : (c == 0) = q) (hE : ∀ w, (Op.equalIn 10000 24 (U n) (U m)).run Try.prog w = .ok q w)
    (hShl : Hid (∀ w, Calls Try.prog 26 #[U n, B j] w fun e w' => e = .returned (U S) ∧ Below w.heap.size w w'))
    (hShr : Hid (∀ w, Calls Try.prog 28 #[U S, B j] w fun e w' => e = .returned (U x) ∧ Below w.heap.size w w'))
    (hNot0 : Hid (∀ w, Calls Try.prog 24 #[I4 0 0 0 0] w fun e w' => e = .returned (U t) ∧ Below w.heap.size w w'))
    (hBits : Hid (∀ w, Calls Try.prog 30 #[U x] w fun e w' => e = .returned (.int .i64 (b : Nat)) ∧ Below w.heap.size w w'))
    (hShl2 : Hid (∀ w, Calls Try.prog 26 #[U x, B j] w fun e w' => e = .returned (U S) ∧ Below w.heap.size w w'))
    (hXor0 : Hid (∀ w, Calls Try.prog 22 #[U S, U S] w fun e w' => e = .returned (I4 0 0 0 0) ∧ Below w.heap.size w w'))
    (hAnd : Hid (∀ w, Calls Try.prog 18 #[U x, U n] w fun e w' => e = .returned (U x) ∧ Below w.heap.size w w'))
    (hCmp : Hid (∀ w, Calls Try.prog 13 #[U n, U m] w fun e w' => e = .returned (.int .i64 c) ∧ Below w.heap.size w w'))
    (hCmp2 : Hid (∀ w, Calls Try.prog 13 #[U m, U n] w fun e w' => e = .returned (.int .i64 (-c)) ∧ Below w.heap.size w w'))
    (hNot : Hid (∀ w, Calls Try.prog 24 #[U n] w fun e w' => e = .returned (U v) ∧ Below w.heap.size w w'))
    (hOr : Hid (∀ w, Calls Try.prog 20 #[U n, U v] w fun e w' => e = .returned (U t) ∧ Below w.heap.size w w'))
    (hAnd0 : Hid (∀ w, Calls Try.prog 18 #[U n, U v] w fun e w' => e = .returned (I4 0 0 0 0) ∧ Below w.heap.size w w'))
    (hXor : Hid (∀ w, Calls Try.prog 22 #[U n, U m] w fun e w' => e = .returned (U y) ∧ Below w.heap.size w w'))
    (hXor2 : Hid (∀ w, Calls Try.prog 22 #[U y, U m] w fun e w' => e = .returned (U n) ∧ Below w.heap.size w w'))
    (hAw : Hid (∀ w, Calls Try.prog 17 #[] w fun e w' => e = .returned (.bool true) ∧ Below w.heap.size w w')) (w : World) :
    Calls Try.prog 7 #[U n, U m, B k] w fun e w' => e = .returned (.bool true) ∧ Below w.heap.size w w' := by
  go_enter Try.func7, Try.ntmps7
  go_wp2_with fail
  try rw [hk]
  refine (hShl.out _).mono ?_
  rintro e w1 ⟨rfl, hb1⟩
  obtain ⟨p1, f1, z1⟩ := bcell hb1
  try simp at z1
  have q1_0 : w.heap.size < w1.heap.size := by omega
  have q1_1 : w.heap.size + 1 < w1.heap.size := by omega
  go_wp2_with fail
  try rw [hk]
  refine (hShr.out _).mono ?_
  rintro e w2 ⟨rfl, hb2⟩
  obtain ⟨p2, f2, z2⟩ := bcell hb2
  try simp at z2
  have q2_0 : w.heap.size < w2.heap.size := by omega
  have q2_1 : w.heap.size + 1 < w2.heap.size := by omega
  go_wp2_with fail
  refine (hNot0.out _).mono ?_
  rintro e w3 ⟨rfl, hb3⟩
  obtain ⟨p3, f3, z3⟩ := bcell hb3
  try simp at z3
  have q3_0 : w.heap.size < w3.heap.size := by omega
  have q3_1 : w.heap.size + 1 < w3.heap.size := by omega
  have q3_2 : w2.heap.size < w3.heap.size := by omega
  go_wp2_with fail
  refine name_world _ ?_
  intro wF hF
  have c0_0 : wF.cell? ⟨w.heap.size, 0, none⟩ = some (B (l0 n)) := by rw [hF]; go_simp
  have c0_1 : wF.cell? ⟨w.heap.size, 1, none⟩ = some (B (l1 n)) := by rw [hF]; go_simp
  have c0_2 : wF.cell? ⟨w.heap.size, 2, none⟩ = some (B (l2 n)) := by rw [hF]; go_simp
  have c0_3 : wF.cell? ⟨w.heap.size, 3, none⟩ = some (B (l3 n)) := by rw [hF]; go_simp
  have c1_0 : wF.cell? ⟨(w.heap.size + 1), 0, none⟩ = some (B (l0 m)) := by rw [hF]; go_simp
  have c1_1 : wF.cell? ⟨(w.heap.size + 1), 1, none⟩ = some (B (l1 m)) := by rw [hF]; go_simp
  have c1_2 : wF.cell? ⟨(w.heap.size + 1), 2, none⟩ = some (B (l2 m)) := by rw [hF]; go_simp
  have c1_3 : wF.cell? ⟨(w.heap.size + 1), 3, none⟩ = some (B (l3 m)) := by rw [hF]; go_simp
  have c2_0 : wF.cell? ⟨w2.heap.size, 0, none⟩ = some (B (l0 x)) := by rw [hF]; go_simp
  have c2_1 : wF.cell? ⟨w2.heap.size, 1, none⟩ = some (B (l1 x)) := by rw [hF]; go_simp
  have c2_2 : wF.cell? ⟨w2.heap.size, 2, none⟩ = some (B (l2 x)) := by rw [hF]; go_simp
  have c2_3 : wF.cell? ⟨w2.heap.size, 3, none⟩ = some (B (l3 x)) := by rw [hF]; go_simp
  have c3_0 : wF.cell? ⟨w3.heap.size, 0, none⟩ = some (B (l0 t)) := by rw [hF]; go_simp
  have c3_1 : wF.cell? ⟨w3.heap.size, 1, none⟩ = some (B (l1 t)) := by rw [hF]; go_simp
  have c3_2 : wF.cell? ⟨w3.heap.size, 2, none⟩ = some (B (l2 t)) := by rw [hF]; go_simp
  have c3_3 : wF.cell? ⟨w3.heap.size, 3, none⟩ = some (B (l3 t)) := by rw [hF]; go_simp
  have hBF : Below w.heap.size w wF := by rw [hF]; (repeat (first | exact Below.refl _ _ | apply Below.drew | refine bel_alloc ?_ _ | refine bel_set ?_ (by first | (simp; done) | (simp; omega)) _ | refine bel_call ?_ (by assumption)))
  clear hF
  clear p3 f3 hb3 z3 p2 f2 hb2 z2 p1 f1 hb1 z1
  replace c0_0 := cell_regrown c0_0
  replace c0_1 := cell_regrown c0_1
  replace c0_2 := cell_regrown c0_2
  replace c0_3 := cell_regrown c0_3
  replace c1_0 := cell_regrown c1_0
  replace c1_1 := cell_regrown c1_1
  replace c1_2 := cell_regrown c1_2
  replace c1_3 := cell_regrown c1_3
  replace c2_0 := cell_regrown c2_0
  replace c2_1 := cell_regrown c2_1
  replace c2_2 := cell_regrown c2_2
  replace c2_3 := cell_regrown c2_3
  replace c3_0 := cell_regrown c3_0
  replace c3_1 := cell_regrown c3_1
  replace c3_2 := cell_regrown c3_2
  replace c3_3 := cell_regrown c3_3
  refine wp_region_quiet_below (by kernel_rfl) (by kernel_rfl) ?_
  repeat (go_big_quiet_step (fail))
  go_big_quiet_step (((try rw [hk]); exact Calls.regrown_of (hBits.out _)))
  repeat (go_big_quiet_step (fail))
  go_big_quiet_step (((try rw [hk]); exact Calls.regrown_of (hShl2.out _)))
  repeat (go_big_quiet_step (fail))
  go_big_quiet_step (((try rw [hk]); exact Calls.regrown_of (hShl.out _)))
  repeat (go_big_quiet_step (fail))
  go_big_quiet_step (((try rw [hk]); exact Calls.regrown_of (hXor0.out _)))
  repeat (go_big_quiet_step (fail))
  go_big_quiet_step (((try rw [hk]); exact Calls.regrown_of (hAnd.out _)))
  repeat (go_big_quiet_step (fail))
  refine wpQuiet_nil ?_
  intro _ hw'
  obtain ⟨⟨dq, osq⟩, hw''⟩ := hw'
  subst hw''
  go_wp2_with fail
  refine name_world _ ?_
  intro wFB hF
  have cB0_0 : wFB.cell? ⟨w.heap.size, 0, none⟩ = some (B (l0 n)) := by rw [hF]; go_simp
  have cB0_1 : wFB.cell? ⟨w.heap.size, 1, none⟩ = some (B (l1 n)) := by rw [hF]; go_simp
  have cB0_2 : wFB.cell? ⟨w.heap.size, 2, none⟩ = some (B (l2 n)) := by rw [hF]; go_simp
  have cB0_3 : wFB.cell? ⟨w.heap.size, 3, none⟩ = some (B (l3 n)) := by rw [hF]; go_simp
  have cB1_0 : wFB.cell? ⟨(w.heap.size + 1), 0, none⟩ = some (B (l0 m)) := by rw [hF]; go_simp
  have cB1_1 : wFB.cell? ⟨(w.heap.size + 1), 1, none⟩ = some (B (l1 m)) := by rw [hF]; go_simp
  have cB1_2 : wFB.cell? ⟨(w.heap.size + 1), 2, none⟩ = some (B (l2 m)) := by rw [hF]; go_simp
  have cB1_3 : wFB.cell? ⟨(w.heap.size + 1), 3, none⟩ = some (B (l3 m)) := by rw [hF]; go_simp
  have cB2_0 : wFB.cell? ⟨w3.heap.size, 0, none⟩ = some (B (l0 t)) := by rw [hF]; go_simp
  have cB2_1 : wFB.cell? ⟨w3.heap.size, 1, none⟩ = some (B (l1 t)) := by rw [hF]; go_simp
  have cB2_2 : wFB.cell? ⟨w3.heap.size, 2, none⟩ = some (B (l2 t)) := by rw [hF]; go_simp
  have cB2_3 : wFB.cell? ⟨w3.heap.size, 3, none⟩ = some (B (l3 t)) := by rw [hF]; go_simp
  have hBFB : Below w.heap.size w wFB := by rw [hF]; exact bel_call hBF (below_regrown wF dq osq)
  clear hF
  replace cB0_0 := cell_regrown cB0_0
  replace cB0_1 := cell_regrown cB0_1
  replace cB0_2 := cell_regrown cB0_2
  replace cB0_3 := cell_regrown cB0_3
  replace cB1_0 := cell_regrown cB1_0
  replace cB1_1 := cell_regrown cB1_1
  replace cB1_2 := cell_regrown cB1_2
  replace cB1_3 := cell_regrown cB1_3
  replace cB2_0 := cell_regrown cB2_0
  replace cB2_1 := cell_regrown cB2_1
  replace cB2_2 := cell_regrown cB2_2
  replace cB2_3 := cell_regrown cB2_3
  refine wp_region_quiet_below (by kernel_rfl) (by kernel_rfl) ?_
  repeat (go_big_quiet_step (fail))
  go_big_quiet_step ((exact Calls.regrown_of (hCmp.out _)))
  repeat (go_big_quiet_step (fail))
  go_big_quiet_step ((exact Calls.regrown_of (hCmp2.out _)))
  repeat (go_big_quiet_step (fail))
  go_big_quiet_step ((exact Calls.regrown_of (hCmp.out _)))
  repeat (go_big_quiet_step (fail))
  go_big_quiet_step ((exact Calls.regrown_of (hNot.out _)))
  repeat (go_big_quiet_step (fail))
  go_big_quiet_step ((exact Calls.regrown_of (hOr.out _)))
  repeat (go_big_quiet_step (fail))
  go_big_quiet_step ((exact Calls.regrown_of (hNot.out _)))
  repeat (go_big_quiet_step (fail))
  go_big_quiet_step ((exact Calls.regrown_of (hAnd0.out _)))
  repeat (go_big_quiet_step (fail))
  go_big_quiet_step ((exact Calls.regrown_of (hXor.out _)))
  repeat (go_big_quiet_step (fail))
  go_big_quiet_step ((exact Calls.regrown_of (hXor2.out _)))
  repeat (go_big_quiet_step (fail))
  go_big_quiet_step ((exact Calls.regrown_of (hAw.out _)))
  repeat (go_big_quiet_step (fail))
  refine wpQuiet_nil ?_
  intro _ hw'
  obtain ⟨⟨dqB, osqB⟩, hw''⟩ := hw'
  subst hw''
  go_wp2
  go_ret
  exact ⟨rfl, bel_call hBFB (below_regrown wFB dqB osqB)⟩

end Go.Proofs.Ytgmdckibfndbkaa
