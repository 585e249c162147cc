/- The walk of the law NumBits. -/
import Derived.Test.YtgmdckibfndbkaaOr
import Derived.Test.YtgmdckibfndbkaaBu
import Derived.Lib.QuietBelow
import Derived.BigQuiet
namespace Go.Proofs.Ytgmdckibfndbkaa
open Go.RowKit Go.Sort
set_option linter.unusedVariables false

attribute [local go_sem] run_eqU_same

set_option maxRecDepth 100000 in
set_option maxHeartbeats 4000000 in
theorem bitsl_gen (n m k xa xo xx xn xl xr b : Nat)
    (hAnd : Hid (∀ w, Calls Try.prog 18 #[U n, U m] w fun e w' => e = .returned (U xa) ∧ Below w.heap.size w w'))
    (hRAnd : Hid (∀ w, Calls Try.prog 19 #[U n, U m] w fun e w' => e = .returned (U xa) ∧ Below w.heap.size w w'))
    (hOr : Hid (∀ w, Calls Try.prog 20 #[U n, U m] w fun e w' => e = .returned (U xo) ∧ Below w.heap.size w w'))
    (hROr : Hid (∀ w, Calls Try.prog 21 #[U n, U m] w fun e w' => e = .returned (U xo) ∧ Below w.heap.size w w'))
    (hXor : Hid (∀ w, Calls Try.prog 22 #[U n, U m] w fun e w' => e = .returned (U xx) ∧ Below w.heap.size w w'))
    (hRXor : Hid (∀ w, Calls Try.prog 23 #[U n, U m] w fun e w' => e = .returned (U xx) ∧ Below w.heap.size w w'))
    (hNot : Hid (∀ w, Calls Try.prog 24 #[U n] w fun e w' => e = .returned (U xn) ∧ Below w.heap.size w w'))
    (hRNot : Hid (∀ w, Calls Try.prog 25 #[U n] w fun e w' => e = .returned (U xn) ∧ Below w.heap.size w w'))
    (hShl : Hid (∀ w, Calls Try.prog 26 #[U n, B k] w fun e w' => e = .returned (U xl) ∧ Below w.heap.size w w'))
    (hRShl : Hid (∀ w, Calls Try.prog 27 #[U n, B k] w fun e w' => e = .returned (U xl) ∧ Below w.heap.size w w'))
    (hShr : Hid (∀ w, Calls Try.prog 28 #[U n, B k] w fun e w' => e = .returned (U xr) ∧ Below w.heap.size w w'))
    (hRShr : Hid (∀ w, Calls Try.prog 29 #[U n, B k] w fun e w' => e = .returned (U xr) ∧ Below w.heap.size w w'))
    (hBits : Hid (∀ w, Calls Try.prog 30 #[U n] w fun e w' => e = .returned (.int .i64 (b : Nat)) ∧ Below w.heap.size w w'))
    (hRBits : Hid (∀ w, Calls Try.prog 31 #[U n] w fun e w' => e = .returned (.int .i64 (b : Nat)) ∧ Below w.heap.size w w'))
    (hAw : Hid (∀ w, Calls Try.prog 17 #[] w fun e w' => e = .returned (.bool true) ∧ Below w.heap.size w w')) (w : World) :
    Calls Try.prog 4 #[U n, U m, B k] w fun e w' => e = .returned (.bool true) ∧ Below w.heap.size w w' := by
  go_enter Try.func4, Try.ntmps4
  go_wp2_with fail
  refine name_world _ ?_
  intro wF hF
  have c0_0 : wF.cell? ⟨w.heap.size, 0, none⟩ = some (B (l0 n)) := by rw [hF]; go_simp
  have c0_1 : wF.cell? ⟨w.heap.size, 1, none⟩ = some (B (l1 n)) := by rw [hF]; go_simp
  have c0_2 : wF.cell? ⟨w.heap.size, 2, none⟩ = some (B (l2 n)) := by rw [hF]; go_simp
  have c0_3 : wF.cell? ⟨w.heap.size, 3, none⟩ = some (B (l3 n)) := by rw [hF]; go_simp
  have c1_0 : wF.cell? ⟨(w.heap.size + 1), 0, none⟩ = some (B (l0 m)) := by rw [hF]; go_simp
  have c1_1 : wF.cell? ⟨(w.heap.size + 1), 1, none⟩ = some (B (l1 m)) := by rw [hF]; go_simp
  have c1_2 : wF.cell? ⟨(w.heap.size + 1), 2, none⟩ = some (B (l2 m)) := by rw [hF]; go_simp
  have c1_3 : wF.cell? ⟨(w.heap.size + 1), 3, none⟩ = some (B (l3 m)) := by rw [hF]; go_simp
  have hBF : Below w.heap.size w wF := by rw [hF]; (repeat (first | exact Below.refl _ _ | apply Below.drew | refine bel_alloc ?_ _ | refine bel_set ?_ (by first | (simp; done) | (simp; omega)) _ | refine bel_call ?_ (by assumption)))
  clear hF
  replace c0_0 := cell_regrown c0_0
  replace c0_1 := cell_regrown c0_1
  replace c0_2 := cell_regrown c0_2
  replace c0_3 := cell_regrown c0_3
  replace c1_0 := cell_regrown c1_0
  replace c1_1 := cell_regrown c1_1
  replace c1_2 := cell_regrown c1_2
  replace c1_3 := cell_regrown c1_3
  refine wp_region_quiet_below (by kernel_rfl) (by kernel_rfl) ?_
  repeat (go_big_quiet_step (fail))
  go_big_quiet_step ((exact Calls.regrown_of (hAnd.out _)))
  repeat (go_big_quiet_step (fail))
  go_big_quiet_step ((exact Calls.regrown_of (hRAnd.out _)))
  repeat (go_big_quiet_step (fail))
  go_big_quiet_step ((exact Calls.regrown_of (hOr.out _)))
  repeat (go_big_quiet_step (fail))
  go_big_quiet_step ((exact Calls.regrown_of (hROr.out _)))
  repeat (go_big_quiet_step (fail))
  go_big_quiet_step ((exact Calls.regrown_of (hXor.out _)))
  repeat (go_big_quiet_step (fail))
  go_big_quiet_step ((exact Calls.regrown_of (hRXor.out _)))
  repeat (go_big_quiet_step (fail))
  go_big_quiet_step ((exact Calls.regrown_of (hNot.out _)))
  repeat (go_big_quiet_step (fail))
  go_big_quiet_step ((exact Calls.regrown_of (hRNot.out _)))
  repeat (go_big_quiet_step (fail))
  go_big_quiet_step ((exact Calls.regrown_of (hShl.out _)))
  repeat (go_big_quiet_step (fail))
  go_big_quiet_step ((exact Calls.regrown_of (hRShl.out _)))
  repeat (go_big_quiet_step (fail))
  go_big_quiet_step ((exact Calls.regrown_of (hShr.out _)))
  repeat (go_big_quiet_step (fail))
  go_big_quiet_step ((exact Calls.regrown_of (hRShr.out _)))
  repeat (go_big_quiet_step (fail))
  go_big_quiet_step ((exact Calls.regrown_of (hBits.out _)))
  repeat (go_big_quiet_step (fail))
  go_big_quiet_step ((exact Calls.regrown_of (hRBits.out _)))
  repeat (go_big_quiet_step (fail))
  go_big_quiet_step ((exact Calls.regrown_of (hAw.out _)))
  repeat (go_big_quiet_step (fail))
  refine wpQuiet_nil ?_
  intro _ hw'
  obtain ⟨⟨dq, osq⟩, hw''⟩ := hw'
  subst hw''
  go_wp2
  go_ret
  exact ⟨rfl, bel_call hBF (below_regrown wF dq osq)⟩

theorem bitsl_walk (n m k : Nat) (hn : n < W) (hm : m < W) (w : World) : Calls Try.prog 4 #[U n, U m, B k] w fun e w' => e = .returned (.bool true) ∧ Below w.heap.size w w' :=
  bitsl_gen n m k (n &&& m) (n ||| m) (n ^^^ m) (notW n) (shlW n k) (shrW n k) (bitsN n) (fun w => and_any n m w) (fun w => rand_any n m w) (fun w => or_any n m w) (fun w => ror_any n m w) (fun w => xor_any n m w) (fun w => rxor_any n m w) (fun w => not_any n hn w) (fun w => rnot_any n hn w) (fun w => shl_any n k hn w) (fun w => rshl_any n k hn w) (fun w => shr_any n k hn w) (fun w => rshr_any n k hn w) (fun w => bits_any n w) (fun w => rbits_any n w) (fun w => awake_any w) w

end Go.Proofs.Ytgmdckibfndbkaa
