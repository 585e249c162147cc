/- The walk of the law NumBytes. -/
import Derived.Test.YtgmdckibfndbkaaOr
import Derived.Test.YtgmdckibfndbkaaRs
import Derived.Lib.QuietBelow
import Derived.BigQuiet
namespace Go.Proofs.Ytgmdckibfndbkaa
open Go.RowKit Go.Sort
set_option linter.unusedVariables false

attribute [local go_sem] run_eqU_same

set_option maxRecDepth 100000 in
set_option maxHeartbeats 4000000 in
theorem bytes_gen (n x : Nat) (s t : ByteArray) (er : Int) (he0 : 0 ≤ er) (he1 : er ≤ 3) (hsz : (s.size : Int) ≤ 10000)
    (hRd : Hid (∀ w, Calls Try.prog 32 #[.string s] w fun e w' => e = .returned (.tuple #[U x, .int .i64 er]) ∧ Below w.heap.size w w'))
    (hRRd : Hid (∀ w, Calls Try.prog 33 #[.string s] w fun e w' => e = .returned (.tuple #[U x, .int .i64 er]) ∧ Below w.heap.size w w'))
    (hBy : Hid (∀ w, Calls Try.prog 34 #[U n] w fun e w' => e = .returned (.string t) ∧ Below w.heap.size w w'))
    (hRBy : Hid (∀ w, Calls Try.prog 35 #[U n] w fun e w' => e = .returned (.string t) ∧ Below w.heap.size w w'))
    (hAw : Hid (∀ w, Calls Try.prog 17 #[] w fun e w' => e = .returned (.bool true) ∧ Below w.heap.size w w')) (w : World) :
    Calls Try.prog 5 #[U n, .string s] w fun e w' => e = .returned (.bool true) ∧ Below w.heap.size w w' := by
  go_enter Try.func5, Try.ntmps5
  go_wp2_with fail
  refine (hRd.out _).mono ?_
  rintro e w1 ⟨rfl, hb1⟩
  obtain ⟨p1, f1, z1⟩ := bcell hb1
  try simp at z1
  have q1_0 : w.heap.size < w1.heap.size := by omega
  go_wp2_with fail
  refine (hRRd.out _).mono ?_
  rintro e w2 ⟨rfl, hb2⟩
  obtain ⟨p2, f2, z2⟩ := bcell hb2
  try simp at z2
  have q2_0 : w.heap.size < w2.heap.size := by omega
  have q2_1 : w1.heap.size < w2.heap.size := by omega
  go_wp2_with fail
  refine name_world _ ?_
  intro wF hF
  have c0_0 : wF.cell? ⟨w.heap.size, 0, none⟩ = some (B (l0 n)) := by rw [hF]; go_simp
  have c0_1 : wF.cell? ⟨w.heap.size, 1, none⟩ = some (B (l1 n)) := by rw [hF]; go_simp
  have c0_2 : wF.cell? ⟨w.heap.size, 2, none⟩ = some (B (l2 n)) := by rw [hF]; go_simp
  have c0_3 : wF.cell? ⟨w.heap.size, 3, none⟩ = some (B (l3 n)) := by rw [hF]; go_simp
  have c1_0 : wF.cell? ⟨w1.heap.size, 0, none⟩ = some (B (l0 x)) := by rw [hF]; go_simp
  have c1_1 : wF.cell? ⟨w1.heap.size, 1, none⟩ = some (B (l1 x)) := by rw [hF]; go_simp
  have c1_2 : wF.cell? ⟨w1.heap.size, 2, none⟩ = some (B (l2 x)) := by rw [hF]; go_simp
  have c1_3 : wF.cell? ⟨w1.heap.size, 3, none⟩ = some (B (l3 x)) := by rw [hF]; go_simp
  have c2_0 : wF.cell? ⟨w2.heap.size, 0, none⟩ = some (B (l0 x)) := by rw [hF]; go_simp
  have c2_1 : wF.cell? ⟨w2.heap.size, 1, none⟩ = some (B (l1 x)) := by rw [hF]; go_simp
  have c2_2 : wF.cell? ⟨w2.heap.size, 2, none⟩ = some (B (l2 x)) := by rw [hF]; go_simp
  have c2_3 : wF.cell? ⟨w2.heap.size, 3, none⟩ = some (B (l3 x)) := by rw [hF]; go_simp
  have hBF : Below w.heap.size w wF := by rw [hF]; (repeat (first | exact Below.refl _ _ | apply Below.drew | refine bel_alloc ?_ _ | refine bel_set ?_ (by first | (simp; done) | (simp; omega)) _ | refine bel_call ?_ (by assumption)))
  clear hF
  clear p2 f2 hb2 z2 p1 f1 hb1 z1
  replace c0_0 := cell_regrown c0_0
  replace c0_1 := cell_regrown c0_1
  replace c0_2 := cell_regrown c0_2
  replace c0_3 := cell_regrown c0_3
  replace c1_0 := cell_regrown c1_0
  replace c1_1 := cell_regrown c1_1
  replace c1_2 := cell_regrown c1_2
  replace c1_3 := cell_regrown c1_3
  replace c2_0 := cell_regrown c2_0
  replace c2_1 := cell_regrown c2_1
  replace c2_2 := cell_regrown c2_2
  replace c2_3 := cell_regrown c2_3
  refine wp_region_quiet_below (by kernel_rfl) (by kernel_rfl) ?_
  repeat (go_big_quiet_step (fail))
  go_big_quiet_step (exact Calls.regrown_of (hBy.out _))
  repeat (go_big_quiet_step (fail))
  go_big_quiet_step (exact Calls.regrown_of (hRBy.out _))
  repeat (go_big_quiet_step (fail))
  go_big_quiet_step (exact Calls.regrown_of (hAw.out _))
  repeat (go_big_quiet_step (fail))
  refine wpQuiet_nil ?_
  intro _ hw'
  obtain ⟨⟨dq, osq⟩, hw''⟩ := hw'
  subst hw''
  go_wp2
  go_ret
  exact ⟨rfl, bel_call hBF (below_regrown wF dq osq)⟩

set_option maxRecDepth 100000 in
set_option maxHeartbeats 1000000 in
theorem bytes_far (n : Nat) (s : ByteArray) (hsz : (10000 : Int) < (s.size : Int)) (hAw : Hid (∀ w, Calls Try.prog 17 #[] w fun e w' => e = .returned (.bool true) ∧ Below w.heap.size w w')) (w : World) :
    Calls Try.prog 5 #[U n, .string s] w fun e w' => e = .returned (.bool true) ∧ Below w.heap.size w w' := by
  go_enter Try.func5, Try.ntmps5
  go_wp2_with fail
  refine (hAw.out _).mono ?_
  rintro e wz ⟨rfl, hbz⟩
  go_wp2
  go_ret
  exact ⟨rfl, by (repeat (first | exact Below.refl _ _ | apply Below.drew | refine bel_alloc ?_ _ | refine bel_set ?_ (by first | (simp; done) | (simp; omega)) _ | refine bel_call ?_ (by assumption)))⟩

theorem read_far (s : ByteArray) (hs : 32 < s.size) (w : World) : Calls Try.prog 32 #[.string s] w fun e w' => e = .returned (.tuple #[U 0, .int .i64 3]) ∧ Below w.heap.size w w' := by
  rw [U_zero]; exact read_long s hs w
theorem rread_far (s : ByteArray) (hs : 32 < s.size) (w : World) : Calls Try.prog 33 #[.string s] w fun e w' => e = .returned (.tuple #[U 0, .int .i64 3]) ∧ Below w.heap.size w w' := by
  rw [U_zero]; exact rread_long s hs w
theorem bytes_walk (n : Nat) (s : ByteArray) (w : World) : Calls Try.prog 5 #[U n, .string s] w fun e w' => e = .returned (.bool true) ∧ Below w.heap.size w w' := by
  by_cases h : 10000 < s.size
  · exact bytes_far n s (by omega) (fun w => awake_any w) w
  · by_cases h2 : s.size ≤ 32
    · exact bytes_gen n (rd s s.size) s (strN n) 0 (by omega) (by omega) (by omega) (fun w => read_any s h2 w) (fun w => rread_any s h2 w) (fun w => bytes_any n w) (fun w => rbytes_any n w) (fun w => awake_any w) w
    · exact bytes_gen n 0 s (strN n) 3 (by omega) (by omega) (by omega) (fun w => read_far s (by omega) w) (fun w => rread_far s (by omega) w) (fun w => bytes_any n w) (fun w => rbytes_any n w) (fun w => awake_any w) w

end Go.Proofs.Ytgmdckibfndbkaa
