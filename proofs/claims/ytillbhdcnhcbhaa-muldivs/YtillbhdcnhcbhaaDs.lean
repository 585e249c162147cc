/- The law MulDivs, walked. -/
import Derived.Test.YtillbhdcnhcbhaaAw
import Derived.Test.YtillbhdcnhcbhaaRd2
import Derived.Lib.QuietBelow
import Derived.BigQuiet
namespace Go.Proofs.Ytillbhdcnhcbhaa
open Go.RowKit Go.Sort
set_option linter.unusedVariables false
attribute [local go_sem] run_eq4 run_eqU_same

set_option maxRecDepth 100000 in
set_option maxHeartbeats 4000000 in
theorem divs_gen (a b m q r x : Nat)
    (hd : Hid (∀ w, Calls Try.prog 9 #[U a, U b] w fun e w' => e = .returned (.tuple #[U q, U r]) ∧ Below w.heap.size w w'))
    (hx : Hid (∀ w, Calls Try.prog 10 #[U a, U b] w fun e w' => e = .returned (.tuple #[U q, U r]) ∧ Below w.heap.size w w'))
    (r1 : Hid (∀ w, Calls Try.prog 11 #[U a, U b, U m] w fun e w' => e = .returned (U x) ∧ Below w.heap.size w w'))
    (r2 : Hid (∀ w, Calls Try.prog 12 #[U a, U b, U m] w fun e w' => e = .returned (U x) ∧ Below w.heap.size w w'))
    (ha : Hid (∀ w, Calls Try.prog 13 #[] w fun e w' => e = .returned (.bool true) ∧ Below w.heap.size w w')) (w : World) :
    Calls Try.prog 3 #[U a, U b, U m] w fun e w' => e = .returned (.bool true) ∧ Below w.heap.size w w' := by
  go_enter Try.func3, Try.ntmps3
  go_wp2_with fail
  refine (hd.out _).mono ?_
  rintro e w1 ⟨rfl, hb1⟩
  obtain ⟨p1, f1, z1⟩ := bcell hb1
  try simp at z1
  have q1_0 : w.heap.size < w1.heap.size := by omega
  have q1_1 : w.heap.size + 1 < w1.heap.size := by omega
  have q1_2 : w.heap.size + 1 + 1 < w1.heap.size := by omega
  have c1_0_0 : w1.cell? ⟨w.heap.size, 0, none⟩ = some (B (l0 a)) := by rw [p1 _ _ (by first | assumption | omega | (simp; done) | (simp; omega))]; go_simp
  have c1_0_1 : w1.cell? ⟨w.heap.size, 1, none⟩ = some (B (l1 a)) := by rw [p1 _ _ (by first | assumption | omega | (simp; done) | (simp; omega))]; go_simp
  have c1_0_2 : w1.cell? ⟨w.heap.size, 2, none⟩ = some (B (l2 a)) := by rw [p1 _ _ (by first | assumption | omega | (simp; done) | (simp; omega))]; go_simp
  have c1_0_3 : w1.cell? ⟨w.heap.size, 3, none⟩ = some (B (l3 a)) := by rw [p1 _ _ (by first | assumption | omega | (simp; done) | (simp; omega))]; go_simp
  have c1_1_0 : w1.cell? ⟨w.heap.size + 1, 0, none⟩ = some (B (l0 b)) := by rw [p1 _ _ (by first | assumption | omega | (simp; done) | (simp; omega))]; go_simp
  have c1_1_1 : w1.cell? ⟨w.heap.size + 1, 1, none⟩ = some (B (l1 b)) := by rw [p1 _ _ (by first | assumption | omega | (simp; done) | (simp; omega))]; go_simp
  have c1_1_2 : w1.cell? ⟨w.heap.size + 1, 2, none⟩ = some (B (l2 b)) := by rw [p1 _ _ (by first | assumption | omega | (simp; done) | (simp; omega))]; go_simp
  have c1_1_3 : w1.cell? ⟨w.heap.size + 1, 3, none⟩ = some (B (l3 b)) := by rw [p1 _ _ (by first | assumption | omega | (simp; done) | (simp; omega))]; go_simp
  have c1_2_0 : w1.cell? ⟨w.heap.size + 1 + 1, 0, none⟩ = some (B (l0 m)) := by rw [p1 _ _ (by first | assumption | omega | (simp; done) | (simp; omega))]; go_simp
  have c1_2_1 : w1.cell? ⟨w.heap.size + 1 + 1, 1, none⟩ = some (B (l1 m)) := by rw [p1 _ _ (by first | assumption | omega | (simp; done) | (simp; omega))]; go_simp
  have c1_2_2 : w1.cell? ⟨w.heap.size + 1 + 1, 2, none⟩ = some (B (l2 m)) := by rw [p1 _ _ (by first | assumption | omega | (simp; done) | (simp; omega))]; go_simp
  have c1_2_3 : w1.cell? ⟨w.heap.size + 1 + 1, 3, none⟩ = some (B (l3 m)) := by rw [p1 _ _ (by first | assumption | omega | (simp; done) | (simp; omega))]; go_simp
  clear p1 f1
  go_wp2_with fail
  refine (hx.out _).mono ?_
  rintro e w2 ⟨rfl, hb2⟩
  obtain ⟨p2, f2, z2⟩ := bcell hb2
  try simp at z2
  have q2_0 : w.heap.size < w2.heap.size := by omega
  have q2_1 : w.heap.size + 1 < w2.heap.size := by omega
  have q2_2 : w.heap.size + 1 + 1 < w2.heap.size := by omega
  have q2_3 : w1.heap.size < w2.heap.size := by omega
  have q2_4 : w1.heap.size + 1 < w2.heap.size := by omega
  have c2_0_0 : w2.cell? ⟨w.heap.size, 0, none⟩ = some (B (l0 a)) := by rw [p2 _ _ (by first | assumption | omega | (simp; done) | (simp; omega))]; go_simp
  have c2_0_1 : w2.cell? ⟨w.heap.size, 1, none⟩ = some (B (l1 a)) := by rw [p2 _ _ (by first | assumption | omega | (simp; done) | (simp; omega))]; go_simp
  have c2_0_2 : w2.cell? ⟨w.heap.size, 2, none⟩ = some (B (l2 a)) := by rw [p2 _ _ (by first | assumption | omega | (simp; done) | (simp; omega))]; go_simp
  have c2_0_3 : w2.cell? ⟨w.heap.size, 3, none⟩ = some (B (l3 a)) := by rw [p2 _ _ (by first | assumption | omega | (simp; done) | (simp; omega))]; go_simp
  have c2_1_0 : w2.cell? ⟨w.heap.size + 1, 0, none⟩ = some (B (l0 b)) := by rw [p2 _ _ (by first | assumption | omega | (simp; done) | (simp; omega))]; go_simp
  have c2_1_1 : w2.cell? ⟨w.heap.size + 1, 1, none⟩ = some (B (l1 b)) := by rw [p2 _ _ (by first | assumption | omega | (simp; done) | (simp; omega))]; go_simp
  have c2_1_2 : w2.cell? ⟨w.heap.size + 1, 2, none⟩ = some (B (l2 b)) := by rw [p2 _ _ (by first | assumption | omega | (simp; done) | (simp; omega))]; go_simp
  have c2_1_3 : w2.cell? ⟨w.heap.size + 1, 3, none⟩ = some (B (l3 b)) := by rw [p2 _ _ (by first | assumption | omega | (simp; done) | (simp; omega))]; go_simp
  have c2_2_0 : w2.cell? ⟨w.heap.size + 1 + 1, 0, none⟩ = some (B (l0 m)) := by rw [p2 _ _ (by first | assumption | omega | (simp; done) | (simp; omega))]; go_simp
  have c2_2_1 : w2.cell? ⟨w.heap.size + 1 + 1, 1, none⟩ = some (B (l1 m)) := by rw [p2 _ _ (by first | assumption | omega | (simp; done) | (simp; omega))]; go_simp
  have c2_2_2 : w2.cell? ⟨w.heap.size + 1 + 1, 2, none⟩ = some (B (l2 m)) := by rw [p2 _ _ (by first | assumption | omega | (simp; done) | (simp; omega))]; go_simp
  have c2_2_3 : w2.cell? ⟨w.heap.size + 1 + 1, 3, none⟩ = some (B (l3 m)) := by rw [p2 _ _ (by first | assumption | omega | (simp; done) | (simp; omega))]; go_simp
  have c2_3_0 : w2.cell? ⟨w1.heap.size, 0, none⟩ = some (B (l0 q)) := by rw [p2 _ _ (by first | assumption | omega | (simp; done) | (simp; omega))]; go_simp
  have c2_3_1 : w2.cell? ⟨w1.heap.size, 1, none⟩ = some (B (l1 q)) := by rw [p2 _ _ (by first | assumption | omega | (simp; done) | (simp; omega))]; go_simp
  have c2_3_2 : w2.cell? ⟨w1.heap.size, 2, none⟩ = some (B (l2 q)) := by rw [p2 _ _ (by first | assumption | omega | (simp; done) | (simp; omega))]; go_simp
  have c2_3_3 : w2.cell? ⟨w1.heap.size, 3, none⟩ = some (B (l3 q)) := by rw [p2 _ _ (by first | assumption | omega | (simp; done) | (simp; omega))]; go_simp
  have c2_4_0 : w2.cell? ⟨w1.heap.size + 1, 0, none⟩ = some (B (l0 r)) := by rw [p2 _ _ (by first | assumption | omega | (simp; done) | (simp; omega))]; go_simp
  have c2_4_1 : w2.cell? ⟨w1.heap.size + 1, 1, none⟩ = some (B (l1 r)) := by rw [p2 _ _ (by first | assumption | omega | (simp; done) | (simp; omega))]; go_simp
  have c2_4_2 : w2.cell? ⟨w1.heap.size + 1, 2, none⟩ = some (B (l2 r)) := by rw [p2 _ _ (by first | assumption | omega | (simp; done) | (simp; omega))]; go_simp
  have c2_4_3 : w2.cell? ⟨w1.heap.size + 1, 3, none⟩ = some (B (l3 r)) := by rw [p2 _ _ (by first | assumption | omega | (simp; done) | (simp; omega))]; go_simp
  clear p2 f2
  clear c1_0_0 c1_0_1 c1_0_2 c1_0_3 c1_1_0 c1_1_1 c1_1_2 c1_1_3 c1_2_0 c1_2_1 c1_2_2 c1_2_3
  go_wp2_with fail
  refine name_world _ ?_
  intro wF hF
  have d0_0 : wF.cell? ⟨w.heap.size, 0, none⟩ = some (B (l0 a)) := by rw [hF]; go_simp
  have d0_1 : wF.cell? ⟨w.heap.size, 1, none⟩ = some (B (l1 a)) := by rw [hF]; go_simp
  have d0_2 : wF.cell? ⟨w.heap.size, 2, none⟩ = some (B (l2 a)) := by rw [hF]; go_simp
  have d0_3 : wF.cell? ⟨w.heap.size, 3, none⟩ = some (B (l3 a)) := by rw [hF]; go_simp
  have d1_0 : wF.cell? ⟨w.heap.size + 1, 0, none⟩ = some (B (l0 b)) := by rw [hF]; go_simp
  have d1_1 : wF.cell? ⟨w.heap.size + 1, 1, none⟩ = some (B (l1 b)) := by rw [hF]; go_simp
  have d1_2 : wF.cell? ⟨w.heap.size + 1, 2, none⟩ = some (B (l2 b)) := by rw [hF]; go_simp
  have d1_3 : wF.cell? ⟨w.heap.size + 1, 3, none⟩ = some (B (l3 b)) := by rw [hF]; go_simp
  have d2_0 : wF.cell? ⟨w.heap.size + 1 + 1, 0, none⟩ = some (B (l0 m)) := by rw [hF]; go_simp
  have d2_1 : wF.cell? ⟨w.heap.size + 1 + 1, 1, none⟩ = some (B (l1 m)) := by rw [hF]; go_simp
  have d2_2 : wF.cell? ⟨w.heap.size + 1 + 1, 2, none⟩ = some (B (l2 m)) := by rw [hF]; go_simp
  have d2_3 : wF.cell? ⟨w.heap.size + 1 + 1, 3, none⟩ = some (B (l3 m)) := by rw [hF]; go_simp
  have d3_0 : wF.cell? ⟨w1.heap.size, 0, none⟩ = some (B (l0 q)) := by rw [hF]; go_simp
  have d3_1 : wF.cell? ⟨w1.heap.size, 1, none⟩ = some (B (l1 q)) := by rw [hF]; go_simp
  have d3_2 : wF.cell? ⟨w1.heap.size, 2, none⟩ = some (B (l2 q)) := by rw [hF]; go_simp
  have d3_3 : wF.cell? ⟨w1.heap.size, 3, none⟩ = some (B (l3 q)) := by rw [hF]; go_simp
  have d4_0 : wF.cell? ⟨w1.heap.size + 1, 0, none⟩ = some (B (l0 r)) := by rw [hF]; go_simp
  have d4_1 : wF.cell? ⟨w1.heap.size + 1, 1, none⟩ = some (B (l1 r)) := by rw [hF]; go_simp
  have d4_2 : wF.cell? ⟨w1.heap.size + 1, 2, none⟩ = some (B (l2 r)) := by rw [hF]; go_simp
  have d4_3 : wF.cell? ⟨w1.heap.size + 1, 3, none⟩ = some (B (l3 r)) := by rw [hF]; go_simp
  have d5_0 : wF.cell? ⟨w2.heap.size, 0, none⟩ = some (B (l0 q)) := by rw [hF]; go_simp
  have d5_1 : wF.cell? ⟨w2.heap.size, 1, none⟩ = some (B (l1 q)) := by rw [hF]; go_simp
  have d5_2 : wF.cell? ⟨w2.heap.size, 2, none⟩ = some (B (l2 q)) := by rw [hF]; go_simp
  have d5_3 : wF.cell? ⟨w2.heap.size, 3, none⟩ = some (B (l3 q)) := by rw [hF]; go_simp
  have d6_0 : wF.cell? ⟨w2.heap.size + 1, 0, none⟩ = some (B (l0 r)) := by rw [hF]; go_simp
  have d6_1 : wF.cell? ⟨w2.heap.size + 1, 1, none⟩ = some (B (l1 r)) := by rw [hF]; go_simp
  have d6_2 : wF.cell? ⟨w2.heap.size + 1, 2, none⟩ = some (B (l2 r)) := by rw [hF]; go_simp
  have d6_3 : wF.cell? ⟨w2.heap.size + 1, 3, none⟩ = some (B (l3 r)) := by rw [hF]; go_simp
  have hBF : Below w.heap.size w wF := by rw [hF]; (repeat (first | exact Below.refl _ _ | apply Below.drew | refine bel_alloc ?_ _ | refine bel_set ?_ (by first | (simp; done) | (simp; omega)) _ | refine bel_call ?_ (by assumption)))
  clear hF
  replace d0_0 := cell_regrown d0_0
  replace d0_1 := cell_regrown d0_1
  replace d0_2 := cell_regrown d0_2
  replace d0_3 := cell_regrown d0_3
  replace d1_0 := cell_regrown d1_0
  replace d1_1 := cell_regrown d1_1
  replace d1_2 := cell_regrown d1_2
  replace d1_3 := cell_regrown d1_3
  replace d2_0 := cell_regrown d2_0
  replace d2_1 := cell_regrown d2_1
  replace d2_2 := cell_regrown d2_2
  replace d2_3 := cell_regrown d2_3
  replace d3_0 := cell_regrown d3_0
  replace d3_1 := cell_regrown d3_1
  replace d3_2 := cell_regrown d3_2
  replace d3_3 := cell_regrown d3_3
  replace d4_0 := cell_regrown d4_0
  replace d4_1 := cell_regrown d4_1
  replace d4_2 := cell_regrown d4_2
  replace d4_3 := cell_regrown d4_3
  replace d5_0 := cell_regrown d5_0
  replace d5_1 := cell_regrown d5_1
  replace d5_2 := cell_regrown d5_2
  replace d5_3 := cell_regrown d5_3
  replace d6_0 := cell_regrown d6_0
  replace d6_1 := cell_regrown d6_1
  replace d6_2 := cell_regrown d6_2
  replace d6_3 := cell_regrown d6_3
  refine wp_region_quiet_below (by kernel_rfl) (by kernel_rfl) ?_
  repeat (go_big_quiet_step (fail))
  go_big_quiet_step ((exact Calls.regrown_of (r1.out _)))
  repeat (go_big_quiet_step (fail))
  go_big_quiet_step ((exact Calls.regrown_of (r2.out _)))
  repeat (go_big_quiet_step (fail))
  go_big_quiet_step ((exact Calls.regrown_of (ha.out _)))
  repeat (go_big_quiet_step (fail))
  refine wpQuiet_nil ?_
  intro _ hw'
  obtain ⟨⟨dq', osq⟩, hw''⟩ := hw'
  subst hw''
  go_wp2
  go_ret
  exact ⟨rfl, bel_call hBF (below_regrown wF dq' osq)⟩

theorem divs_walk (a b m : Nat) (ha : a < W) (hb : b < W) (hm : m < W) (w : World) : Calls Try.prog 3 #[U a, U b, U m] w fun e w' => e = .returned (.bool true) ∧ Below w.heap.size w w' :=
  divs_gen a b m _ _ _ (div_any a b ha hb) (rdiv_any a b ha hb) (rest_any a b m ha hb hm) (rrest_any a b m ha hb hm) awake_any w
end Go.Proofs.Ytillbhdcnhcbhaa
