/- The law MulRests, walked. -/
import Derived.Test.YtmcdklcocgahpaaAw
import Derived.Lib.QuietBelow
import Derived.BigQuiet
namespace Go.Proofs.Ytmcdklcocgahpaa
open Go.RowKit Go.Sort
set_option linter.unusedVariables false
attribute [local go_sem] run_eq4 run_eqU_same

set_option maxRecDepth 100000 in
set_option maxHeartbeats 4000000 in
theorem rests_out (a m r : Nat) (cv : Int)
    (hc : Hid (∀ w, Calls Try.prog 18 #[U r, U m] w fun e w' => e = .returned (.int .i64 cv) ∧ Below w.heap.size w w'))
    (ha : Hid (∀ w, Calls Try.prog 12 #[] w fun e w' => e = .returned (.bool true) ∧ Below w.heap.size w w'))
    (h0 : 0 ≤ cv) (w : World) :
    Calls Try.prog 7 #[U a, U m, U r] w fun e w' => e = .returned (.bool true) ∧ Below w.heap.size w w' := by
  go_enter Try.func7, Try.ntmps7
  go_wp2_with fail
  refine (hc.out _).mono ?_
  rintro e w1 ⟨rfl, hb1⟩
  obtain ⟨p1, f1, z1⟩ := bcell hb1
  try simp at z1
  have q1_0 : w.heap.size < w1.heap.size := by omega
  have q1_1 : w.heap.size + 1 < w1.heap.size := by omega
  have q1_2 : w.heap.size + 1 + 1 < w1.heap.size := by omega
  have c1_0_0 : w1.cell? ⟨w.heap.size, 0, none⟩ = some (B (l0 a)) := by rw [p1 _ _ (by first | assumption | omega | (simp; done) | (simp; omega))]; go_simp
  have c1_0_1 : w1.cell? ⟨w.heap.size, 1, none⟩ = some (B (l1 a)) := by rw [p1 _ _ (by first | assumption | omega | (simp; done) | (simp; omega))]; go_simp
  have c1_0_2 : w1.cell? ⟨w.heap.size, 2, none⟩ = some (B (l2 a)) := by rw [p1 _ _ (by first | assumption | omega | (simp; done) | (simp; omega))]; go_simp
  have c1_0_3 : w1.cell? ⟨w.heap.size, 3, none⟩ = some (B (l3 a)) := by rw [p1 _ _ (by first | assumption | omega | (simp; done) | (simp; omega))]; go_simp
  have c1_1_0 : w1.cell? ⟨w.heap.size + 1, 0, none⟩ = some (B (l0 m)) := by rw [p1 _ _ (by first | assumption | omega | (simp; done) | (simp; omega))]; go_simp
  have c1_1_1 : w1.cell? ⟨w.heap.size + 1, 1, none⟩ = some (B (l1 m)) := by rw [p1 _ _ (by first | assumption | omega | (simp; done) | (simp; omega))]; go_simp
  have c1_1_2 : w1.cell? ⟨w.heap.size + 1, 2, none⟩ = some (B (l2 m)) := by rw [p1 _ _ (by first | assumption | omega | (simp; done) | (simp; omega))]; go_simp
  have c1_1_3 : w1.cell? ⟨w.heap.size + 1, 3, none⟩ = some (B (l3 m)) := by rw [p1 _ _ (by first | assumption | omega | (simp; done) | (simp; omega))]; go_simp
  have c1_2_0 : w1.cell? ⟨w.heap.size + 1 + 1, 0, none⟩ = some (B (l0 r)) := by rw [p1 _ _ (by first | assumption | omega | (simp; done) | (simp; omega))]; go_simp
  have c1_2_1 : w1.cell? ⟨w.heap.size + 1 + 1, 1, none⟩ = some (B (l1 r)) := by rw [p1 _ _ (by first | assumption | omega | (simp; done) | (simp; omega))]; go_simp
  have c1_2_2 : w1.cell? ⟨w.heap.size + 1 + 1, 2, none⟩ = some (B (l2 r)) := by rw [p1 _ _ (by first | assumption | omega | (simp; done) | (simp; omega))]; go_simp
  have c1_2_3 : w1.cell? ⟨w.heap.size + 1 + 1, 3, none⟩ = some (B (l3 r)) := by rw [p1 _ _ (by first | assumption | omega | (simp; done) | (simp; omega))]; go_simp
  clear p1 f1
  go_wp2_with fail
  refine (ha.out _).mono ?_
  rintro e w2 ⟨rfl, hb2⟩
  obtain ⟨p2, f2, z2⟩ := bcell hb2
  try simp at z2
  have q2_0 : w.heap.size < w2.heap.size := by omega
  have q2_1 : w.heap.size + 1 < w2.heap.size := by omega
  have q2_2 : w.heap.size + 1 + 1 < w2.heap.size := by omega
  have c2_0_0 : w2.cell? ⟨w.heap.size, 0, none⟩ = some (B (l0 a)) := by rw [p2 _ _ (by first | assumption | omega | (simp; done) | (simp; omega))]; go_simp
  have c2_0_1 : w2.cell? ⟨w.heap.size, 1, none⟩ = some (B (l1 a)) := by rw [p2 _ _ (by first | assumption | omega | (simp; done) | (simp; omega))]; go_simp
  have c2_0_2 : w2.cell? ⟨w.heap.size, 2, none⟩ = some (B (l2 a)) := by rw [p2 _ _ (by first | assumption | omega | (simp; done) | (simp; omega))]; go_simp
  have c2_0_3 : w2.cell? ⟨w.heap.size, 3, none⟩ = some (B (l3 a)) := by rw [p2 _ _ (by first | assumption | omega | (simp; done) | (simp; omega))]; go_simp
  have c2_1_0 : w2.cell? ⟨w.heap.size + 1, 0, none⟩ = some (B (l0 m)) := by rw [p2 _ _ (by first | assumption | omega | (simp; done) | (simp; omega))]; go_simp
  have c2_1_1 : w2.cell? ⟨w.heap.size + 1, 1, none⟩ = some (B (l1 m)) := by rw [p2 _ _ (by first | assumption | omega | (simp; done) | (simp; omega))]; go_simp
  have c2_1_2 : w2.cell? ⟨w.heap.size + 1, 2, none⟩ = some (B (l2 m)) := by rw [p2 _ _ (by first | assumption | omega | (simp; done) | (simp; omega))]; go_simp
  have c2_1_3 : w2.cell? ⟨w.heap.size + 1, 3, none⟩ = some (B (l3 m)) := by rw [p2 _ _ (by first | assumption | omega | (simp; done) | (simp; omega))]; go_simp
  have c2_2_0 : w2.cell? ⟨w.heap.size + 1 + 1, 0, none⟩ = some (B (l0 r)) := by rw [p2 _ _ (by first | assumption | omega | (simp; done) | (simp; omega))]; go_simp
  have c2_2_1 : w2.cell? ⟨w.heap.size + 1 + 1, 1, none⟩ = some (B (l1 r)) := by rw [p2 _ _ (by first | assumption | omega | (simp; done) | (simp; omega))]; go_simp
  have c2_2_2 : w2.cell? ⟨w.heap.size + 1 + 1, 2, none⟩ = some (B (l2 r)) := by rw [p2 _ _ (by first | assumption | omega | (simp; done) | (simp; omega))]; go_simp
  have c2_2_3 : w2.cell? ⟨w.heap.size + 1 + 1, 3, none⟩ = some (B (l3 r)) := by rw [p2 _ _ (by first | assumption | omega | (simp; done) | (simp; omega))]; go_simp
  clear p2 f2
  clear c1_0_0 c1_0_1 c1_0_2 c1_0_3 c1_1_0 c1_1_1 c1_1_2 c1_1_3 c1_2_0 c1_2_1 c1_2_2 c1_2_3
  go_wp2
  go_ret
  exact ⟨rfl, by (repeat (first | exact Below.refl _ _ | apply Below.drew | refine bel_alloc ?_ _ | refine bel_set ?_ (by first | (simp; done) | (simp; omega)) _ | refine bel_call ?_ (by assumption)))⟩

set_option maxRecDepth 100000 in
set_option maxHeartbeats 4000000 in
theorem rests_low (a m r h l s : Nat)
    (hc : Hid (∀ w, Calls Try.prog 18 #[U r, U m] w fun e w' => e = .returned (.int .i64 (-1)) ∧ Below w.heap.size w w'))
    (hw : Hid (∀ w, Calls Try.prog 8 #[U a, U m] w fun e w' => e = .returned (.tuple #[U h, U l]) ∧ Below w.heap.size w w'))
    (hs : Hid (∀ w, Calls Try.prog 17 #[U l, U r] w fun e w' => e = .returned (.tuple #[U s, .bool false]) ∧ Below w.heap.size w w'))
    (hr : Hid (∀ w, Calls Try.prog 15 #[U h, U s, U m] w fun e w' => e = .returned (U r) ∧ Below w.heap.size w w'))
    (ha : Hid (∀ w, Calls Try.prog 12 #[] w fun e w' => e = .returned (.bool true) ∧ Below w.heap.size w w')) (w : World) :
    Calls Try.prog 7 #[U a, U m, U r] w fun e w' => e = .returned (.bool true) ∧ Below w.heap.size w w' := by
  go_enter Try.func7, Try.ntmps7
  go_wp2_with fail
  refine (hc.out _).mono ?_
  rintro e w1 ⟨rfl, hb1⟩
  obtain ⟨p1, f1, z1⟩ := bcell hb1
  try simp at z1
  have q1_0 : w.heap.size < w1.heap.size := by omega
  have q1_1 : w.heap.size + 1 < w1.heap.size := by omega
  have q1_2 : w.heap.size + 1 + 1 < w1.heap.size := by omega
  have c1_0_0 : w1.cell? ⟨w.heap.size, 0, none⟩ = some (B (l0 a)) := by rw [p1 _ _ (by first | assumption | omega | (simp; done) | (simp; omega))]; go_simp
  have c1_0_1 : w1.cell? ⟨w.heap.size, 1, none⟩ = some (B (l1 a)) := by rw [p1 _ _ (by first | assumption | omega | (simp; done) | (simp; omega))]; go_simp
  have c1_0_2 : w1.cell? ⟨w.heap.size, 2, none⟩ = some (B (l2 a)) := by rw [p1 _ _ (by first | assumption | omega | (simp; done) | (simp; omega))]; go_simp
  have c1_0_3 : w1.cell? ⟨w.heap.size, 3, none⟩ = some (B (l3 a)) := by rw [p1 _ _ (by first | assumption | omega | (simp; done) | (simp; omega))]; go_simp
  have c1_1_0 : w1.cell? ⟨w.heap.size + 1, 0, none⟩ = some (B (l0 m)) := by rw [p1 _ _ (by first | assumption | omega | (simp; done) | (simp; omega))]; go_simp
  have c1_1_1 : w1.cell? ⟨w.heap.size + 1, 1, none⟩ = some (B (l1 m)) := by rw [p1 _ _ (by first | assumption | omega | (simp; done) | (simp; omega))]; go_simp
  have c1_1_2 : w1.cell? ⟨w.heap.size + 1, 2, none⟩ = some (B (l2 m)) := by rw [p1 _ _ (by first | assumption | omega | (simp; done) | (simp; omega))]; go_simp
  have c1_1_3 : w1.cell? ⟨w.heap.size + 1, 3, none⟩ = some (B (l3 m)) := by rw [p1 _ _ (by first | assumption | omega | (simp; done) | (simp; omega))]; go_simp
  have c1_2_0 : w1.cell? ⟨w.heap.size + 1 + 1, 0, none⟩ = some (B (l0 r)) := by rw [p1 _ _ (by first | assumption | omega | (simp; done) | (simp; omega))]; go_simp
  have c1_2_1 : w1.cell? ⟨w.heap.size + 1 + 1, 1, none⟩ = some (B (l1 r)) := by rw [p1 _ _ (by first | assumption | omega | (simp; done) | (simp; omega))]; go_simp
  have c1_2_2 : w1.cell? ⟨w.heap.size + 1 + 1, 2, none⟩ = some (B (l2 r)) := by rw [p1 _ _ (by first | assumption | omega | (simp; done) | (simp; omega))]; go_simp
  have c1_2_3 : w1.cell? ⟨w.heap.size + 1 + 1, 3, none⟩ = some (B (l3 r)) := by rw [p1 _ _ (by first | assumption | omega | (simp; done) | (simp; omega))]; go_simp
  clear p1 f1
  go_wp2_with fail
  refine (hw.out _).mono ?_
  rintro e w2 ⟨rfl, hb2⟩
  obtain ⟨p2, f2, z2⟩ := bcell hb2
  try simp at z2
  have q2_0 : w.heap.size < w2.heap.size := by omega
  have q2_1 : w.heap.size + 1 < w2.heap.size := by omega
  have q2_2 : w.heap.size + 1 + 1 < w2.heap.size := by omega
  have c2_0_0 : w2.cell? ⟨w.heap.size, 0, none⟩ = some (B (l0 a)) := by rw [p2 _ _ (by first | assumption | omega | (simp; done) | (simp; omega))]; go_simp
  have c2_0_1 : w2.cell? ⟨w.heap.size, 1, none⟩ = some (B (l1 a)) := by rw [p2 _ _ (by first | assumption | omega | (simp; done) | (simp; omega))]; go_simp
  have c2_0_2 : w2.cell? ⟨w.heap.size, 2, none⟩ = some (B (l2 a)) := by rw [p2 _ _ (by first | assumption | omega | (simp; done) | (simp; omega))]; go_simp
  have c2_0_3 : w2.cell? ⟨w.heap.size, 3, none⟩ = some (B (l3 a)) := by rw [p2 _ _ (by first | assumption | omega | (simp; done) | (simp; omega))]; go_simp
  have c2_1_0 : w2.cell? ⟨w.heap.size + 1, 0, none⟩ = some (B (l0 m)) := by rw [p2 _ _ (by first | assumption | omega | (simp; done) | (simp; omega))]; go_simp
  have c2_1_1 : w2.cell? ⟨w.heap.size + 1, 1, none⟩ = some (B (l1 m)) := by rw [p2 _ _ (by first | assumption | omega | (simp; done) | (simp; omega))]; go_simp
  have c2_1_2 : w2.cell? ⟨w.heap.size + 1, 2, none⟩ = some (B (l2 m)) := by rw [p2 _ _ (by first | assumption | omega | (simp; done) | (simp; omega))]; go_simp
  have c2_1_3 : w2.cell? ⟨w.heap.size + 1, 3, none⟩ = some (B (l3 m)) := by rw [p2 _ _ (by first | assumption | omega | (simp; done) | (simp; omega))]; go_simp
  have c2_2_0 : w2.cell? ⟨w.heap.size + 1 + 1, 0, none⟩ = some (B (l0 r)) := by rw [p2 _ _ (by first | assumption | omega | (simp; done) | (simp; omega))]; go_simp
  have c2_2_1 : w2.cell? ⟨w.heap.size + 1 + 1, 1, none⟩ = some (B (l1 r)) := by rw [p2 _ _ (by first | assumption | omega | (simp; done) | (simp; omega))]; go_simp
  have c2_2_2 : w2.cell? ⟨w.heap.size + 1 + 1, 2, none⟩ = some (B (l2 r)) := by rw [p2 _ _ (by first | assumption | omega | (simp; done) | (simp; omega))]; go_simp
  have c2_2_3 : w2.cell? ⟨w.heap.size + 1 + 1, 3, none⟩ = some (B (l3 r)) := by rw [p2 _ _ (by first | assumption | omega | (simp; done) | (simp; omega))]; go_simp
  clear p2 f2
  clear c1_0_0 c1_0_1 c1_0_2 c1_0_3 c1_1_0 c1_1_1 c1_1_2 c1_1_3 c1_2_0 c1_2_1 c1_2_2 c1_2_3
  go_wp2_with fail
  refine (hs.out _).mono ?_
  rintro e w3 ⟨rfl, hb3⟩
  obtain ⟨p3, f3, z3⟩ := bcell hb3
  try simp at z3
  have q3_0 : w.heap.size < w3.heap.size := by omega
  have q3_1 : w.heap.size + 1 < w3.heap.size := by omega
  have q3_2 : w.heap.size + 1 + 1 < w3.heap.size := by omega
  have q3_3 : w2.heap.size < w3.heap.size := by omega
  have q3_4 : w2.heap.size + 1 < w3.heap.size := by omega
  have c3_0_0 : w3.cell? ⟨w.heap.size, 0, none⟩ = some (B (l0 a)) := by rw [p3 _ _ (by first | assumption | omega | (simp; done) | (simp; omega))]; go_simp
  have c3_0_1 : w3.cell? ⟨w.heap.size, 1, none⟩ = some (B (l1 a)) := by rw [p3 _ _ (by first | assumption | omega | (simp; done) | (simp; omega))]; go_simp
  have c3_0_2 : w3.cell? ⟨w.heap.size, 2, none⟩ = some (B (l2 a)) := by rw [p3 _ _ (by first | assumption | omega | (simp; done) | (simp; omega))]; go_simp
  have c3_0_3 : w3.cell? ⟨w.heap.size, 3, none⟩ = some (B (l3 a)) := by rw [p3 _ _ (by first | assumption | omega | (simp; done) | (simp; omega))]; go_simp
  have c3_1_0 : w3.cell? ⟨w.heap.size + 1, 0, none⟩ = some (B (l0 m)) := by rw [p3 _ _ (by first | assumption | omega | (simp; done) | (simp; omega))]; go_simp
  have c3_1_1 : w3.cell? ⟨w.heap.size + 1, 1, none⟩ = some (B (l1 m)) := by rw [p3 _ _ (by first | assumption | omega | (simp; done) | (simp; omega))]; go_simp
  have c3_1_2 : w3.cell? ⟨w.heap.size + 1, 2, none⟩ = some (B (l2 m)) := by rw [p3 _ _ (by first | assumption | omega | (simp; done) | (simp; omega))]; go_simp
  have c3_1_3 : w3.cell? ⟨w.heap.size + 1, 3, none⟩ = some (B (l3 m)) := by rw [p3 _ _ (by first | assumption | omega | (simp; done) | (simp; omega))]; go_simp
  have c3_2_0 : w3.cell? ⟨w.heap.size + 1 + 1, 0, none⟩ = some (B (l0 r)) := by rw [p3 _ _ (by first | assumption | omega | (simp; done) | (simp; omega))]; go_simp
  have c3_2_1 : w3.cell? ⟨w.heap.size + 1 + 1, 1, none⟩ = some (B (l1 r)) := by rw [p3 _ _ (by first | assumption | omega | (simp; done) | (simp; omega))]; go_simp
  have c3_2_2 : w3.cell? ⟨w.heap.size + 1 + 1, 2, none⟩ = some (B (l2 r)) := by rw [p3 _ _ (by first | assumption | omega | (simp; done) | (simp; omega))]; go_simp
  have c3_2_3 : w3.cell? ⟨w.heap.size + 1 + 1, 3, none⟩ = some (B (l3 r)) := by rw [p3 _ _ (by first | assumption | omega | (simp; done) | (simp; omega))]; go_simp
  have c3_3_0 : w3.cell? ⟨w2.heap.size, 0, none⟩ = some (B (l0 h)) := by rw [p3 _ _ (by first | assumption | omega | (simp; done) | (simp; omega))]; go_simp
  have c3_3_1 : w3.cell? ⟨w2.heap.size, 1, none⟩ = some (B (l1 h)) := by rw [p3 _ _ (by first | assumption | omega | (simp; done) | (simp; omega))]; go_simp
  have c3_3_2 : w3.cell? ⟨w2.heap.size, 2, none⟩ = some (B (l2 h)) := by rw [p3 _ _ (by first | assumption | omega | (simp; done) | (simp; omega))]; go_simp
  have c3_3_3 : w3.cell? ⟨w2.heap.size, 3, none⟩ = some (B (l3 h)) := by rw [p3 _ _ (by first | assumption | omega | (simp; done) | (simp; omega))]; go_simp
  have c3_4_0 : w3.cell? ⟨w2.heap.size + 1, 0, none⟩ = some (B (l0 l)) := by rw [p3 _ _ (by first | assumption | omega | (simp; done) | (simp; omega))]; go_simp
  have c3_4_1 : w3.cell? ⟨w2.heap.size + 1, 1, none⟩ = some (B (l1 l)) := by rw [p3 _ _ (by first | assumption | omega | (simp; done) | (simp; omega))]; go_simp
  have c3_4_2 : w3.cell? ⟨w2.heap.size + 1, 2, none⟩ = some (B (l2 l)) := by rw [p3 _ _ (by first | assumption | omega | (simp; done) | (simp; omega))]; go_simp
  have c3_4_3 : w3.cell? ⟨w2.heap.size + 1, 3, none⟩ = some (B (l3 l)) := by rw [p3 _ _ (by first | assumption | omega | (simp; done) | (simp; omega))]; go_simp
  clear p3 f3
  clear c2_0_0 c2_0_1 c2_0_2 c2_0_3 c2_1_0 c2_1_1 c2_1_2 c2_1_3 c2_2_0 c2_2_1 c2_2_2 c2_2_3
  go_wp2_with fail
  refine name_world _ ?_
  intro wF hF
  have d0_0 : wF.cell? ⟨w2.heap.size, 0, none⟩ = some (B (l0 h)) := by rw [hF]; go_simp
  have d0_1 : wF.cell? ⟨w2.heap.size, 1, none⟩ = some (B (l1 h)) := by rw [hF]; go_simp
  have d0_2 : wF.cell? ⟨w2.heap.size, 2, none⟩ = some (B (l2 h)) := by rw [hF]; go_simp
  have d0_3 : wF.cell? ⟨w2.heap.size, 3, none⟩ = some (B (l3 h)) := by rw [hF]; go_simp
  have d1_0 : wF.cell? ⟨w3.heap.size, 0, none⟩ = some (B (l0 s)) := by rw [hF]; go_simp
  have d1_1 : wF.cell? ⟨w3.heap.size, 1, none⟩ = some (B (l1 s)) := by rw [hF]; go_simp
  have d1_2 : wF.cell? ⟨w3.heap.size, 2, none⟩ = some (B (l2 s)) := by rw [hF]; go_simp
  have d1_3 : wF.cell? ⟨w3.heap.size, 3, none⟩ = some (B (l3 s)) := by rw [hF]; go_simp
  have d2_0 : wF.cell? ⟨w.heap.size + 1, 0, none⟩ = some (B (l0 m)) := by rw [hF]; go_simp
  have d2_1 : wF.cell? ⟨w.heap.size + 1, 1, none⟩ = some (B (l1 m)) := by rw [hF]; go_simp
  have d2_2 : wF.cell? ⟨w.heap.size + 1, 2, none⟩ = some (B (l2 m)) := by rw [hF]; go_simp
  have d2_3 : wF.cell? ⟨w.heap.size + 1, 3, none⟩ = some (B (l3 m)) := by rw [hF]; go_simp
  have d3_0 : wF.cell? ⟨w.heap.size + 1 + 1, 0, none⟩ = some (B (l0 r)) := by rw [hF]; go_simp
  have d3_1 : wF.cell? ⟨w.heap.size + 1 + 1, 1, none⟩ = some (B (l1 r)) := by rw [hF]; go_simp
  have d3_2 : wF.cell? ⟨w.heap.size + 1 + 1, 2, none⟩ = some (B (l2 r)) := by rw [hF]; go_simp
  have d3_3 : wF.cell? ⟨w.heap.size + 1 + 1, 3, none⟩ = some (B (l3 r)) := by rw [hF]; go_simp
  have hBF : Below w.heap.size w wF := by rw [hF]; (repeat (first | exact Below.refl _ _ | apply Below.drew | refine bel_alloc ?_ _ | refine bel_set ?_ (by first | (simp; done) | (simp; omega)) _ | refine bel_call ?_ (by assumption)))
  clear hF
  replace d0_0 := cell_regrown d0_0
  replace d0_1 := cell_regrown d0_1
  replace d0_2 := cell_regrown d0_2
  replace d0_3 := cell_regrown d0_3
  replace d1_0 := cell_regrown d1_0
  replace d1_1 := cell_regrown d1_1
  replace d1_2 := cell_regrown d1_2
  replace d1_3 := cell_regrown d1_3
  replace d2_0 := cell_regrown d2_0
  replace d2_1 := cell_regrown d2_1
  replace d2_2 := cell_regrown d2_2
  replace d2_3 := cell_regrown d2_3
  replace d3_0 := cell_regrown d3_0
  replace d3_1 := cell_regrown d3_1
  replace d3_2 := cell_regrown d3_2
  replace d3_3 := cell_regrown d3_3
  refine wp_region_quiet_below (by kernel_rfl) (by kernel_rfl) ?_
  repeat (go_big_quiet_step (fail))
  go_big_quiet_step ((exact Calls.regrown_of (hr.out _)))
  repeat (go_big_quiet_step (fail))
  go_big_quiet_step ((exact Calls.regrown_of (ha.out _)))
  repeat (go_big_quiet_step (fail))
  refine wpQuiet_nil ?_
  intro _ hw'
  obtain ⟨⟨dq', osq⟩, hw''⟩ := hw'
  subst hw''
  go_wp2
  go_ret
  exact ⟨rfl, bel_call hBF (below_regrown wF dq' osq)⟩

set_option maxRecDepth 100000 in
set_option maxHeartbeats 4000000 in
theorem rests_over (a m r h l s k : Nat) (b : Bool)
    (hc : Hid (∀ w, Calls Try.prog 18 #[U r, U m] w fun e w' => e = .returned (.int .i64 (-1)) ∧ Below w.heap.size w w'))
    (hw : Hid (∀ w, Calls Try.prog 8 #[U a, U m] w fun e w' => e = .returned (.tuple #[U h, U l]) ∧ Below w.heap.size w w'))
    (hs : Hid (∀ w, Calls Try.prog 17 #[U l, U r] w fun e w' => e = .returned (.tuple #[U s, .bool true]) ∧ Below w.heap.size w w'))
    (hp : Hid (∀ w, Calls Try.prog 17 #[U h, I4 1 0 0 0] w fun e w' => e = .returned (.tuple #[U k, .bool b]) ∧ Below w.heap.size w w'))
    (hr : Hid (∀ w, Calls Try.prog 15 #[U k, U s, U m] w fun e w' => e = .returned (U r) ∧ Below w.heap.size w w'))
    (ha : Hid (∀ w, Calls Try.prog 12 #[] w fun e w' => e = .returned (.bool true) ∧ Below w.heap.size w w')) (w : World) :
    Calls Try.prog 7 #[U a, U m, U r] w fun e w' => e = .returned (.bool true) ∧ Below w.heap.size w w' := by
  go_enter Try.func7, Try.ntmps7
  go_wp2_with fail
  refine (hc.out _).mono ?_
  rintro e w1 ⟨rfl, hb1⟩
  obtain ⟨p1, f1, z1⟩ := bcell hb1
  try simp at z1
  have q1_0 : w.heap.size < w1.heap.size := by omega
  have q1_1 : w.heap.size + 1 < w1.heap.size := by omega
  have q1_2 : w.heap.size + 1 + 1 < w1.heap.size := by omega
  have c1_0_0 : w1.cell? ⟨w.heap.size, 0, none⟩ = some (B (l0 a)) := by rw [p1 _ _ (by first | assumption | omega | (simp; done) | (simp; omega))]; go_simp
  have c1_0_1 : w1.cell? ⟨w.heap.size, 1, none⟩ = some (B (l1 a)) := by rw [p1 _ _ (by first | assumption | omega | (simp; done) | (simp; omega))]; go_simp
  have c1_0_2 : w1.cell? ⟨w.heap.size, 2, none⟩ = some (B (l2 a)) := by rw [p1 _ _ (by first | assumption | omega | (simp; done) | (simp; omega))]; go_simp
  have c1_0_3 : w1.cell? ⟨w.heap.size, 3, none⟩ = some (B (l3 a)) := by rw [p1 _ _ (by first | assumption | omega | (simp; done) | (simp; omega))]; go_simp
  have c1_1_0 : w1.cell? ⟨w.heap.size + 1, 0, none⟩ = some (B (l0 m)) := by rw [p1 _ _ (by first | assumption | omega | (simp; done) | (simp; omega))]; go_simp
  have c1_1_1 : w1.cell? ⟨w.heap.size + 1, 1, none⟩ = some (B (l1 m)) := by rw [p1 _ _ (by first | assumption | omega | (simp; done) | (simp; omega))]; go_simp
  have c1_1_2 : w1.cell? ⟨w.heap.size + 1, 2, none⟩ = some (B (l2 m)) := by rw [p1 _ _ (by first | assumption | omega | (simp; done) | (simp; omega))]; go_simp
  have c1_1_3 : w1.cell? ⟨w.heap.size + 1, 3, none⟩ = some (B (l3 m)) := by rw [p1 _ _ (by first | assumption | omega | (simp; done) | (simp; omega))]; go_simp
  have c1_2_0 : w1.cell? ⟨w.heap.size + 1 + 1, 0, none⟩ = some (B (l0 r)) := by rw [p1 _ _ (by first | assumption | omega | (simp; done) | (simp; omega))]; go_simp
  have c1_2_1 : w1.cell? ⟨w.heap.size + 1 + 1, 1, none⟩ = some (B (l1 r)) := by rw [p1 _ _ (by first | assumption | omega | (simp; done) | (simp; omega))]; go_simp
  have c1_2_2 : w1.cell? ⟨w.heap.size + 1 + 1, 2, none⟩ = some (B (l2 r)) := by rw [p1 _ _ (by first | assumption | omega | (simp; done) | (simp; omega))]; go_simp
  have c1_2_3 : w1.cell? ⟨w.heap.size + 1 + 1, 3, none⟩ = some (B (l3 r)) := by rw [p1 _ _ (by first | assumption | omega | (simp; done) | (simp; omega))]; go_simp
  clear p1 f1
  go_wp2_with fail
  refine (hw.out _).mono ?_
  rintro e w2 ⟨rfl, hb2⟩
  obtain ⟨p2, f2, z2⟩ := bcell hb2
  try simp at z2
  have q2_0 : w.heap.size < w2.heap.size := by omega
  have q2_1 : w.heap.size + 1 < w2.heap.size := by omega
  have q2_2 : w.heap.size + 1 + 1 < w2.heap.size := by omega
  have c2_0_0 : w2.cell? ⟨w.heap.size, 0, none⟩ = some (B (l0 a)) := by rw [p2 _ _ (by first | assumption | omega | (simp; done) | (simp; omega))]; go_simp
  have c2_0_1 : w2.cell? ⟨w.heap.size, 1, none⟩ = some (B (l1 a)) := by rw [p2 _ _ (by first | assumption | omega | (simp; done) | (simp; omega))]; go_simp
  have c2_0_2 : w2.cell? ⟨w.heap.size, 2, none⟩ = some (B (l2 a)) := by rw [p2 _ _ (by first | assumption | omega | (simp; done) | (simp; omega))]; go_simp
  have c2_0_3 : w2.cell? ⟨w.heap.size, 3, none⟩ = some (B (l3 a)) := by rw [p2 _ _ (by first | assumption | omega | (simp; done) | (simp; omega))]; go_simp
  have c2_1_0 : w2.cell? ⟨w.heap.size + 1, 0, none⟩ = some (B (l0 m)) := by rw [p2 _ _ (by first | assumption | omega | (simp; done) | (simp; omega))]; go_simp
  have c2_1_1 : w2.cell? ⟨w.heap.size + 1, 1, none⟩ = some (B (l1 m)) := by rw [p2 _ _ (by first | assumption | omega | (simp; done) | (simp; omega))]; go_simp
  have c2_1_2 : w2.cell? ⟨w.heap.size + 1, 2, none⟩ = some (B (l2 m)) := by rw [p2 _ _ (by first | assumption | omega | (simp; done) | (simp; omega))]; go_simp
  have c2_1_3 : w2.cell? ⟨w.heap.size + 1, 3, none⟩ = some (B (l3 m)) := by rw [p2 _ _ (by first | assumption | omega | (simp; done) | (simp; omega))]; go_simp
  have c2_2_0 : w2.cell? ⟨w.heap.size + 1 + 1, 0, none⟩ = some (B (l0 r)) := by rw [p2 _ _ (by first | assumption | omega | (simp; done) | (simp; omega))]; go_simp
  have c2_2_1 : w2.cell? ⟨w.heap.size + 1 + 1, 1, none⟩ = some (B (l1 r)) := by rw [p2 _ _ (by first | assumption | omega | (simp; done) | (simp; omega))]; go_simp
  have c2_2_2 : w2.cell? ⟨w.heap.size + 1 + 1, 2, none⟩ = some (B (l2 r)) := by rw [p2 _ _ (by first | assumption | omega | (simp; done) | (simp; omega))]; go_simp
  have c2_2_3 : w2.cell? ⟨w.heap.size + 1 + 1, 3, none⟩ = some (B (l3 r)) := by rw [p2 _ _ (by first | assumption | omega | (simp; done) | (simp; omega))]; go_simp
  clear p2 f2
  clear c1_0_0 c1_0_1 c1_0_2 c1_0_3 c1_1_0 c1_1_1 c1_1_2 c1_1_3 c1_2_0 c1_2_1 c1_2_2 c1_2_3
  go_wp2_with fail
  refine (hs.out _).mono ?_
  rintro e w3 ⟨rfl, hb3⟩
  obtain ⟨p3, f3, z3⟩ := bcell hb3
  try simp at z3
  have q3_0 : w.heap.size < w3.heap.size := by omega
  have q3_1 : w.heap.size + 1 < w3.heap.size := by omega
  have q3_2 : w.heap.size + 1 + 1 < w3.heap.size := by omega
  have q3_3 : w2.heap.size < w3.heap.size := by omega
  have q3_4 : w2.heap.size + 1 < w3.heap.size := by omega
  have c3_0_0 : w3.cell? ⟨w.heap.size, 0, none⟩ = some (B (l0 a)) := by rw [p3 _ _ (by first | assumption | omega | (simp; done) | (simp; omega))]; go_simp
  have c3_0_1 : w3.cell? ⟨w.heap.size, 1, none⟩ = some (B (l1 a)) := by rw [p3 _ _ (by first | assumption | omega | (simp; done) | (simp; omega))]; go_simp
  have c3_0_2 : w3.cell? ⟨w.heap.size, 2, none⟩ = some (B (l2 a)) := by rw [p3 _ _ (by first | assumption | omega | (simp; done) | (simp; omega))]; go_simp
  have c3_0_3 : w3.cell? ⟨w.heap.size, 3, none⟩ = some (B (l3 a)) := by rw [p3 _ _ (by first | assumption | omega | (simp; done) | (simp; omega))]; go_simp
  have c3_1_0 : w3.cell? ⟨w.heap.size + 1, 0, none⟩ = some (B (l0 m)) := by rw [p3 _ _ (by first | assumption | omega | (simp; done) | (simp; omega))]; go_simp
  have c3_1_1 : w3.cell? ⟨w.heap.size + 1, 1, none⟩ = some (B (l1 m)) := by rw [p3 _ _ (by first | assumption | omega | (simp; done) | (simp; omega))]; go_simp
  have c3_1_2 : w3.cell? ⟨w.heap.size + 1, 2, none⟩ = some (B (l2 m)) := by rw [p3 _ _ (by first | assumption | omega | (simp; done) | (simp; omega))]; go_simp
  have c3_1_3 : w3.cell? ⟨w.heap.size + 1, 3, none⟩ = some (B (l3 m)) := by rw [p3 _ _ (by first | assumption | omega | (simp; done) | (simp; omega))]; go_simp
  have c3_2_0 : w3.cell? ⟨w.heap.size + 1 + 1, 0, none⟩ = some (B (l0 r)) := by rw [p3 _ _ (by first | assumption | omega | (simp; done) | (simp; omega))]; go_simp
  have c3_2_1 : w3.cell? ⟨w.heap.size + 1 + 1, 1, none⟩ = some (B (l1 r)) := by rw [p3 _ _ (by first | assumption | omega | (simp; done) | (simp; omega))]; go_simp
  have c3_2_2 : w3.cell? ⟨w.heap.size + 1 + 1, 2, none⟩ = some (B (l2 r)) := by rw [p3 _ _ (by first | assumption | omega | (simp; done) | (simp; omega))]; go_simp
  have c3_2_3 : w3.cell? ⟨w.heap.size + 1 + 1, 3, none⟩ = some (B (l3 r)) := by rw [p3 _ _ (by first | assumption | omega | (simp; done) | (simp; omega))]; go_simp
  have c3_3_0 : w3.cell? ⟨w2.heap.size, 0, none⟩ = some (B (l0 h)) := by rw [p3 _ _ (by first | assumption | omega | (simp; done) | (simp; omega))]; go_simp
  have c3_3_1 : w3.cell? ⟨w2.heap.size, 1, none⟩ = some (B (l1 h)) := by rw [p3 _ _ (by first | assumption | omega | (simp; done) | (simp; omega))]; go_simp
  have c3_3_2 : w3.cell? ⟨w2.heap.size, 2, none⟩ = some (B (l2 h)) := by rw [p3 _ _ (by first | assumption | omega | (simp; done) | (simp; omega))]; go_simp
  have c3_3_3 : w3.cell? ⟨w2.heap.size, 3, none⟩ = some (B (l3 h)) := by rw [p3 _ _ (by first | assumption | omega | (simp; done) | (simp; omega))]; go_simp
  have c3_4_0 : w3.cell? ⟨w2.heap.size + 1, 0, none⟩ = some (B (l0 l)) := by rw [p3 _ _ (by first | assumption | omega | (simp; done) | (simp; omega))]; go_simp
  have c3_4_1 : w3.cell? ⟨w2.heap.size + 1, 1, none⟩ = some (B (l1 l)) := by rw [p3 _ _ (by first | assumption | omega | (simp; done) | (simp; omega))]; go_simp
  have c3_4_2 : w3.cell? ⟨w2.heap.size + 1, 2, none⟩ = some (B (l2 l)) := by rw [p3 _ _ (by first | assumption | omega | (simp; done) | (simp; omega))]; go_simp
  have c3_4_3 : w3.cell? ⟨w2.heap.size + 1, 3, none⟩ = some (B (l3 l)) := by rw [p3 _ _ (by first | assumption | omega | (simp; done) | (simp; omega))]; go_simp
  have fz3 : ∀ k, w3.frozen? ⟨w2.heap.size, k, none⟩ = false := fun k => by
    rw [f3 _ _ (by first | assumption | omega | (simp; done) | (simp; omega)), frozen?_alloc_cells]
    exact HasRow.frozen (HasRow.last rfl) k
  clear p3 f3
  clear c2_0_0 c2_0_1 c2_0_2 c2_0_3 c2_1_0 c2_1_1 c2_1_2 c2_1_3 c2_2_0 c2_2_1 c2_2_2 c2_2_3
  go_wp2_with fail
  refine (hp.out _).mono ?_
  rintro e w4 ⟨rfl, hb4⟩
  obtain ⟨p4, f4, z4⟩ := bcell hb4
  try simp at z4
  have q4_0 : w.heap.size < w4.heap.size := by omega
  have q4_1 : w.heap.size + 1 < w4.heap.size := by omega
  have q4_2 : w.heap.size + 1 + 1 < w4.heap.size := by omega
  have q4_3 : w2.heap.size < w4.heap.size := by omega
  have q4_4 : w2.heap.size + 1 < w4.heap.size := by omega
  have q4_5 : w3.heap.size < w4.heap.size := by omega
  have c4_0_0 : w4.cell? ⟨w.heap.size, 0, none⟩ = some (B (l0 a)) := by rw [p4 _ _ (by first | assumption | omega | (simp; done) | (simp; omega))]; go_simp
  have c4_0_1 : w4.cell? ⟨w.heap.size, 1, none⟩ = some (B (l1 a)) := by rw [p4 _ _ (by first | assumption | omega | (simp; done) | (simp; omega))]; go_simp
  have c4_0_2 : w4.cell? ⟨w.heap.size, 2, none⟩ = some (B (l2 a)) := by rw [p4 _ _ (by first | assumption | omega | (simp; done) | (simp; omega))]; go_simp
  have c4_0_3 : w4.cell? ⟨w.heap.size, 3, none⟩ = some (B (l3 a)) := by rw [p4 _ _ (by first | assumption | omega | (simp; done) | (simp; omega))]; go_simp
  have c4_1_0 : w4.cell? ⟨w.heap.size + 1, 0, none⟩ = some (B (l0 m)) := by rw [p4 _ _ (by first | assumption | omega | (simp; done) | (simp; omega))]; go_simp
  have c4_1_1 : w4.cell? ⟨w.heap.size + 1, 1, none⟩ = some (B (l1 m)) := by rw [p4 _ _ (by first | assumption | omega | (simp; done) | (simp; omega))]; go_simp
  have c4_1_2 : w4.cell? ⟨w.heap.size + 1, 2, none⟩ = some (B (l2 m)) := by rw [p4 _ _ (by first | assumption | omega | (simp; done) | (simp; omega))]; go_simp
  have c4_1_3 : w4.cell? ⟨w.heap.size + 1, 3, none⟩ = some (B (l3 m)) := by rw [p4 _ _ (by first | assumption | omega | (simp; done) | (simp; omega))]; go_simp
  have c4_2_0 : w4.cell? ⟨w.heap.size + 1 + 1, 0, none⟩ = some (B (l0 r)) := by rw [p4 _ _ (by first | assumption | omega | (simp; done) | (simp; omega))]; go_simp
  have c4_2_1 : w4.cell? ⟨w.heap.size + 1 + 1, 1, none⟩ = some (B (l1 r)) := by rw [p4 _ _ (by first | assumption | omega | (simp; done) | (simp; omega))]; go_simp
  have c4_2_2 : w4.cell? ⟨w.heap.size + 1 + 1, 2, none⟩ = some (B (l2 r)) := by rw [p4 _ _ (by first | assumption | omega | (simp; done) | (simp; omega))]; go_simp
  have c4_2_3 : w4.cell? ⟨w.heap.size + 1 + 1, 3, none⟩ = some (B (l3 r)) := by rw [p4 _ _ (by first | assumption | omega | (simp; done) | (simp; omega))]; go_simp
  have c4_3_0 : w4.cell? ⟨w2.heap.size, 0, none⟩ = some (B (l0 h)) := by rw [p4 _ _ (by first | assumption | omega | (simp; done) | (simp; omega))]; go_simp
  have c4_3_1 : w4.cell? ⟨w2.heap.size, 1, none⟩ = some (B (l1 h)) := by rw [p4 _ _ (by first | assumption | omega | (simp; done) | (simp; omega))]; go_simp
  have c4_3_2 : w4.cell? ⟨w2.heap.size, 2, none⟩ = some (B (l2 h)) := by rw [p4 _ _ (by first | assumption | omega | (simp; done) | (simp; omega))]; go_simp
  have c4_3_3 : w4.cell? ⟨w2.heap.size, 3, none⟩ = some (B (l3 h)) := by rw [p4 _ _ (by first | assumption | omega | (simp; done) | (simp; omega))]; go_simp
  have c4_4_0 : w4.cell? ⟨w2.heap.size + 1, 0, none⟩ = some (B (l0 l)) := by rw [p4 _ _ (by first | assumption | omega | (simp; done) | (simp; omega))]; go_simp
  have c4_4_1 : w4.cell? ⟨w2.heap.size + 1, 1, none⟩ = some (B (l1 l)) := by rw [p4 _ _ (by first | assumption | omega | (simp; done) | (simp; omega))]; go_simp
  have c4_4_2 : w4.cell? ⟨w2.heap.size + 1, 2, none⟩ = some (B (l2 l)) := by rw [p4 _ _ (by first | assumption | omega | (simp; done) | (simp; omega))]; go_simp
  have c4_4_3 : w4.cell? ⟨w2.heap.size + 1, 3, none⟩ = some (B (l3 l)) := by rw [p4 _ _ (by first | assumption | omega | (simp; done) | (simp; omega))]; go_simp
  have c4_5_0 : w4.cell? ⟨w3.heap.size, 0, none⟩ = some (B (l0 s)) := by rw [p4 _ _ (by first | assumption | omega | (simp; done) | (simp; omega))]; go_simp
  have c4_5_1 : w4.cell? ⟨w3.heap.size, 1, none⟩ = some (B (l1 s)) := by rw [p4 _ _ (by first | assumption | omega | (simp; done) | (simp; omega))]; go_simp
  have c4_5_2 : w4.cell? ⟨w3.heap.size, 2, none⟩ = some (B (l2 s)) := by rw [p4 _ _ (by first | assumption | omega | (simp; done) | (simp; omega))]; go_simp
  have c4_5_3 : w4.cell? ⟨w3.heap.size, 3, none⟩ = some (B (l3 s)) := by rw [p4 _ _ (by first | assumption | omega | (simp; done) | (simp; omega))]; go_simp
  have fz : ∀ k, w4.frozen? ⟨w2.heap.size, k, none⟩ = false := fun k => by
    rw [f4 _ _ (by first | assumption | omega | (simp; done) | (simp; omega)), frozen?_alloc_cells, fz3]
  clear p4 f4 fz3
  clear c3_0_0 c3_0_1 c3_0_2 c3_0_3 c3_1_0 c3_1_1 c3_1_2 c3_1_3 c3_2_0 c3_2_1 c3_2_2 c3_2_3 c3_3_0 c3_3_1 c3_3_2 c3_3_3 c3_4_0 c3_4_1 c3_4_2 c3_4_3
  go_wp2_with fail
  refine name_world _ ?_
  intro wF hF
  have d0_0 : wF.cell? ⟨w2.heap.size, 0, none⟩ = some (B (l0 k)) := by rw [hF]; go_simp
  have d0_1 : wF.cell? ⟨w2.heap.size, 1, none⟩ = some (B (l1 k)) := by rw [hF]; go_simp
  have d0_2 : wF.cell? ⟨w2.heap.size, 2, none⟩ = some (B (l2 k)) := by rw [hF]; go_simp
  have d0_3 : wF.cell? ⟨w2.heap.size, 3, none⟩ = some (B (l3 k)) := by rw [hF]; go_simp
  have d1_0 : wF.cell? ⟨w3.heap.size, 0, none⟩ = some (B (l0 s)) := by rw [hF]; go_simp
  have d1_1 : wF.cell? ⟨w3.heap.size, 1, none⟩ = some (B (l1 s)) := by rw [hF]; go_simp
  have d1_2 : wF.cell? ⟨w3.heap.size, 2, none⟩ = some (B (l2 s)) := by rw [hF]; go_simp
  have d1_3 : wF.cell? ⟨w3.heap.size, 3, none⟩ = some (B (l3 s)) := by rw [hF]; go_simp
  have d2_0 : wF.cell? ⟨w.heap.size + 1, 0, none⟩ = some (B (l0 m)) := by rw [hF]; go_simp
  have d2_1 : wF.cell? ⟨w.heap.size + 1, 1, none⟩ = some (B (l1 m)) := by rw [hF]; go_simp
  have d2_2 : wF.cell? ⟨w.heap.size + 1, 2, none⟩ = some (B (l2 m)) := by rw [hF]; go_simp
  have d2_3 : wF.cell? ⟨w.heap.size + 1, 3, none⟩ = some (B (l3 m)) := by rw [hF]; go_simp
  have d3_0 : wF.cell? ⟨w.heap.size + 1 + 1, 0, none⟩ = some (B (l0 r)) := by rw [hF]; go_simp
  have d3_1 : wF.cell? ⟨w.heap.size + 1 + 1, 1, none⟩ = some (B (l1 r)) := by rw [hF]; go_simp
  have d3_2 : wF.cell? ⟨w.heap.size + 1 + 1, 2, none⟩ = some (B (l2 r)) := by rw [hF]; go_simp
  have d3_3 : wF.cell? ⟨w.heap.size + 1 + 1, 3, none⟩ = some (B (l3 r)) := by rw [hF]; go_simp
  have hBF : Below w.heap.size w wF := by rw [hF]; (repeat (first | exact Below.refl _ _ | apply Below.drew | refine bel_alloc ?_ _ | refine bel_set ?_ (by first | (simp; done) | (simp; omega)) _ | refine bel_call ?_ (by assumption)))
  clear hF
  replace d0_0 := cell_regrown d0_0
  replace d0_1 := cell_regrown d0_1
  replace d0_2 := cell_regrown d0_2
  replace d0_3 := cell_regrown d0_3
  replace d1_0 := cell_regrown d1_0
  replace d1_1 := cell_regrown d1_1
  replace d1_2 := cell_regrown d1_2
  replace d1_3 := cell_regrown d1_3
  replace d2_0 := cell_regrown d2_0
  replace d2_1 := cell_regrown d2_1
  replace d2_2 := cell_regrown d2_2
  replace d2_3 := cell_regrown d2_3
  replace d3_0 := cell_regrown d3_0
  replace d3_1 := cell_regrown d3_1
  replace d3_2 := cell_regrown d3_2
  replace d3_3 := cell_regrown d3_3
  refine wp_region_quiet_below (by kernel_rfl) (by kernel_rfl) ?_
  repeat (go_big_quiet_step (fail))
  go_big_quiet_step ((exact Calls.regrown_of (hr.out _)))
  repeat (go_big_quiet_step (fail))
  go_big_quiet_step ((exact Calls.regrown_of (ha.out _)))
  repeat (go_big_quiet_step (fail))
  refine wpQuiet_nil ?_
  intro _ hw'
  obtain ⟨⟨dq', osq⟩, hw''⟩ := hw'
  subst hw''
  go_wp2
  go_ret
  exact ⟨rfl, bel_call hBF (below_regrown wF dq' osq)⟩

theorem rests_math (a m r T : Nat) (hr : r < m) (hT : T = a * m + r) : T % m = r := by
  rw [hT, Nat.mul_comm, Nat.mul_add_mod, Nat.mod_eq_of_lt hr]
theorem rests_walk (a m r : Nat) (ha : a < W) (hm : m < W) (hr : r < W) (w : World) : Calls Try.prog 7 #[U a, U m, U r] w fun e w' => e = .returned (.bool true) ∧ Below w.heap.size w w' := by
  rcases Nat.lt_or_ge r m with hlt | hge
  · have hc : ∀ w, Calls Try.prog 18 #[U r, U m] w fun e w' => e = .returned (.int .i64 (-1)) ∧ Below w.heap.size w w' := fun w => by
      have h := rcmp_any r m hr hm w
      have e1 : cmpN r m = -1 := by unfold cmpN; rw [if_pos hlt]
      rw [e1] at h
      exact h
    have hW := W_pos
    have hp : a * m / W + 1 < W := by
      have h1 : a * m ≤ (W - 1) * (W - 1) := Nat.mul_le_mul (by omega) (by omega)
      have h2 : a * m / W < W - 1 := by
        rw [Nat.div_lt_iff_lt_mul hW]
        refine Nat.lt_of_le_of_lt h1 ?_
        exact Nat.mul_lt_mul_of_pos_left (by omega) (by decide +kernel)
      omega
    have hd := Nat.div_add_mod (a * m) W
    have hlW : a * m % W < W := Nat.mod_lt _ hW
    generalize hh : a * m / W = h at *
    generalize hl : a * m % W = l at *
    have hwide : ∀ w, Calls Try.prog 8 #[U a, U m] w fun e w' => e = .returned (.tuple #[U h, U l]) ∧ Below w.heap.size w w' := fun w => by
      have q := wide_any a m ha hm w
      rw [hh, hl] at q
      exact q
    rcases Nat.lt_or_ge (l + r) W with ho | ho
    · refine rests_low a m r h l (l + r) hc hwide (fun w => ?_) (fun w => ?_) awake_any w
      · have q := radd_any l r hlW hr w
        have e1 : addW l r = l + r := Nat.mod_eq_of_lt ho
        have e2 : ovW l r = false := decide_eq_false (by omega)
        rw [e1, e2] at q
        exact q
      · have q := rest_any h (l + r) m (by omega) ho hm w
        have e : dr h (l + r) m = r := by
          unfold dr
          rw [if_neg (by omega)]
          exact rests_math a m r _ hlt (by rw [← hd, Nat.mul_comm]; omega)
        rw [e] at q
        exact q
    · refine rests_over a m r h l (l + r - W) (h + 1) (ovW h 1) hc hwide (fun w => ?_) (fun w => ?_) (fun w => ?_) awake_any w
      · have q := radd_any l r hlW hr w
        have e1 : addW l r = l + r - W := by unfold addW; rw [Nat.mod_eq_sub_mod ho, Nat.mod_eq_of_lt (by omega)]
        have e2 : ovW l r = true := decide_eq_true ho
        rw [e1, e2] at q
        exact q
      · have q := radd_any h 1 (by omega) (by decide +kernel) w
        have e1 : addW h 1 = h + 1 := Nat.mod_eq_of_lt (by omega)
        rw [e1, U_1] at q
        exact q
      · have q := rest_any (h + 1) (l + r - W) m (by omega) (by omega) hm w
        have e : dr (h + 1) (l + r - W) m = r := by
          unfold dr
          rw [if_neg (by omega)]
          refine rests_math a m r _ hlt ?_
          rw [Nat.add_mul, Nat.one_mul, ← hd, Nat.mul_comm W h]
          omega
        rw [e] at q
        exact q
  · refine rests_out a m r (cmpN r m) (fun w => rcmp_any r m hr hm w) awake_any ?_ w
    unfold cmpN
    rw [if_neg (by omega)]
    split <;> decide
end Go.Proofs.Ytmcdklcocgahpaa
