/- The walk of the law NumOrders. -/
import Derived.Test.YtgmdckibfndbkaaAw
import Derived.Lib.QuietBelow
import Derived.BigQuiet
namespace Go.Proofs.Ytgmdckibfndbkaa
open Go.RowKit Go.Sort
set_option linter.unusedVariables false

theorem name_world {P : Program} {c : Code} {Q : Exit → Act → World → Prop} {a : Act} (w : World) (h : ∀ w', w' = w → c.wp P Q a w') : c.wp P Q a w := h w rfl

theorem cmpN_neg (n m : Nat) : decide (cmpN n m < 0) = unW n m := by
  unfold unW cmpN; rw [decide_eq_decide]; split
  · omega
  · split <;> omega
theorem cmpN_and (n m : Nat) : decide (cmpN (n &&& m) n ≤ 0) = true := by
  have := Nat.and_le_left (n := n) (m := m)
  unfold cmpN; rw [decide_eq_true_eq]; split
  · omega
  · split <;> omega
theorem cmpN_or (n m : Nat) : decide (0 ≤ cmpN (n ||| m) n) = true := by
  have := Nat.left_le_or (n := n) (m := m)
  unfold cmpN; rw [decide_eq_true_eq]; split
  · omega
  · split <;> omega
theorem addW_assoc (n m k : Nat) : addW n (addW m k) = addW (addW n m) k := by
  unfold addW; rw [Nat.add_mod_mod, Nat.mod_add_mod, Nat.add_assoc]
theorem and_ltW (n m : Nat) (hn : n < W) : n &&& m < W := Nat.lt_of_le_of_lt Nat.and_le_left hn
theorem or_ltW (n m : Nat) (hn : n < W) (hm : m < W) : n ||| m < W := by
  rw [W_pow] at *; exact Nat.or_lt_two_pow hn hm
attribute [local go_sem] run_eqU_same cmpN_neg cmpN_and cmpN_or

set_option maxRecDepth 100000 in
set_option maxHeartbeats 4000000 in
theorem orders_walk (n m k : Nat) (hn : n < W) (hm : m < W) (hk : k < W) (w : World) : Calls Try.prog 8 #[U n, U m, U k] w fun e w' => e = .returned (.bool true) ∧ Below w.heap.size w w' := by
  go_enter Try.func8, Try.ntmps8
  go_wp2_with fail
  refine (add_any n m hn hm _).mono ?_
  rintro e w1 ⟨rfl, hb1⟩
  obtain ⟨p1, f1, z1⟩ := bcell hb1
  try simp at z1
  have q1_0 : w.heap.size < w1.heap.size := by omega
  have q1_1 : w.heap.size + 1 < w1.heap.size := by omega
  have q1_2 : w.heap.size + 1 + 1 < w1.heap.size := by omega
  go_wp2_with fail
  refine (add_any (addW n m) k (addW_lt _ _) hk _).mono ?_
  rintro e w2 ⟨rfl, hb2⟩
  obtain ⟨p2, f2, z2⟩ := bcell hb2
  try simp at z2
  have q2_0 : w.heap.size < w2.heap.size := by omega
  have q2_1 : w.heap.size + 1 < w2.heap.size := by omega
  have q2_2 : w.heap.size + 1 + 1 < w2.heap.size := by omega
  have q2_3 : w1.heap.size < w2.heap.size := by omega
  go_wp2_with fail
  refine (add_any m k hm hk _).mono ?_
  rintro e w3 ⟨rfl, hb3⟩
  obtain ⟨p3, f3, z3⟩ := bcell hb3
  try simp at z3
  have q3_0 : w.heap.size < w3.heap.size := by omega
  have q3_1 : w.heap.size + 1 < w3.heap.size := by omega
  have q3_2 : w.heap.size + 1 + 1 < w3.heap.size := by omega
  have q3_3 : w1.heap.size < w3.heap.size := by omega
  go_wp2_with fail
  have hcon4 := fun ww => (add_any n (addW m k) hn (addW_lt _ _) ww)
  rw [addW_assoc n m k] at hcon4
  refine (hcon4 _).mono ?_
  clear hcon4
  rintro e w4 ⟨rfl, hb4⟩
  obtain ⟨p4, f4, z4⟩ := bcell hb4
  try simp at z4
  have q4_0 : w.heap.size < w4.heap.size := by omega
  have q4_1 : w.heap.size + 1 < w4.heap.size := by omega
  have q4_2 : w.heap.size + 1 + 1 < w4.heap.size := by omega
  have q4_3 : w1.heap.size < w4.heap.size := by omega
  have q4_4 : w3.heap.size < w4.heap.size := by omega
  go_wp2_with fail
  refine (sub_any n m hn hm _).mono ?_
  rintro e w5 ⟨rfl, hb5⟩
  obtain ⟨p5, f5, z5⟩ := bcell hb5
  try simp at z5
  have q5_0 : w.heap.size < w5.heap.size := by omega
  have q5_1 : w.heap.size + 1 < w5.heap.size := by omega
  have q5_2 : w.heap.size + 1 + 1 < w5.heap.size := by omega
  have q5_3 : w1.heap.size < w5.heap.size := by omega
  have q5_4 : w3.heap.size < w5.heap.size := by omega
  go_wp2_with fail
  refine name_world _ ?_
  intro wF hF
  have c0_0 : wF.cell? ⟨w.heap.size, 0, none⟩ = some (B (l0 n)) := by rw [hF]; go_simp
  have c0_1 : wF.cell? ⟨w.heap.size, 1, none⟩ = some (B (l1 n)) := by rw [hF]; go_simp
  have c0_2 : wF.cell? ⟨w.heap.size, 2, none⟩ = some (B (l2 n)) := by rw [hF]; go_simp
  have c0_3 : wF.cell? ⟨w.heap.size, 3, none⟩ = some (B (l3 n)) := by rw [hF]; go_simp
  have c1_0 : wF.cell? ⟨(w.heap.size + 1), 0, none⟩ = some (B (l0 m)) := by rw [hF]; go_simp
  have c1_1 : wF.cell? ⟨(w.heap.size + 1), 1, none⟩ = some (B (l1 m)) := by rw [hF]; go_simp
  have c1_2 : wF.cell? ⟨(w.heap.size + 1), 2, none⟩ = some (B (l2 m)) := by rw [hF]; go_simp
  have c1_3 : wF.cell? ⟨(w.heap.size + 1), 3, none⟩ = some (B (l3 m)) := by rw [hF]; go_simp
  have c2_0 : wF.cell? ⟨w1.heap.size, 0, none⟩ = some (B (l0 (addW (addW n m) k))) := by rw [hF]; go_simp
  have c2_1 : wF.cell? ⟨w1.heap.size, 1, none⟩ = some (B (l1 (addW (addW n m) k))) := by rw [hF]; go_simp
  have c2_2 : wF.cell? ⟨w1.heap.size, 2, none⟩ = some (B (l2 (addW (addW n m) k))) := by rw [hF]; go_simp
  have c2_3 : wF.cell? ⟨w1.heap.size, 3, none⟩ = some (B (l3 (addW (addW n m) k))) := by rw [hF]; go_simp
  have c3_0 : wF.cell? ⟨w3.heap.size, 0, none⟩ = some (B (l0 (addW (addW n m) k))) := by rw [hF]; go_simp
  have c3_1 : wF.cell? ⟨w3.heap.size, 1, none⟩ = some (B (l1 (addW (addW n m) k))) := by rw [hF]; go_simp
  have c3_2 : wF.cell? ⟨w3.heap.size, 2, none⟩ = some (B (l2 (addW (addW n m) k))) := by rw [hF]; go_simp
  have c3_3 : wF.cell? ⟨w3.heap.size, 3, none⟩ = some (B (l3 (addW (addW n m) k))) := by rw [hF]; go_simp
  have hBF : Below w.heap.size w wF := by rw [hF]; (repeat (first | exact Below.refl _ _ | apply Below.drew | refine bel_alloc ?_ _ | refine bel_set ?_ (by first | (simp; done) | (simp; omega)) _ | refine bel_call ?_ (by assumption)))
  clear hF
  clear p5 f5 hb5 z5 p4 f4 hb4 z4 p3 f3 hb3 z3 p2 f2 hb2 z2 p1 f1 hb1 z1
  replace c0_0 := cell_regrown c0_0
  replace c0_1 := cell_regrown c0_1
  replace c0_2 := cell_regrown c0_2
  replace c0_3 := cell_regrown c0_3
  replace c1_0 := cell_regrown c1_0
  replace c1_1 := cell_regrown c1_1
  replace c1_2 := cell_regrown c1_2
  replace c1_3 := cell_regrown c1_3
  replace c2_0 := cell_regrown c2_0
  replace c2_1 := cell_regrown c2_1
  replace c2_2 := cell_regrown c2_2
  replace c2_3 := cell_regrown c2_3
  replace c3_0 := cell_regrown c3_0
  replace c3_1 := cell_regrown c3_1
  replace c3_2 := cell_regrown c3_2
  replace c3_3 := cell_regrown c3_3
  refine wp_region_quiet_below (by kernel_rfl) (by kernel_rfl) ?_
  repeat (go_big_quiet_step (fail))
  go_big_quiet_step (exact Calls.regrown_of (cmp_any n m hn hm _))
  repeat (go_big_quiet_step (fail))
  go_big_quiet_step (exact Calls.regrown_of (and_any n m _))
  repeat (go_big_quiet_step (fail))
  go_big_quiet_step (exact Calls.regrown_of (cmp_any (n &&& m) n (and_ltW _ _ hn) hn _))
  repeat (go_big_quiet_step (fail))
  go_big_quiet_step (exact Calls.regrown_of (or_any n m _))
  repeat (go_big_quiet_step (fail))
  go_big_quiet_step (exact Calls.regrown_of (cmp_any (n ||| m) n (or_ltW _ _ hn hm) hn _))
  repeat (go_big_quiet_step (fail))
  go_big_quiet_step (exact Calls.regrown_of (awake_any _))
  repeat (go_big_quiet_step (fail))
  refine wpQuiet_nil ?_
  intro _ hw'
  obtain ⟨⟨dq, osq⟩, hw''⟩ := hw'
  subst hw''
  go_wp2
  go_ret
  exact ⟨rfl, bel_call hBF (below_regrown wF dq osq)⟩

end Go.Proofs.Ytgmdckibfndbkaa
