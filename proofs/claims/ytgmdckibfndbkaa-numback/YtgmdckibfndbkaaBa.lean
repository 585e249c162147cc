/- The walk of the law NumBack. -/
import Derived.Test.YtgmdckibfndbkaaOr
import Derived.Test.YtgmdckibfndbkaaRs
import Derived.Lib.QuietBelow
import Derived.BigQuiet
namespace Go.Proofs.Ytgmdckibfndbkaa
open Go.RowKit Go.Sort
set_option linter.unusedVariables false

attribute [local go_sem] run_eqU_same

theorem addW_comm (n m : Nat) : addW m n = addW n m := by unfold addW; rw [Nat.add_comm]
theorem ovW_comm (n m : Nat) : ovW m n = ovW n m := by unfold ovW; rw [Nat.add_comm]
theorem add_back (n m : Nat) (hn : n < W) (hm : m < W) : subW (addW n m) m = n ∧ unW (addW n m) m = ovW n m := by
  have hW := W_pos
  unfold subW unW ovW addW
  by_cases h : W ≤ n + m
  · have e : (n + m) % W = n + m - W := by rw [Nat.mod_eq_sub_mod h, Nat.mod_eq_of_lt (by omega)]
    rw [e]
    refine ⟨?_, by rw [decide_eq_decide]; omega⟩
    rw [show n + m - W + W - m = n by omega, Nat.mod_eq_of_lt hn]
  · have e : (n + m) % W = n + m := Nat.mod_eq_of_lt (by omega)
    rw [e]
    refine ⟨?_, by rw [decide_eq_decide]; omega⟩
    rw [show n + m + W - m = n + W by omega, Nat.add_mod_right, Nat.mod_eq_of_lt hn]
theorem read_back (n : Nat) (hn : n < W) (w : World) : Calls Try.prog 32 #[.string (strN n)] w fun e w' => e = .returned (.tuple #[U n, .int .i64 0]) ∧ Below w.heap.size w w' := by
  have h := read_any (strN n) (by rw [strN_size]; exact Nat.le_refl _) w
  rw [rd_back n hn] at h; exact h
theorem sub_back (n m : Nat) (hn : n < W) (hm : m < W) (w : World) : Calls Try.prog 11 #[U (addW n m), U m] w fun e w' => e = .returned (.tuple #[U n, .bool (ovW n m)]) ∧ Below w.heap.size w w' := by
  have h := sub_any (addW n m) m (addW_lt _ _) hm w
  rw [(add_back n m hn hm).1, (add_back n m hn hm).2] at h; exact h
theorem add_comm (n m : Nat) (hn : n < W) (hm : m < W) (w : World) : Calls Try.prog 9 #[U m, U n] w fun e w' => e = .returned (.tuple #[U (addW n m), .bool (ovW n m)]) ∧ Below w.heap.size w w' := by
  have h := add_any m n hm hn w
  rw [addW_comm, ovW_comm] at h; exact h

set_option maxRecDepth 100000 in
set_option maxHeartbeats 4000000 in
theorem back_gen (n m x : Nat) (s : ByteArray) (o : Bool) (hsz : ((s.size : Int) != 32) = false)
    (hBy : Hid (∀ w, Calls Try.prog 34 #[U n] w fun e w' => e = .returned (.string s) ∧ Below w.heap.size w w'))
    (hRd : Hid (∀ w, Calls Try.prog 32 #[.string s] w fun e w' => e = .returned (.tuple #[U n, .int .i64 0]) ∧ Below w.heap.size w w'))
    (hAdd : Hid (∀ w, Calls Try.prog 9 #[U n, U m] w fun e w' => e = .returned (.tuple #[U x, .bool o]) ∧ Below w.heap.size w w'))
    (hSub : Hid (∀ w, Calls Try.prog 11 #[U x, U m] w fun e w' => e = .returned (.tuple #[U n, .bool o]) ∧ Below w.heap.size w w'))
    (hAdd2 : Hid (∀ w, Calls Try.prog 9 #[U m, U n] w fun e w' => e = .returned (.tuple #[U x, .bool o]) ∧ Below w.heap.size w w'))
    (hAw : Hid (∀ w, Calls Try.prog 17 #[] w fun e w' => e = .returned (.bool true) ∧ Below w.heap.size w w')) (w : World) :
    Calls Try.prog 6 #[U n, U m] w fun e w' => e = .returned (.bool true) ∧ Below w.heap.size w w' := by
  go_enter Try.func6, Try.ntmps6
  go_wp2_with fail
  refine (hBy.out _).mono ?_
  rintro e w1 ⟨rfl, hb1⟩
  obtain ⟨p1, f1, z1⟩ := bcell hb1
  try simp at z1
  have q1_0 : w.heap.size < w1.heap.size := by omega
  have q1_1 : w.heap.size + 1 < w1.heap.size := by omega
  go_wp2_with fail
  refine (hRd.out _).mono ?_
  rintro e w2 ⟨rfl, hb2⟩
  obtain ⟨p2, f2, z2⟩ := bcell hb2
  try simp at z2
  have q2_0 : w.heap.size < w2.heap.size := by omega
  have q2_1 : w.heap.size + 1 < w2.heap.size := by omega
  go_wp2_with fail
  refine (hAdd.out _).mono ?_
  rintro e w3 ⟨rfl, hb3⟩
  obtain ⟨p3, f3, z3⟩ := bcell hb3
  try simp at z3
  have q3_0 : w.heap.size < w3.heap.size := by omega
  have q3_1 : w.heap.size + 1 < w3.heap.size := by omega
  have q3_2 : w2.heap.size < w3.heap.size := by omega
  go_wp2_with fail
  refine (hSub.out _).mono ?_
  rintro e w4 ⟨rfl, hb4⟩
  obtain ⟨p4, f4, z4⟩ := bcell hb4
  try simp at z4
  have q4_0 : w.heap.size < w4.heap.size := by omega
  have q4_1 : w.heap.size + 1 < w4.heap.size := by omega
  have q4_2 : w2.heap.size < w4.heap.size := by omega
  have q4_3 : w3.heap.size < w4.heap.size := by omega
  go_wp2_with fail
  refine (hAdd2.out _).mono ?_
  rintro e w5 ⟨rfl, hb5⟩
  obtain ⟨p5, f5, z5⟩ := bcell hb5
  try simp at z5
  have q5_0 : w.heap.size < w5.heap.size := by omega
  have q5_1 : w.heap.size + 1 < w5.heap.size := by omega
  have q5_2 : w2.heap.size < w5.heap.size := by omega
  have q5_3 : w3.heap.size < w5.heap.size := by omega
  have q5_4 : w4.heap.size < w5.heap.size := by omega
  go_wp2_with fail
  refine (hAw.out _).mono ?_
  rintro e wz ⟨rfl, hbz⟩
  go_wp2
  go_ret
  exact ⟨rfl, by (repeat (first | exact Below.refl _ _ | apply Below.drew | refine bel_alloc ?_ _ | refine bel_set ?_ (by first | (simp; done) | (simp; omega)) _ | refine bel_call ?_ (by assumption)))⟩

theorem back_walk (n m : Nat) (hn : n < W) (hm : m < W) (w : World) : Calls Try.prog 6 #[U n, U m] w fun e w' => e = .returned (.bool true) ∧ Below w.heap.size w w' :=
  back_gen n m (addW n m) (strN n) (ovW n m) (by rw [strN_size]; rfl) (fun w => bytes_any n w) (fun w => read_back n hn w) (fun w => add_any n m hn hm w) (fun w => sub_back n m hn hm w) (fun w => add_comm n m hn hm w) (fun w => awake_any w) w

end Go.Proofs.Ytgmdckibfndbkaa
