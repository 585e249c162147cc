/- The law NumShifts out of its walk: the facts on numbers that it wants. -/
import Derived.Test.YtgmdckibfndbkaaSt
namespace Go.Proofs.Ytgmdckibfndbkaa
open Go.RowKit
set_option linter.unusedVariables false

theorem rest_eq (n j : Nat) (hj : j ≤ 256) : shrW (shlW n j) j = n % 2 ^ (256 - j) := by
  unfold shrW shlW
  rw [W_pow, show (256 : Nat) = j + (256 - j) by omega, Nat.pow_add, Nat.mod_mul_right_div_self, Nat.mul_div_cancel _ (Nat.two_pow_pos j), show j + (256 - j) - j = 256 - j by omega]
theorem shl_rest (n j : Nat) (hj : j ≤ 256) : shlW (n % 2 ^ (256 - j)) j = shlW n j := by
  unfold shlW
  have e : W = 2 ^ (256 - j) * 2 ^ j := by rw [W_pow, ← Nat.pow_add, show 256 - j + j = 256 by omega]
  rw [e, Nat.mul_mod_mul_right, Nat.mul_mod_mul_right, Nat.mod_mod]
theorem notW_zero : U (notW 0) = U (W - 1) := rfl
theorem not_zero (w : World) : Calls Try.prog 24 #[I4 0 0 0 0] w fun e w' => e = .returned (U (notW 0)) ∧ Below w.heap.size w w' := by
  have h := not_any 0 W_pos w; rw [U_zero] at h; exact h
theorem shl_again (n j : Nat) (hn : n < W) (hj : j ≤ 256) (w : World) : Calls Try.prog 26 #[U (shrW (shlW n j) j), B j] w fun e w' => e = .returned (U (shlW n j)) ∧ Below w.heap.size w w' := by
  have h := shl_any (shrW (shlW n j) j) j (shrW_lt _ _ (shlW_lt _ _)) w
  rw [show shlW (shrW (shlW n j) j) j = shlW n j by rw [rest_eq n j hj, shl_rest n j hj]] at h; exact h
theorem xor_self (n : Nat) (w : World) : Calls Try.prog 22 #[U n, U n] w fun e w' => e = .returned (I4 0 0 0 0) ∧ Below w.heap.size w w' := by
  have h := xor_any n n w; rw [Nat.xor_self, U_zero] at h; exact h
theorem and_rest (n j : Nat) (hj : j ≤ 256) (w : World) : Calls Try.prog 18 #[U (shrW (shlW n j) j), U n] w fun e w' => e = .returned (U (shrW (shlW n j) j)) ∧ Below w.heap.size w w' := by
  have h := and_any (shrW (shlW n j) j) n w
  rw [show shrW (shlW n j) j &&& n = shrW (shlW n j) j by
    rw [rest_eq n j hj, ← Nat.and_two_pow_sub_one_eq_mod, Nat.and_comm n, Nat.and_assoc, Nat.and_self]] at h
  exact h
theorem cmpN_turn (n m : Nat) : cmpN m n = - cmpN n m := by
  unfold cmpN
  by_cases h : n < m
  · rw [if_pos h, if_neg (by omega), if_pos h]; rfl
  · by_cases h2 : m < n
    · rw [if_pos h2, if_neg h, if_pos h2]
    · rw [if_neg h2, if_neg h, if_neg h, if_neg h2]; rfl
theorem cmp_turn (n m : Nat) (hn : n < W) (hm : m < W) (w : World) : Calls Try.prog 13 #[U m, U n] w fun e w' => e = .returned (.int .i64 (-cmpN n m)) ∧ Below w.heap.size w w' := by
  have h := cmp_any m n hm hn w; rw [cmpN_turn] at h; exact h
theorem cmpN_bounds (n m : Nat) : -1 ≤ cmpN n m ∧ cmpN n m ≤ 1 := by
  unfold cmpN; split
  · omega
  · split <;> omega
theorem cmpN_zero (n m : Nat) : (cmpN n m == 0) = decide (n = m) := by
  rw [Bool.eq_iff_iff, beq_iff_eq, decide_eq_true_eq]
  unfold cmpN; split
  · omega
  · split <;> omega
theorem notW_bit (n i : Nat) (hn : n < W) : (notW n).testBit i = (decide (i < 256) && !n.testBit i) := by
  unfold notW
  rw [W_pow] at *
  rw [show 2 ^ 256 - 1 - n = 2 ^ 256 - (n + 1) by omega, Nat.testBit_two_pow_sub_succ hn]
theorem bit_high (n i : Nat) (hn : n < W) (h : ¬ i < 256) : n.testBit i = false := by
  rw [W_pow] at hn
  exact Nat.testBit_lt_two_pow (Nat.lt_of_lt_of_le hn (Nat.pow_le_pow_right (by decide) (by omega)))
theorem or_not (n : Nat) (hn : n < W) (w : World) : Calls Try.prog 20 #[U n, U (notW n)] w fun e w' => e = .returned (U (notW 0)) ∧ Below w.heap.size w w' := by
  have h := or_any n (notW n) w
  rw [show n ||| notW n = notW 0 by
    refine Nat.eq_of_testBit_eq fun i => ?_
    rw [Nat.testBit_or, notW_bit n i hn, notW_bit 0 i W_pos]
    by_cases hi : i < 256
    · cases n.testBit i <;> simp [hi]
    · rw [bit_high n i hn hi]; simp [hi]] at h
  exact h
theorem and_not (n : Nat) (hn : n < W) (w : World) : Calls Try.prog 18 #[U n, U (notW n)] w fun e w' => e = .returned (I4 0 0 0 0) ∧ Below w.heap.size w w' := by
  have h := and_any n (notW n) w
  rw [show n &&& notW n = 0 by
    refine Nat.eq_of_testBit_eq fun i => ?_
    rw [Nat.testBit_and, notW_bit n i hn]
    cases n.testBit i <;> simp, U_zero] at h
  exact h
theorem xor_back (n m : Nat) (w : World) : Calls Try.prog 22 #[U (n ^^^ m), U m] w fun e w' => e = .returned (U n) ∧ Below w.heap.size w w' := by
  have h := xor_any (n ^^^ m) m w
  rw [Nat.xor_assoc, Nat.xor_self, Nat.xor_zero] at h; exact h
theorem shifts_walk (n m k : Nat) (hn : n < W) (hm : m < W) (w : World) : Calls Try.prog 7 #[U n, U m, B k] w fun e w' => e = .returned (.bool true) ∧ Below w.heap.size w w' := by
  have hj : k % 257 ≤ 256 := by omega
  have hb : bitsN (shrW (shlW n (k % 257)) (k % 257)) ≤ 256 - k % 257 := by
    rw [rest_eq _ _ hj]; exact bitsN_le _ _ (Nat.mod_lt _ (Nat.two_pow_pos _))
  exact shifts_gen n m k (k % 257) (shlW n (k % 257)) (shrW (shlW n (k % 257)) (k % 257)) (notW 0) (notW n) (n ^^^ m) (bitsN (shrW (shlW n (k % 257)) (k % 257))) (cmpN n m) (decide (n = m))
    (by omega) hj (by rw [decide_eq_false_iff_not]; omega) (cmpN_bounds n m).1 (cmpN_bounds n m).2 (cmpN_zero n m) (fun w => run_eqU n m hn hm w)
    (fun w => shl_any n (k % 257) hn w) (fun w => shr_any _ (k % 257) (shlW_lt _ _) w) (fun w => not_zero w) (fun w => bits_any _ w) (fun w => shl_again n (k % 257) hn (by omega) w) (fun w => xor_self _ w) (fun w => and_rest n (k % 257) (by omega) w) (fun w => cmp_any n m hn hm w) (fun w => cmp_turn n m hn hm w) (fun w => not_any n hn w) (fun w => or_not n hn w) (fun w => and_not n hn w) (fun w => xor_any n m w) (fun w => xor_back n m w) (fun w => awake_any w) w

end Go.Proofs.Ytgmdckibfndbkaa
