/- Contracts of shifts and Bits of layer 1, told by numbers. -/
import Derived.Test.YthbindnkichimaaXtCa
import Derived.Test.YthbindnkichimaaXtMA
import Derived.Test.YthbindnkichimaaXtSh
import Derived.Test.YthbindnkichimaaXtBi
namespace Go.Proofs.Ythbindnkichimaa
open Go.RowKit
set_option linter.unusedVariables false

def shrW (n k : Nat) : Nat := n / 2 ^ k
theorem U_zero : U 0 = I4 0 0 0 0 := rfl
theorem shr_big_zero (n k : Nat) (hn : n < W) (h : 256 ≤ k) : n / 2 ^ k = 0 := by
  rw [W_pow] at hn
  exact Nat.div_eq_of_lt (Nat.lt_of_lt_of_le hn (Nat.pow_le_pow_right (by decide) h))
theorem pow_q (q r : Nat) : 2 ^ (64 * q + r) = 2 ^ r * M ^ q := by
  rw [Nat.add_comm, Nat.pow_add, Nat.pow_mul, M_pow]
theorem shr_q0 (n r : Nat) (hn : n < W) (hr : r < 64) (w : World) : Calls Try.prog 54 #[U n, B (64 * 0 + r)] w fun e w' => e = .returned (U (n / 2 ^ (64 * 0 + r))) ∧ Below w.heap.size w w' := by
  refine (shr_0_raw (l0 n) (l1 n) (l2 n) (l3 n) (64 * 0 + r) r (by omega) (by omega) (by omega) hr w).mono ?_
  rintro e w' ⟨rfl, hb⟩
  have b0 := (or_down (l0 n) (l1 n) r (l0_lt n) (l1_lt n) hr).2
  have b1 := (or_down (l1 n) (l2 n) r (l1_lt n) (l2_lt n) hr).2
  have b2 := (or_down (l2 n) (l3 n) r (l2_lt n) (l3_lt n) hr).2
  have b3 : l3 n / 2 ^ r < M := Nat.lt_of_le_of_lt (Nat.div_le_self _ _) (l3_lt n)
  have e : n / 2 ^ (64 * 0 + r) = mk (l0 n / 2 ^ r + 2 ^ (64 - r) * (l1 n % 2 ^ r)) (l1 n / 2 ^ r + 2 ^ (64 - r) * (l2 n % 2 ^ r)) (l2 n / 2 ^ r + 2 ^ (64 - r) * (l3 n % 2 ^ r)) (l3 n / 2 ^ r) := by
    rw [pow_q, ← Nat.div_div_eq_div_mul, Nat.pow_zero, Nat.div_one, shr_key n r hn hr]
  obtain ⟨e0, e1, e2, e3⟩ := of_mk _ _ _ _ _ e b0 b1 b2 b3
  exact ⟨by unfold U; rw [e0, e1, e2, e3, (or_down _ _ r (l0_lt n) (l1_lt n) hr).1, (or_down _ _ r (l1_lt n) (l2_lt n) hr).1, (or_down _ _ r (l2_lt n) (l3_lt n) hr).1, div_pow], hb⟩
theorem shr_q1 (n r : Nat) (hn : n < W) (hr : r < 64) (w : World) : Calls Try.prog 54 #[U n, B (64 * 1 + r)] w fun e w' => e = .returned (U (n / 2 ^ (64 * 1 + r))) ∧ Below w.heap.size w w' := by
  refine (shr_1_raw (l0 n) (l1 n) (l2 n) (l3 n) (64 * 1 + r) r (by omega) (by omega) (by omega) hr w).mono ?_
  rintro e w' ⟨rfl, hb⟩
  have b0 := (or_down (l0 n) (l1 n) r (l0_lt n) (l1_lt n) hr).2
  have b1 := (or_down (l1 n) (l2 n) r (l1_lt n) (l2_lt n) hr).2
  have b2 := (or_down (l2 n) (l3 n) r (l2_lt n) (l3_lt n) hr).2
  have b3 : l3 n / 2 ^ r < M := Nat.lt_of_le_of_lt (Nat.div_le_self _ _) (l3_lt n)
  have e : n / 2 ^ (64 * 1 + r) = mk (l1 n / 2 ^ r + 2 ^ (64 - r) * (l2 n % 2 ^ r)) (l2 n / 2 ^ r + 2 ^ (64 - r) * (l3 n % 2 ^ r)) (l3 n / 2 ^ r) 0 := by
    rw [pow_q, ← Nat.div_div_eq_div_mul, Nat.pow_one, shr_key n r hn hr, mk_down _ _ _ _ b0]
  obtain ⟨e0, e1, e2, e3⟩ := of_mk _ _ _ _ _ e b1 b2 b3 (by decide)
  exact ⟨by unfold U; rw [e0, e1, e2, e3, (or_down _ _ r (l1_lt n) (l2_lt n) hr).1, (or_down _ _ r (l2_lt n) (l3_lt n) hr).1, div_pow]; rfl, hb⟩
theorem shr_q2 (n r : Nat) (hn : n < W) (hr : r < 64) (w : World) : Calls Try.prog 54 #[U n, B (64 * 2 + r)] w fun e w' => e = .returned (U (n / 2 ^ (64 * 2 + r))) ∧ Below w.heap.size w w' := by
  refine (shr_2_raw (l0 n) (l1 n) (l2 n) (l3 n) (64 * 2 + r) r (by omega) (by omega) (by omega) hr w).mono ?_
  rintro e w' ⟨rfl, hb⟩
  have b0 := (or_down (l0 n) (l1 n) r (l0_lt n) (l1_lt n) hr).2
  have b1 := (or_down (l1 n) (l2 n) r (l1_lt n) (l2_lt n) hr).2
  have b2 := (or_down (l2 n) (l3 n) r (l2_lt n) (l3_lt n) hr).2
  have b3 : l3 n / 2 ^ r < M := Nat.lt_of_le_of_lt (Nat.div_le_self _ _) (l3_lt n)
  have e : n / 2 ^ (64 * 2 + r) = mk (l2 n / 2 ^ r + 2 ^ (64 - r) * (l3 n % 2 ^ r)) (l3 n / 2 ^ r) 0 0 := by
    rw [pow_q, ← Nat.div_div_eq_div_mul, show M ^ 2 = M * M from by decide, ← Nat.div_div_eq_div_mul, shr_key n r hn hr, mk_down _ _ _ _ b0, mk_down _ _ _ _ b1]
  obtain ⟨e0, e1, e2, e3⟩ := of_mk _ _ _ _ _ e b2 b3 (by decide) (by decide)
  exact ⟨by unfold U; rw [e0, e1, e2, e3, (or_down _ _ r (l2_lt n) (l3_lt n) hr).1, div_pow]; rfl, hb⟩
theorem shr_q3 (n r : Nat) (hn : n < W) (hr : r < 64) (w : World) : Calls Try.prog 54 #[U n, B (64 * 3 + r)] w fun e w' => e = .returned (U (n / 2 ^ (64 * 3 + r))) ∧ Below w.heap.size w w' := by
  refine (shr_3_raw (l0 n) (l1 n) (l2 n) (l3 n) (64 * 3 + r) r (by omega) (by omega) (by omega) hr w).mono ?_
  rintro e w' ⟨rfl, hb⟩
  have b0 := (or_down (l0 n) (l1 n) r (l0_lt n) (l1_lt n) hr).2
  have b1 := (or_down (l1 n) (l2 n) r (l1_lt n) (l2_lt n) hr).2
  have b2 := (or_down (l2 n) (l3 n) r (l2_lt n) (l3_lt n) hr).2
  have b3 : l3 n / 2 ^ r < M := Nat.lt_of_le_of_lt (Nat.div_le_self _ _) (l3_lt n)
  have e : n / 2 ^ (64 * 3 + r) = mk (l3 n / 2 ^ r) 0 0 0 := by
    rw [pow_q, ← Nat.div_div_eq_div_mul, show M ^ 3 = M * M * M from by decide +kernel, ← Nat.div_div_eq_div_mul, ← Nat.div_div_eq_div_mul, shr_key n r hn hr, mk_down _ _ _ _ b0, mk_down _ _ _ _ b1, mk_down _ _ _ _ b2]
  obtain ⟨e0, e1, e2, e3⟩ := of_mk _ _ _ _ _ e b3 (by decide) (by decide) (by decide)
  exact ⟨by unfold U; rw [e0, e1, e2, e3, div_pow]; rfl, hb⟩
theorem shr_any (n k : Nat) (hn : n < W) (w : World) : Calls Try.prog 54 #[U n, B k] w fun e w' => e = .returned (U (shrW n k)) ∧ Below w.heap.size w w' := by
  by_cases h : 256 ≤ k
  · refine (shr_big_raw (l0 n) (l1 n) (l2 n) (l3 n) k h w).mono ?_
    rintro e w' ⟨rfl, hb⟩
    exact ⟨by rw [shrW, shr_big_zero n k hn h, U_zero], hb⟩
  · have hr : k % 64 < 64 := Nat.mod_lt _ (by decide)
    have hk : k = 64 * (k / 64) + k % 64 := by omega
    have hq : k / 64 = 0 ∨ k / 64 = 1 ∨ k / 64 = 2 ∨ k / 64 = 3 := by omega
    generalize k % 64 = r at *
    rcases hq with hq | hq | hq | hq <;> rw [hq] at hk <;> subst hk
    · exact shr_q0 n r hn hr w
    · exact shr_q1 n r hn hr w
    · exact shr_q2 n r hn hr w
    · exact shr_q3 n r hn hr w
def bitsN (n : Nat) : Nat := bits4 (l0 n) (l1 n) (l2 n) (l3 n)
theorem bits_any (n : Nat) (w : World) : Calls Try.prog 68 #[U n] w fun e w' => e = .returned (.int .i64 (bitsN n : Nat)) ∧ Below w.heap.size w w' :=
  bits_raw (l0 n) (l1 n) (l2 n) (l3 n) (l0_lt n) (l1_lt n) (l2_lt n) (l3_lt n) w
theorem rbits_any (n : Nat) (w : World) : Calls Try.prog 47 #[U n] w fun e w' => e = .returned (.int .i64 (bitsN n : Nat)) ∧ Below w.heap.size w w' :=
  rbits_raw (l0 n) (l1 n) (l2 n) (l3 n) (l0_lt n) (l1_lt n) (l2_lt n) (l3_lt n) w
theorem bitsN_le (n j : Nat) (h : n < 2 ^ j) : bitsN n ≤ j := by
  have key : ∀ x i : Nat, x = n / 2 ^ (64 * i) % M → x ≠ 0 → 64 * i + Lib.bitLen x ≤ j := by
    intro x i hx h0
    have hle : x ≤ n / 2 ^ (64 * i) := by rw [hx]; exact Nat.mod_le _ _
    have hij : 64 * i ≤ j := by
      rcases Nat.lt_or_ge j (64 * i) with h' | h'
      · have : n / 2 ^ (64 * i) = 0 := Nat.div_eq_of_lt (Nat.lt_of_lt_of_le h (Nat.pow_le_pow_right (by decide) (by omega)))
        omega
      · exact h'
    have hlt : x < 2 ^ (j - 64 * i) := by
      refine Nat.lt_of_le_of_lt hle (Nat.div_lt_of_lt_mul ?_)
      rw [← Nat.pow_add, show 64 * i + (j - 64 * i) = j by omega]; exact h
    have := Lib.bitLenAux_le 64 x (j - 64 * i) hlt
    unfold Lib.bitLen; omega
  have k0 := key (l0 n) 0 (by unfold l0; simp)
  have k1 := key (l1 n) 1 (by unfold l1; rw [M_pow])
  have k2 := key (l2 n) 2 (by unfold l2; rw [MM_pow])
  have k3 := key (l3 n) 3 (by unfold l3; rw [MMM_pow])
  unfold bitsN bits4
  split
  · split
    · split
      · split
        · omega
        · rename_i h; have := k0 h; omega
      · rename_i h; have := k1 h; omega
    · rename_i h; have := k2 h; omega
  · rename_i h; have := k3 h; omega
end Go.Proofs.Ythbindnkichimaa
