/- Contracts of shifts and Bits of layer 1, told by numbers. -/
import Derived.Test.YtpdoonofipcbeaaDoorXsCa
import Derived.Test.YtpdoonofipcbeaaDoorXsMA
import Derived.Test.YtpdoonofipcbeaaDoorXsWt
import Derived.Test.YtpdoonofipcbeaaDoorXsBi
namespace Go.Proofs.YtpdoonofipcbeaaDoor
open Go.RowKit
set_option linter.unusedVariables false

theorem pow_q (q r : Nat) : 2 ^ (64 * q + r) = 2 ^ r * M ^ q := by
  rw [Nat.add_comm, Nat.pow_add, Nat.pow_mul, M_pow]
def bitsN (n : Nat) : Nat := bits4 (l0 n) (l1 n) (l2 n) (l3 n)
theorem bits_any (n : Nat) (w : World) : Calls Tryd.prog 70 #[U n] w fun e w' => e = .returned (.int .i64 (bitsN n : Nat)) ∧ Below w.heap.size w w' :=
  bits_raw (l0 n) (l1 n) (l2 n) (l3 n) (l0_lt n) (l1_lt n) (l2_lt n) (l3_lt n) w
theorem rbits_any (n : Nat) (w : World) : Calls Tryd.prog 50 #[U n] w fun e w' => e = .returned (.int .i64 (bitsN n : Nat)) ∧ Below w.heap.size w w' :=
  rbits_raw (l0 n) (l1 n) (l2 n) (l3 n) (l0_lt n) (l1_lt n) (l2_lt n) (l3_lt n) w
theorem bitsN_le (n j : Nat) (h : n < 2 ^ j) : bitsN n ≤ j := by
  have key : ∀ x i : Nat, x = n / 2 ^ (64 * i) % M → x ≠ 0 → 64 * i + Lib.bitLen x ≤ j := by
    intro x i hx h0
    have hle : x ≤ n / 2 ^ (64 * i) := by rw [hx]; exact Nat.mod_le _ _
    have hij : 64 * i ≤ j := by
      rcases Nat.lt_or_ge j (64 * i) with h' | h'
      · have : n / 2 ^ (64 * i) = 0 := Nat.div_eq_of_lt (Nat.lt_of_lt_of_le h (Nat.pow_le_pow_right (by decide) (by omega)))
        omega
      · exact h'
    have hlt : x < 2 ^ (j - 64 * i) := by
      refine Nat.lt_of_le_of_lt hle (Nat.div_lt_of_lt_mul ?_)
      rw [← Nat.pow_add, show 64 * i + (j - 64 * i) = j by omega]; exact h
    have := Lib.bitLenAux_le 64 x (j - 64 * i) hlt
    unfold Lib.bitLen; omega
  have k0 := key (l0 n) 0 (by unfold l0; simp)
  have k1 := key (l1 n) 1 (by unfold l1; rw [M_pow])
  have k2 := key (l2 n) 2 (by unfold l2; rw [MM_pow])
  have k3 := key (l3 n) 3 (by unfold l3; rw [MMM_pow])
  unfold bitsN bits4
  split
  · split
    · split
      · split
        · omega
        · rename_i h; have := k0 h; omega
      · rename_i h; have := k1 h; omega
    · rename_i h; have := k2 h; omega
  · rename_i h; have := k3 h; omega
end Go.Proofs.YtpdoonofipcbeaaDoor
