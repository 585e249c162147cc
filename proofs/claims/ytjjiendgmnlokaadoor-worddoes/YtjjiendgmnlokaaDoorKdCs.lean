/- Contracts of shifts and Bits of layer 1, told by numbers. -/
import Derived.Test.YtjjiendgmnlokaaDoorKdCa
import Derived.Test.YtjjiendgmnlokaaDoorKdNx
import Derived.Test.YtjjiendgmnlokaaDoorKdSh
namespace Go.Proofs.YtjjiendgmnlokaaDoor
open Go.RowKit
set_option linter.unusedVariables false

def shlW (n k : Nat) : Nat := n * 2 ^ k % W
def shrW (n k : Nat) : Nat := n / 2 ^ k
theorem shlW_lt (n k : Nat) : shlW n k < W := Nat.mod_lt _ W_pos
theorem shrW_lt (n k : Nat) (h : n < W) : shrW n k < W := Nat.lt_of_le_of_lt (Nat.div_le_self _ _) h
theorem U_zero : U 0 = I4 0 0 0 0 := rfl
theorem shl_big_zero (n k : Nat) (h : 256 ≤ k) : n * 2 ^ k % W = 0 := by
  rw [W_pow, show k = 256 + (k - 256) by omega, Nat.pow_add, Nat.mul_left_comm, Nat.mul_mod_right]
theorem shr_big_zero (n k : Nat) (hn : n < W) (h : 256 ≤ k) : n / 2 ^ k = 0 := by
  rw [W_pow] at hn
  exact Nat.div_eq_of_lt (Nat.lt_of_lt_of_le hn (Nat.pow_le_pow_right (by decide) h))
theorem pow_q (q r : Nat) : 2 ^ (64 * q + r) = 2 ^ r * M ^ q := by
  rw [Nat.add_comm, Nat.pow_add, Nat.pow_mul, M_pow]

end Go.Proofs.YtjjiendgmnlokaaDoor
