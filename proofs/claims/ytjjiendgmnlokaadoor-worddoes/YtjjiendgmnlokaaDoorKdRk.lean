/- A number's bytes are read as it. -/
import Derived.Test.YtjjiendgmnlokaaDoorKdRe
import Derived.Test.YtjjiendgmnlokaaDoorKdBb
namespace Go.Proofs.YtjjiendgmnlokaaDoor
open Go.RowKit
set_option linter.unusedVariables false
theorem bt_strN (n k : Nat) (hk : k < 32) : btN (strN n) k = n / 2 ^ (8 * k) % 256 := by
  unfold btN
  rw [strN_size]
  have hd : (strN n).data = ((List.range 32).map fun j => UInt8.ofNat (byteFn n j)).toArray := by
    unfold strN strOfNums; simp
  rw [hd, Array.getD_eq_getD_getElem?, List.getElem?_toArray, List.getElem?_map, List.getElem?_range (by omega)]
  have h31 : 31 - (32 - 1 - k) = k := by omega
  have hlt : n / 2 ^ (8 * k) % 256 < 256 := Nat.mod_lt _ (by decide)
  simp only [Option.map_some, Option.getD_some, byteFn, h31]
  simp
theorem rd_strN (n : Nat) : ∀ k, k ≤ 32 → rdN (strN n) k = n % 2 ^ (8 * k)
  | 0, _ => by simp [rdN, Nat.mod_one]
  | k + 1, h => by
    rw [rdN, rd_strN n k (by omega), bt_strN n k (by omega), show 8 * (k + 1) = 8 * k + 8 by omega, Nat.pow_add, Nat.mod_mul, Nat.mul_comm (2 ^ (8 * k))]
theorem rd_back (n : Nat) (h : n < W) : rdN (strN n) (strN n).size = n := by
  rw [strN_size, rd_strN n 32 (Nat.le_refl _)]
  rw [W_pow] at h
  exact Nat.mod_eq_of_lt h

end Go.Proofs.YtjjiendgmnlokaaDoor
