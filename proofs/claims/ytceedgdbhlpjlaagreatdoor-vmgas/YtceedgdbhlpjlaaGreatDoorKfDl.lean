/- Out of Dl. -/
import Derived.Test.YtceedgdbhlpjlaaGreatDoorKfNum
namespace Go.Proofs.YtceedgdbhlpjlaaGreatDoor

/-- Where it is no longer surely too great, it is at most one too great. -/
theorem guess_end {f g : Nat → Nat} {k n q r : Nat} (hg : ∀ i, i < n + 2 → g i < D) (h1 : 0 < g (n + 1)) (he : q * g (n + 1) + r = f (k + (n + 2)) * D + f (k + (n + 1)))
    (hq : q < D) (ht : q * g n ≤ r * D + f (k + n)) : q * vl g 0 (n + 2) < vl f k (n + 3) + vl g 0 (n + 2) := by
  have hlow := vl_lt (f := g) (k := 0) (n := n) (fun i hi => by rw [Nat.zero_add]; exact hg i (by omega))
  have e1 : vl g 0 (n + 2) = vl g 0 n + (g (n + 1) * D + g n) * D ^ n := by
    rw [vl, vl, Nat.zero_add, Nat.zero_add, Nat.pow_succ, Nat.add_mul, Nat.mul_assoc, Nat.mul_comm D]
    omega
  have e2 : vl f k (n + 3) = vl f k n + ((f (k + (n + 2)) * D + f (k + (n + 1))) * D + f (k + n)) * D ^ n := by
    rw [vl, vl, vl, show D ^ (n + 2) = D ^ n * D * D by rw [Nat.pow_succ, Nat.pow_succ], show D ^ (n + 1) = D ^ n * D by rw [Nat.pow_succ]]
    generalize D ^ n = P
    have a1 : ((f (k + (n + 2)) * D + f (k + (n + 1))) * D + f (k + n)) * P = f (k + (n + 2)) * (P * D * D) + f (k + (n + 1)) * (P * D) + f (k + n) * P := by
      rw [Nat.add_mul, Nat.add_mul, Nat.add_mul]
      have b1 : f (k + (n + 2)) * D * D * P = f (k + (n + 2)) * (P * D * D) := by ac_rfl
      have b2 : f (k + (n + 1)) * D * P = f (k + (n + 1)) * (P * D) := by ac_rfl
      rw [b1, b2]
    rw [a1]; omega
  have h3 : q * (g (n + 1) * D + g n) ≤ (f (k + (n + 2)) * D + f (k + (n + 1))) * D + f (k + n) := by
    rw [← he, Nat.mul_add, Nat.add_mul, ← Nat.mul_assoc]
    omega
  have h4 := Nat.mul_le_mul_right (D ^ n) h3
  have h5 : q * vl g 0 n ≤ D * D ^ n := Nat.mul_le_mul (by omega) (by omega)
  have h6 : D * D ^ n ≤ (g (n + 1) * D + g n) * D ^ n := Nat.mul_le_mul_right _ (by
    have := Nat.le_mul_of_pos_left D h1
    omega)
  have h7 : q * vl g 0 (n + 2) = q * vl g 0 n + q * (g (n + 1) * D + g n) * D ^ n := by rw [e1, Nat.mul_add, Nat.mul_assoc]
  have h8 : q * vl g 0 n < D * D ^ n := by
    have hp := Dp n
    have : q * vl g 0 n ≤ q * D ^ n := Nat.mul_le_mul_left _ (by omega)
    have : q * D ^ n < D * D ^ n := Nat.mul_lt_mul_of_pos_right hq hp
    omega
  rw [h7, e2]
  omega
end Go.Proofs.YtceedgdbhlpjlaaGreatDoor
