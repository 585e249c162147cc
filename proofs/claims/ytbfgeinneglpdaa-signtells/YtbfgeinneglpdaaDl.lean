/- Digits of shifted numbers; the digit that is guessed by three digits and two. No program is named here. -/
import Derived.Test.YtbfgeinneglpdaaDg
namespace Go.Proofs.Ytbfgeinneglpdaa

theorem D_split (s : Nat) (hs : s ≤ 32) : D = 2 ^ s * 2 ^ (32 - s) := by
  rw [← Nat.pow_add, show s + (32 - s) = 32 by omega]; decide
theorem dg_zero (x : Nat) : dg x 0 = x % D := by unfold dg; rw [Nat.pow_zero, Nat.div_one]
theorem dg_shl0 (x s : Nat) : dg (x * 2 ^ s) 0 = dg x 0 * 2 ^ s % D := by
  rw [dg_zero, dg_zero, Nat.mod_mul_mod]
theorem div_low (d c s t : Nat) (hc : c < 2 ^ s) : (d * 2 ^ s + c) / (2 ^ s * t) = d * 2 ^ s / (2 ^ s * t) := by
  have hp : 0 < 2 ^ s := Nat.two_pow_pos s
  rw [← Nat.div_div_eq_div_mul, ← Nat.div_div_eq_div_mul, Nat.mul_comm d, Nat.mul_add_div hp, Nat.div_eq_of_lt hc, Nat.mul_div_cancel_left _ hp, Nat.add_zero]
theorem dg_shl (x s i : Nat) (hs : s ≤ 32) : dg (x * 2 ^ s) (i + 1) = (dg x (i + 1) * 2 ^ s + dg x i * 2 ^ s / D) % D := by
  have hD := D_split s hs
  have hi := Dp i
  have e1 : x * 2 ^ s / D ^ (i + 1) = x / D ^ (i + 1) * 2 ^ s + dg x i * 2 ^ s / D := by
    have hx := Nat.div_add_mod x (D ^ i)
    have hr : x % D ^ i < D ^ i := Nat.mod_lt _ hi
    have hz : x / D ^ (i + 1) = x / D ^ i / D := by rw [Nat.pow_succ, Nat.div_div_eq_div_mul]
    have hy := Nat.div_add_mod (x / D ^ i) D
    rw [hz]
    unfold dg
    have e2 : x * 2 ^ s / D ^ (i + 1) = x * 2 ^ s / D ^ i / D := by rw [Nat.pow_succ, Nat.div_div_eq_div_mul]
    rw [e2]
    have e3 : x * 2 ^ s / D ^ i = x / D ^ i * 2 ^ s + x % D ^ i * 2 ^ s / D ^ i := by
      conv => lhs; rw [← hx, Nat.add_mul, Nat.mul_assoc, Nat.mul_add_div hi]
    have hc : x % D ^ i * 2 ^ s / D ^ i < 2 ^ s := by
      rw [Nat.div_lt_iff_lt_mul hi, Nat.mul_comm]
      exact Nat.mul_lt_mul_of_pos_left hr (Nat.two_pow_pos s)
    rw [e3]
    generalize x % D ^ i * 2 ^ s / D ^ i = c at *
    generalize x / D ^ i = y at *
    have e4 : y * 2 ^ s = D * (y / D * 2 ^ s) + y % D * 2 ^ s := by
      conv => lhs; rw [← hy, Nat.add_mul, Nat.mul_assoc]
    rw [e4, Nat.add_assoc, Nat.mul_add_div D_pos]
    congr 1
    rw [hD]
    exact div_low _ _ _ _ hc
  unfold dg at *
  rw [e1, Nat.add_mod, ← Nat.mod_mul_mod, ← Nat.add_mod]
theorem dg_shr (x s i : Nat) (hs : s ≤ 32) : dg (x / 2 ^ s) i = (dg x i / 2 ^ s + dg x (i + 1) * D / 2 ^ s) % D := by
  have hD := D_split s hs
  have hp : 0 < 2 ^ s := Nat.two_pow_pos s
  have e1 : x / 2 ^ s / D ^ i = x / D ^ i / 2 ^ s := by rw [Nat.div_div_eq_div_mul, Nat.mul_comm, ← Nat.div_div_eq_div_mul]
  have hz : x / D ^ (i + 1) = x / D ^ i / D := by rw [Nat.pow_succ, Nat.div_div_eq_div_mul]
  unfold dg
  rw [e1, hz]
  generalize x / D ^ i = y
  have hy := Nat.div_add_mod y D
  have hz2 := Nat.div_add_mod (y / D) D
  have e2 : y / 2 ^ s = y / D * 2 ^ (32 - s) + y % D / 2 ^ s := by
    conv => lhs; rw [← hy]
    conv => lhs; rw [hD]
    rw [Nat.mul_assoc, Nat.mul_add_div hp, Nat.mul_comm (2 ^ (32 - s))]
    rw [← hD]
  have e3 : y / D % D * D / 2 ^ s = y / D % D * 2 ^ (32 - s) := by
    generalize y / D % D = e
    conv => lhs; rw [hD]
    rw [Nat.mul_left_comm, Nat.mul_div_cancel_left _ hp]
  rw [e2, e3, Nat.add_comm, Nat.add_mod, ← Nat.mod_mul_mod (y / D), ← Nat.add_mod]

/-- The guess by two digits goes down while it is surely too great. -/
theorem guess_dec {f g : Nat → Nat} {k n q r : Nat} (hf : ∀ i, i < n + 3 → f (k + i) < D) (he : q * g (n + 1) + r = f (k + (n + 2)) * D + f (k + (n + 1)))
    (ht : q * g n > r * D + f (k + n)) : vl f k (n + 3) / vl g 0 (n + 2) < q := by
  rcases Nat.lt_or_ge (vl f k (n + 3) / vl g 0 (n + 2)) q with h | h
  · exact h
  · exfalso
    have h1 : q * vl g 0 (n + 2) ≤ vl f k (n + 3) := Nat.le_trans (Nat.mul_le_mul_right _ h) (Nat.div_mul_le_self _ _)
    have hlow := vl_lt (f := f) (k := k) (n := n) (fun i hi => hf i (by omega))
    have e1 : vl g 0 (n + 2) = vl g 0 n + (g (n + 1) * D + g n) * D ^ n := by
      rw [vl, vl, Nat.zero_add, Nat.zero_add, Nat.pow_succ, Nat.add_mul, Nat.mul_assoc, Nat.mul_comm D]
      omega
    have e2 : vl f k (n + 3) = vl f k n + ((f (k + (n + 2)) * D + f (k + (n + 1))) * D + f (k + n)) * D ^ n := by
      rw [vl, vl, vl, show D ^ (n + 2) = D ^ n * D * D by rw [Nat.pow_succ, Nat.pow_succ], show D ^ (n + 1) = D ^ n * D by rw [Nat.pow_succ]]
      generalize D ^ n = P
      have a1 : ((f (k + (n + 2)) * D + f (k + (n + 1))) * D + f (k + n)) * P = f (k + (n + 2)) * (P * D * D) + f (k + (n + 1)) * (P * D) + f (k + n) * P := by
        rw [Nat.add_mul, Nat.add_mul, Nat.add_mul]
        have b1 : f (k + (n + 2)) * D * D * P = f (k + (n + 2)) * (P * D * D) := by ac_rfl
        have b2 : f (k + (n + 1)) * D * P = f (k + (n + 1)) * (P * D) := by ac_rfl
        rw [b1, b2]
      rw [a1]; omega
    rw [e1, e2, ← he, Nat.mul_add, ← Nat.mul_assoc] at h1
    have h2 : q * (g (n + 1) * D + g n) * D ^ n < ((q * g (n + 1) + r) * D + f (k + n) + 1) * D ^ n := by
      rw [Nat.add_mul _ 1, Nat.one_mul]
      omega
    have h3 := Nat.lt_of_mul_lt_mul_right h2
    rw [Nat.mul_add, Nat.add_mul, ← Nat.mul_assoc] at h3
    omega
/-- Where it is no longer surely too great, it is at most one too great. -/
theorem guess_end {f g : Nat → Nat} {k n q r : Nat} (hg : ∀ i, i < n + 2 → g i < D) (h1 : 0 < g (n + 1)) (he : q * g (n + 1) + r = f (k + (n + 2)) * D + f (k + (n + 1)))
    (hq : q < D) (ht : q * g n ≤ r * D + f (k + n)) : q * vl g 0 (n + 2) < vl f k (n + 3) + vl g 0 (n + 2) := by
  have hlow := vl_lt (f := g) (k := 0) (n := n) (fun i hi => by rw [Nat.zero_add]; exact hg i (by omega))
  have e1 : vl g 0 (n + 2) = vl g 0 n + (g (n + 1) * D + g n) * D ^ n := by
    rw [vl, vl, Nat.zero_add, Nat.zero_add, Nat.pow_succ, Nat.add_mul, Nat.mul_assoc, Nat.mul_comm D]
    omega
  have e2 : vl f k (n + 3) = vl f k n + ((f (k + (n + 2)) * D + f (k + (n + 1))) * D + f (k + n)) * D ^ n := by
    rw [vl, vl, vl, show D ^ (n + 2) = D ^ n * D * D by rw [Nat.pow_succ, Nat.pow_succ], show D ^ (n + 1) = D ^ n * D by rw [Nat.pow_succ]]
    generalize D ^ n = P
    have a1 : ((f (k + (n + 2)) * D + f (k + (n + 1))) * D + f (k + n)) * P = f (k + (n + 2)) * (P * D * D) + f (k + (n + 1)) * (P * D) + f (k + n) * P := by
      rw [Nat.add_mul, Nat.add_mul, Nat.add_mul]
      have b1 : f (k + (n + 2)) * D * D * P = f (k + (n + 2)) * (P * D * D) := by ac_rfl
      have b2 : f (k + (n + 1)) * D * P = f (k + (n + 1)) * (P * D) := by ac_rfl
      rw [b1, b2]
    rw [a1]; omega
  have h3 : q * (g (n + 1) * D + g n) ≤ (f (k + (n + 2)) * D + f (k + (n + 1))) * D + f (k + n) := by
    rw [← he, Nat.mul_add, Nat.add_mul, ← Nat.mul_assoc]
    omega
  have h4 := Nat.mul_le_mul_right (D ^ n) h3
  have h5 : q * vl g 0 n ≤ D * D ^ n := Nat.mul_le_mul (by omega) (by omega)
  have h6 : D * D ^ n ≤ (g (n + 1) * D + g n) * D ^ n := Nat.mul_le_mul_right _ (by
    have := Nat.le_mul_of_pos_left D h1
    omega)
  have h7 : q * vl g 0 (n + 2) = q * vl g 0 n + q * (g (n + 1) * D + g n) * D ^ n := by rw [e1, Nat.mul_add, Nat.mul_assoc]
  have h8 : q * vl g 0 n < D * D ^ n := by
    have hp := Dp n
    have : q * vl g 0 n ≤ q * D ^ n := Nat.mul_le_mul_left _ (by omega)
    have : q * D ^ n < D * D ^ n := Nat.mul_lt_mul_of_pos_right hq hp
    omega
  rw [h7, e2]
  omega
end Go.Proofs.Ytbfgeinneglpdaa
