/- Plain facts on numbers by digits of 32 bits, the lowest first: values of digits, one digit of a product taken off, put back, and the digit that is guessed. No program is named here. -/
import Derived.Test.YtdlanihbpbfbcaaDoorNum
namespace Go.Proofs.YtdlanihbpbfbcaaDoor

def D : Nat := 4294967296
theorem D_eq : D = 4294967296 := rfl
theorem D_pos : 0 < D := by decide
theorem DD : D * D = M := by decide
theorem W_D : W = D ^ 8 := by decide +kernel
theorem Dp (n : Nat) : 0 < D ^ n := Nat.pow_pos D_pos
theorem D_two (n : Nat) : D ^ n = 2 ^ (32 * n) := by rw [show D = 2 ^ 32 from rfl, ← Nat.pow_mul]

/-- The number of n digits, from place k on. -/
def vl (f : Nat → Nat) (k : Nat) : Nat → Nat
  | 0 => 0
  | n + 1 => vl f k n + f (k + n) * D ^ n

theorem vl_congr {f g : Nat → Nat} {k : Nat} : ∀ {n : Nat}, (∀ i, i < n → f (k + i) = g (k + i)) → vl f k n = vl g k n
  | 0, _ => rfl
  | n + 1, h => by
    rw [vl, vl, vl_congr (n := n) (fun i hi => h i (by omega)), h n (by omega)]
theorem vl_lt {f : Nat → Nat} {k : Nat} : ∀ {n : Nat}, (∀ i, i < n → f (k + i) < D) → vl f k n < D ^ n
  | 0, _ => by simp [vl]
  | n + 1, h => by
    have h1 := vl_lt (n := n) (fun i hi => h i (by omega))
    have h2 := h n (by omega)
    rw [vl, Nat.pow_succ]
    have h3 : f (k + n) * D ^ n ≤ (D - 1) * D ^ n := Nat.mul_le_mul_right _ (by omega)
    have h4 : (D - 1) * D ^ n + D ^ n = D ^ n * D := by rw [Nat.mul_comm (D ^ n) D, ← Nat.succ_mul]; rfl
    omega
theorem vl_add (f : Nat → Nat) (k a : Nat) : ∀ b, vl f k (a + b) = vl f k a + D ^ a * vl f (k + a) b
  | 0 => by simp [vl]
  | b + 1 => by
    rw [← Nat.add_assoc, vl, vl_add f k a b, vl, Nat.pow_add, Nat.mul_add, Nat.add_assoc, Nat.add_assoc]
    congr 2
    rw [Nat.mul_left_comm]
theorem vl_one (f : Nat → Nat) (k : Nat) : vl f k 1 = f k := by simp [vl]
theorem vl_low (f : Nat → Nat) (k n : Nat) : vl f k (n + 1) = f k + D * vl f (k + 1) n := by
  rw [Nat.add_comm n 1, vl_add f k 1 n, vl_one, Nat.pow_one]
theorem vl_zero {f : Nat → Nat} {k : Nat} : ∀ {n : Nat}, vl f k n = 0 → ∀ i, i < n → f (k + i) = 0
  | 0, _, i, hi => by omega
  | n + 1, h, i, hi => by
    rw [vl] at h
    have hp := Dp n
    have h1 : vl f k n = 0 := by omega
    have h2 : f (k + n) * D ^ n = 0 := by omega
    rcases Nat.lt_or_ge i n with hl | hl
    · exact vl_zero h1 i hl
    · have : i = n := by omega
      subst this
      rcases Nat.mul_eq_zero.1 h2 with h3 | h3
      · exact h3
      · omega
theorem vl_of_zero {f : Nat → Nat} {k : Nat} : ∀ {n : Nat}, (∀ i, i < n → f (k + i) = 0) → vl f k n = 0
  | 0, _ => rfl
  | n + 1, h => by rw [vl, vl_of_zero (n := n) (fun i hi => h i (by omega)), h n (by omega)]; simp

/-- One place turned. -/
def upd (f : Nat → Nat) (k x : Nat) : Nat → Nat := fun i => if i = k then x else f i
theorem upd_same (f : Nat → Nat) (k x : Nat) : upd f k x k = x := by simp [upd]
theorem upd_other (f : Nat → Nat) (k x : Nat) {i : Nat} (h : i ≠ k) : upd f k x i = f i := by simp [upd, h]
theorem upd_lt {f : Nat → Nat} {k x n : Nat} (h : ∀ i, i < n → f i < D) (hx : x < D) : ∀ i, i < n → upd f k x i < D := by
  intro i hi
  unfold upd
  split
  · exact hx
  · exact h i hi
theorem vl_upd_below (f : Nat → Nat) (k x : Nat) {j n : Nat} (h : j + n ≤ k) : vl (upd f k x) j n = vl f j n :=
  vl_congr fun i hi => upd_other f k x (by omega)
theorem vl_upd_above (f : Nat → Nat) (k x : Nat) {j n : Nat} (h : k < j) : vl (upd f k x) j n = vl f j n :=
  vl_congr fun i hi => upd_other f k x (by omega)
theorem vl_upd_top (f : Nat → Nat) (k i x : Nat) : vl (upd f (k + i) x) k (i + 1) = vl f k i + x * D ^ i := by
  rw [vl, vl_upd_below f (k + i) x (Nat.le_refl _), upd_same]

/-- A number's digits. -/
def dg (n i : Nat) : Nat := n / D ^ i % D
theorem dg_lt (n i : Nat) : dg n i < D := Nat.mod_lt _ D_pos
theorem vl_dg (x k : Nat) : ∀ n, vl (dg x) k n = x / D ^ k % D ^ n
  | 0 => by simp [vl, Nat.mod_one]
  | n + 1 => by
    rw [vl, vl_dg x k n, Nat.pow_succ, Nat.mod_mul, dg, Nat.pow_add, Nat.div_div_eq_div_mul, Nat.mul_comm (D ^ n)]
theorem vl_dg0 (x n : Nat) : vl (dg x) 0 n = x % D ^ n := by rw [vl_dg, Nat.pow_zero, Nat.div_one]
theorem vl_dg_lt {x n : Nat} (h : x < D ^ n) : vl (dg x) 0 n = x := by rw [vl_dg0, Nat.mod_eq_of_lt h]
theorem vl_div {f : Nat → Nat} {k a b : Nat} (h : ∀ i, i < a → f (k + i) < D) : vl f k (a + b) / D ^ a = vl f (k + a) b := by
  rw [vl_add, Nat.add_mul_div_left _ _ (Dp a), Nat.div_eq_of_lt (vl_lt h), Nat.zero_add]
theorem vl_mod {f : Nat → Nat} {k a b : Nat} (h : ∀ i, i < a → f (k + i) < D) : vl f k (a + b) % D ^ a = vl f k a := by
  rw [vl_add, Nat.add_mul_mod_self_left, Nat.mod_eq_of_lt (vl_lt h)]
theorem dg_vl {f : Nat → Nat} {n i : Nat} (h : ∀ i, i < n → f i < D) (hi : i < n) : dg (vl f 0 n) i = f i := by
  obtain ⟨b, rfl⟩ : ∃ b, n = i + (b + 1) := ⟨n - i - 1, by omega⟩
  rw [dg, vl_div (fun j hj => by rw [Nat.zero_add]; exact h j (by omega)), Nat.zero_add, vl_low, Nat.add_mul_mod_self_left, Nat.mod_eq_of_lt (h i hi)]

/-- One digit of a product, taken off. -/
theorem take_step {f f0 g : Nat → Nat} {k i d c b b' x : Nat}
    (h : vl f k i + d * vl g 0 i = vl f0 k i + (c + b) * D ^ i)
    (hx : x + (c + d * g i) % D + b = f0 (k + i) + D * b') :
    vl (upd f (k + i) x) k (i + 1) + d * vl g 0 (i + 1) = vl f0 k (i + 1) + ((c + d * g i) / D + b') * D ^ (i + 1) := by
  rw [vl_upd_top, vl, vl, Nat.zero_add, Nat.pow_succ]
  have hm := Nat.div_add_mod (c + d * g i) D
  generalize (c + d * g i) / D = c' at *
  generalize (c + d * g i) % D = r at *
  generalize D ^ i = P at *
  generalize vl f k i = A at *
  generalize vl f0 k i = A0 at *
  generalize vl g 0 i = G at *
  generalize f0 (k + i) = y at *
  generalize g i = z at *
  have e1 : A + x * P + d * (G + z * P) = (A + d * G) + (x + d * z) * P := by grind
  rw [e1, h]
  have e2 : (c + b) + (x + d * z) = y + (c' + b') * D := by grind
  have e3 : A0 + (c + b) * P + (x + d * z) * P = A0 + ((c + b) + (x + d * z)) * P := by grind
  rw [e3, e2]; grind
theorem take_end {f f0 g : Nat → Nat} {k n d c b t x : Nat}
    (h : vl f k n + d * vl g 0 n = vl f0 k n + (c + b) * D ^ n)
    (hx : x + (c + b) = f0 (k + n) + D * t) :
    vl (upd f (k + n) x) k (n + 1) + d * vl g 0 n = vl f0 k (n + 1) + t * D ^ (n + 1) := by
  rw [vl_upd_top, vl, Nat.pow_succ]
  generalize D ^ n = P at *
  generalize vl f k n = A at *
  generalize vl f0 k n = A0 at *
  generalize vl g 0 n = G at *
  generalize f0 (k + n) = y at *
  have e1 : A + x * P + d * G = (A + d * G) + x * P := by grind
  rw [e1, h]
  have e3 : A0 + (c + b) * P + x * P = A0 + (x + (c + b)) * P := by grind
  rw [e3, hx]; grind
/-- A digit put back. -/
theorem put_step {f f0 g : Nat → Nat} {k i c : Nat}
    (h : vl f k i + c * D ^ i = vl f0 k i + vl g 0 i) :
    vl (upd f (k + i) ((c + (f0 (k + i) + g i)) % D)) k (i + 1) + (c + (f0 (k + i) + g i)) / D * D ^ (i + 1) = vl f0 k (i + 1) + vl g 0 (i + 1) := by
  rw [vl_upd_top, vl, vl, Nat.zero_add, Nat.pow_succ]
  have hm := Nat.div_add_mod (c + (f0 (k + i) + g i)) D
  generalize (c + (f0 (k + i) + g i)) / D = c' at *
  generalize (c + (f0 (k + i) + g i)) % D = r at *
  generalize D ^ i = P at *
  have e1 : vl f k i + r * P + c' * (P * D) = vl f k i + (D * c' + r) * P := by grind
  rw [e1, hm]
  have e2 : vl f k i + (c + (f0 (k + i) + g i)) * P = (vl f k i + c * P) + (f0 (k + i) + g i) * P := by grind
  rw [e2, h]; grind
theorem put_end {f f0 g : Nat → Nat} {k n c : Nat}
    (h : vl f k n + c * D ^ n = vl f0 k n + vl g 0 n) :
    vl (upd f (k + n) ((c + f0 (k + n)) % D)) k (n + 1) + (c + f0 (k + n)) / D * D ^ (n + 1) = vl f0 k (n + 1) + vl g 0 n := by
  rw [vl_upd_top, vl, Nat.pow_succ]
  have hm := Nat.div_add_mod (c + f0 (k + n)) D
  generalize (c + f0 (k + n)) / D = c' at *
  generalize (c + f0 (k + n)) % D = r at *
  generalize D ^ n = P at *
  have e1 : vl f k n + r * P + c' * (P * D) = vl f k n + (D * c' + r) * P := by grind
  rw [e1, hm]
  have e2 : vl f k n + (c + f0 (k + n)) * P = (vl f k n + c * P) + f0 (k + n) * P := by grind
  rw [e2, h]; grind

/-- The digit's guess by the two highest digits is no less than the digit. -/
theorem guess_ge {f g : Nat → Nat} {k n : Nat} (hf : ∀ i, i < n + 1 → f (k + i) < D) (hn : 0 < n) (hg : 0 < g (n - 1)) :
    vl f k (n + 1) / vl g 0 n ≤ (f (k + n) * D + f (k + (n - 1))) / g (n - 1) := by
  obtain ⟨m, rfl⟩ : ∃ m, n = m + 1 := ⟨n - 1, by omega⟩
  rw [show m + 1 - 1 = m by omega] at *
  rw [Nat.le_div_iff_mul_le hg]
  have hq := Nat.div_mul_le_self (vl f k (m + 1 + 1)) (vl g 0 (m + 1))
  generalize vl f k (m + 1 + 1) / vl g 0 (m + 1) = q at *
  have hR : vl f k (m + 1 + 1) < (f (k + (m + 1)) * D + f (k + m) + 1) * D ^ m := by
    rw [vl, vl, Nat.pow_succ]
    have := vl_lt (f := f) (k := k) (n := m) (fun i hi => hf i (by omega))
    generalize D ^ m = P at *
    have e : (f (k + (m + 1)) * D + f (k + m) + 1) * P = f (k + m) * P + f (k + (m + 1)) * (P * D) + P := by grind
    rw [e]; omega
  have hV : g m * D ^ m ≤ vl g 0 (m + 1) := by rw [vl, Nat.zero_add]; omega
  have h1 : q * g m * D ^ m ≤ q * vl g 0 (m + 1) := by rw [Nat.mul_assoc]; exact Nat.mul_le_mul_left _ hV
  have h2 : q * g m * D ^ m < (f (k + (m + 1)) * D + f (k + m) + 1) * D ^ m := by omega
  have := Nat.lt_of_mul_lt_mul_right h2
  omega

/-- A digit that leaves something that is no less than nothing, and is no less than the quotient, is the quotient. -/
theorem quot_of {R V d r : Nat} (hV : 0 < V) (h : r + d * V = R) (hq : R / V ≤ d) : d = R / V ∧ r = R % V := by
  have hd : d ≤ R / V := by rw [Nat.le_div_iff_mul_le hV]; omega
  have e : d = R / V := by omega
  refine ⟨e, ?_⟩
  have := Nat.div_add_mod R V
  rw [← e, Nat.mul_comm] at this
  omega
end Go.Proofs.YtdlanihbpbfbcaaDoor
