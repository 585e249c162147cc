/- Keccak's rounds can be undone: unlike parts go to unlike ones. No function of the program is named here. -/
import Derived.Test.YthpjdnapoafkgaaDoorHq
namespace Go.Proofs.YthpjdnapoafkgaaDoor
set_option linter.unusedVariables false
theorem tb_hi {x z : Nat} (hx : x < M) (hz : 64 ≤ z) : x.testBit z = false := by
  rw [M_pow] at hx
  exact Nat.testBit_lt_two_pow (Nat.lt_of_lt_of_le hx (Nat.pow_le_pow_right (by decide) hz))
theorem eq_of_bits {x y : Nat} (hx : x < M) (hy : y < M) (h : ∀ z, z < 64 → x.testBit z = y.testBit z) : x = y := by
  apply Nat.eq_of_testBit_eq
  intro z
  by_cases hz : z < 64
  · exact h z hz
  · rw [tb_hi hx (by omega), tb_hi hy (by omega)]
theorem tb_nt {b c z : Nat} (hb : b < M) (hz : z < 64) : (nt b c).testBit z = (c.testBit z && !b.testBit z) := by
  unfold nt
  rw [Nat.testBit_and, M_pow, show 2 ^ 64 - 1 - b = 2 ^ 64 - (b + 1) by omega, Nat.testBit_two_pow_sub_succ (by rw [← M_pow]; exact hb)]
  simp [hz]
theorem tb_rt {x k z : Nat} (hx : x < M) (hk : k < 64) (hz : z < 64) : (rt x k).testBit z = x.testBit ((z + (64 - k)) % 64) := by
  unfold rt
  rw [Nat.testBit_or, M_pow, Nat.testBit_mod_two_pow, Nat.testBit_mul_two_pow, Nat.testBit_div_two_pow]
  by_cases h : k ≤ z
  · rw [show (z + (64 - k)) % 64 = z - k by omega, tb_hi hx (show 64 ≤ z + (64 - k) by omega)]
    simp [hz, h]
  · rw [show (z + (64 - k)) % 64 = z + (64 - k) by omega]
    simp [h]
theorem chi_inj5 : ∀ a b c d e a' b' c' d' e' : Bool, (a ^^ (c && !b)) = (a' ^^ (c' && !b')) → (b ^^ (d && !c)) = (b' ^^ (d' && !c')) → (c ^^ (e && !d)) = (c' ^^ (e' && !d')) →
    (d ^^ (a && !e)) = (d' ^^ (a' && !e')) → (e ^^ (b && !a)) = (e' ^^ (b' && !a')) → a = a' ∧ b = b' ∧ c = c' ∧ d = d' ∧ e = e' := by decide
theorem chi_inj {f g : Nat → Nat} (hf : P25 f) (hg : P25 g) (h : ∀ i, i < 25 → chi f i = chi g i) : ∀ i, i < 25 → f i = g i := by
  have row : ∀ y, y < 5 → ∀ x, x < 5 → f (5 * y + x) = g (5 * y + x) := by
    intro y hy
    have key : ∀ z, z < 64 → (f (5 * y)).testBit z = (g (5 * y)).testBit z ∧ (f (5 * y + 1)).testBit z = (g (5 * y + 1)).testBit z ∧ (f (5 * y + 2)).testBit z = (g (5 * y + 2)).testBit z ∧
        (f (5 * y + 3)).testBit z = (g (5 * y + 3)).testBit z ∧ (f (5 * y + 4)).testBit z = (g (5 * y + 4)).testBit z := by
      intro z hz
      have hb : ∀ x, x < 5 → ((f (5 * y + x)).testBit z ^^ ((f (5 * y + (x + 2) % 5)).testBit z && !(f (5 * y + (x + 1) % 5)).testBit z)) =
          ((g (5 * y + x)).testBit z ^^ ((g (5 * y + (x + 2) % 5)).testBit z && !(g (5 * y + (x + 1) % 5)).testBit z)) := by
        intro x hx
        have e := congrArg (fun v => v.testBit z) (h (5 * y + x) (by omega))
        have e1 : n1 (5 * y + x) = 5 * y + (x + 1) % 5 := by unfold n1; omega
        have e2 : n2 (5 * y + x) = 5 * y + (x + 2) % 5 := by unfold n2; omega
        unfold chi at e
        rw [e1, e2] at e
        simp only [Nat.testBit_xor] at e
        rw [tb_nt (hf _ (by omega)) hz, tb_nt (hg _ (by omega)) hz] at e
        exact e
      exact chi_inj5 _ _ _ _ _ _ _ _ _ _ (hb 0 (by decide)) (hb 1 (by decide)) (hb 2 (by decide)) (hb 3 (by decide)) (hb 4 (by decide))
    intro x hx
    refine eq_of_bits (hf _ (by omega)) (hg _ (by omega)) fun z hz => ?_
    have k := key z hz
    have hx5 : x = 0 ∨ x = 1 ∨ x = 2 ∨ x = 3 ∨ x = 4 := by omega
    rcases hx5 with rfl | rfl | rfl | rfl | rfl
    · exact k.1
    · exact k.2.1
    · exact k.2.2.1
    · exact k.2.2.2.1
    · exact k.2.2.2.2
  intro i hi
  have := row (i / 5) (by omega) (i % 5) (by omega)
  rwa [show 5 * (i / 5) + i % 5 = i by omega] at this
theorem src_of_pl : ∀ i, i < 25 → src (pl i) = i := by decide
theorem rt_inj {x y k : Nat} (hx : x < M) (hy : y < M) (hk : k < 64) (h : rt x k = rt y k) : x = y := by
  refine eq_of_bits hx hy fun z hz => ?_
  have e := congrArg (fun v => v.testBit ((z + k) % 64)) h
  rw [tb_rt hx hk (by omega), tb_rt hy hk (by omega), show ((z + k) % 64 + (64 - k)) % 64 = z by omega] at e
  exact e
theorem rho_inj {f g : Nat → Nat} (hf : P25 f) (hg : P25 g) (h : ∀ i, i < 25 → rho f i = rho g i) : ∀ i, i < 25 → f i = g i := by
  intro i hi
  have e := h (pl i) (pl_lt i hi)
  unfold rho at e
  rw [src_of_pl i hi] at e
  exact rt_inj (hf i hi) (hg i hi) (tn_lt i hi) e
/-- A sum of bits told by itself further off. -/
theorem tw {C : Nat → Nat → Bool} {a b k : Nat} (h : ∀ x z, C x z = (C (x + a) z ^^ C (x + b) (z + k))) : ∀ x z, C x z = (C (x + 2 * a) z ^^ C (x + 2 * b) (z + 2 * k)) := by
  intro x z
  have e1 := h x z
  have e2 := h (x + a) z
  have e3 := h (x + b) (z + k)
  rw [show x + a + a = x + 2 * a by omega, show x + a + b = x + b + a by omega] at e2
  rw [show x + b + b = x + 2 * b by omega, show z + k + k = z + 2 * k by omega] at e3
  rw [e1, e2, e3]
  cases C (x + 2 * a) z <;> cases C (x + b + a) (z + k) <;> cases C (x + 2 * b) (z + 2 * k) <;> rfl
theorem bits0 : ∀ a b c d e : Bool, a = (b ^^ e) → b = (c ^^ a) → c = (d ^^ b) → d = (e ^^ c) → e = (a ^^ d) → a = false ∧ b = false ∧ c = false ∧ d = false ∧ e = false := by decide
theorem none_left {C : Nat → Nat → Bool} (hx : ∀ x z, C x z = C (x % 5) z) (hz : ∀ x z, C x z = C x (z % 64)) (h : ∀ x z, C x z = (C (x + 4) z ^^ C (x + 1) (z + 63))) : ∀ x z, C x z = false := by
  have h6 := tw (tw (tw (tw (tw (tw h)))))
  have e : ∀ x z, C x z = (C (x + 1) z ^^ C (x + 4) z) := by
    intro x z
    rw [h6 x z]
    congr 1
    · rw [hx (x + _), hx (x + 1), show (x + 2 * (2 * (2 * (2 * (2 * (2 * 4)))))) % 5 = (x + 1) % 5 by omega]
    · rw [hx (x + _), hx (x + 4), show (x + 2 * (2 * (2 * (2 * (2 * (2 * 1)))))) % 5 = (x + 4) % 5 by omega, hz _ (z + _), hz _ z, show (z + 2 * (2 * (2 * (2 * (2 * (2 * 63)))))) % 64 = z % 64 by omega]
  intro x z
  have q : ∀ x, x < 5 → C x z = (C ((x + 1) % 5) z ^^ C ((x + 4) % 5) z) := fun x _ => by rw [← hx, ← hx]; exact e x z
  have k := bits0 _ _ _ _ _ (q 0 (by decide)) (q 1 (by decide)) (q 2 (by decide)) (q 3 (by decide)) (q 4 (by decide))
  rw [hx]
  have hx5 : x % 5 = 0 ∨ x % 5 = 1 ∨ x % 5 = 2 ∨ x % 5 = 3 ∨ x % 5 = 4 := by omega
  rcases hx5 with h | h | h | h | h <;> rw [h]
  · exact k.1
  · exact k.2.1
  · exact k.2.2.1
  · exact k.2.2.2.1
  · exact k.2.2.2.2
theorem sum5 : ∀ a b c d e a' b' c' d' e' u v : Bool, (a ^^ u) = (a' ^^ v) → (b ^^ u) = (b' ^^ v) → (c ^^ u) = (c' ^^ v) → (d ^^ u) = (d' ^^ v) → (e ^^ u) = (e' ^^ v) →
    ((a ^^ b ^^ c ^^ d ^^ e) ^^ (a' ^^ b' ^^ c' ^^ d' ^^ e')) = (u ^^ v) := by decide
theorem sum4 : ∀ p q r s : Bool, ((p ^^ q) ^^ (r ^^ s)) = ((p ^^ r) ^^ (q ^^ s)) := by decide
theorem theta_inj {f g : Nat → Nat} (hf : P25 f) (hg : P25 g) (h : ∀ i, i < 25 → theta f i = theta g i) : ∀ i, i < 25 → f i = g i := by
  have hd : ∀ x, x < 5 → ∀ z, z < 64 → ((col f x).testBit z ^^ (col g x).testBit z) = ((dd f x).testBit z ^^ (dd g x).testBit z) := by
    intro x hx z hz
    have e : ∀ y, y < 5 → ((f (x + 5 * y)).testBit z ^^ (dd f x).testBit z) = ((g (x + 5 * y)).testBit z ^^ (dd g x).testBit z) := by
      intro y hy
      have e := congrArg (fun v => v.testBit z) (h (x + 5 * y) (by omega))
      unfold theta at e
      rw [show (x + 5 * y) % 5 = x by omega] at e
      simp only [Nat.testBit_xor] at e
      exact e
    unfold col
    simp only [Nat.testBit_xor]
    exact sum5 _ _ _ _ _ _ _ _ _ _ _ _ (e 0 (by decide)) (e 1 (by decide)) (e 2 (by decide)) (e 3 (by decide)) (e 4 (by decide))
  have hdb : ∀ (k : Nat → Nat), P25 k → ∀ x z, z < 64 → (dd k x).testBit z = ((col k ((x + 4) % 5)).testBit z ^^ (col k ((x + 1) % 5)).testBit ((z + 63) % 64)) := by
    intro k hk x z hz
    unfold dd
    rw [Nat.testBit_xor, tb_rt (col_lt hk (by omega)) (by decide) hz]
  have hC := none_left (C := fun x z => ((col f (x % 5)).testBit (z % 64) ^^ (col g (x % 5)).testBit (z % 64))) (fun x z => by simp) (fun x z => by simp) (fun x z => by
    have e := hd (x % 5) (by omega) (z % 64) (by omega)
    rw [hdb f hf _ _ (by omega), hdb g hg _ _ (by omega)] at e
    rw [e, sum4, show (x % 5 + 4) % 5 = (x + 4) % 5 by omega, show (x % 5 + 1) % 5 = (x + 1) % 5 by omega, show (z % 64 + 63) % 64 = (z + 63) % 64 by omega])
  have hcol : ∀ x, x < 5 → col f x = col g x := by
    intro x hx
    refine eq_of_bits (col_lt hf hx) (col_lt hg hx) fun z hz => ?_
    have e := hC x z
    simp only [Nat.mod_eq_of_lt hx, Nat.mod_eq_of_lt hz] at e
    revert e
    cases (col f x).testBit z <;> cases (col g x).testBit z <;> simp
  intro i hi
  have e := h i hi
  unfold theta at e
  have ed : dd f (i % 5) = dd g (i % 5) := by unfold dd; rw [hcol _ (by omega), hcol _ (by omega)]
  rw [ed] at e
  have e2 := congrArg (fun v => v ^^^ dd g (i % 5)) e
  simpa [Nat.xor_assoc] using e2
theorem rd_inj {f g : Nat → Nat} (hf : P25 f) (hg : P25 g) {k : Nat} (h : ∀ i, i < 25 → rd f k i = rd g k i) : ∀ i, i < 25 → f i = g i := by
  refine theta_inj hf hg (rho_inj (theta_lt hf) (theta_lt hg) (chi_inj (rho_lt (theta_lt hf)) (rho_lt (theta_lt hg)) fun i hi => ?_))
  have e := h i hi
  unfold rd at e
  rw [upd_at, upd_at] at e
  by_cases h0 : i = 0
  · rw [if_pos h0, if_pos h0] at e
    have e2 := congrArg (fun v => v ^^^ ki k) e
    rw [h0]
    simpa [Nat.xor_assoc] using e2
  · rwa [if_neg h0, if_neg h0] at e
theorem prm_inj {f g : Nat → Nat} (hf : P25 f) (hg : P25 g) : ∀ k, k ≤ 24 → (∀ i, i < 25 → prm f k i = prm g k i) → ∀ i, i < 25 → f i = g i
  | 0, _, h => h
  | k + 1, hk, h => prm_inj hf hg k (by omega) (rd_inj (prm_lt hf k (by omega)) (prm_lt hg k (by omega)) h)
end Go.Proofs.YthpjdnapoafkgaaDoor
