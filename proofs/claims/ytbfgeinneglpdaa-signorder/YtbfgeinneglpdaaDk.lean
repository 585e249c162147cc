/- The long division's start: the divisor and the number, both shifted up, by their digits. No program is named here. -/
import Derived.Test.YtbfgeinneglpdaaDm
import Derived.Test.YtbfgeinneglpdaaDl
namespace Go.Proofs.Ytbfgeinneglpdaa
set_option linter.unusedVariables false
theorem vl_cut {f : Nat → Nat} {a b : Nat} (hab : a ≤ b) (hz : ∀ i, a ≤ i → i < b → f i = 0) : vl f 0 b = vl f 0 a := by
  obtain ⟨c, rfl⟩ : ∃ c, b = a + c := ⟨b - a, by omega⟩
  have e : vl f (0 + a) c = 0 := vl_of_zero fun i hi => hz _ (by omega) (by omega)
  rw [vl_add, e, Nat.mul_zero, Nat.add_zero]
/-- With its highest digit's highest bit at the digit's top, the divisor keeps its number of digits. -/
theorem div_shl {m : Nat → Nat} {k s : Nat} (hm : ∀ i, i < 8 → m i < D) (hk : k ≤ 6) (hz : ∀ i, k + 2 ≤ i → i < 8 → m i = 0) (hs : s < 32) (h1 : m (k + 1) * 2 ^ s < D) :
    vl m 0 8 * 2 ^ s < D ^ (k + 2) := by
  have hD := D_split s (by omega)
  have hp : 0 < 2 ^ s := Nat.two_pow_pos s
  have e : vl m 0 8 = vl m 0 (k + 2) := vl_cut (by omega) hz
  have hlow : vl m 0 (k + 1) < D ^ (k + 1) := vl_lt fun i hi => by rw [Nat.zero_add]; exact hm i (by omega)
  have h2 : m (k + 1) < 2 ^ (32 - s) := by
    rw [hD, Nat.mul_comm] at h1
    exact Nat.lt_of_mul_lt_mul_left h1
  have h3 : (m (k + 1) + 1) * 2 ^ s ≤ D := by
    rw [hD, Nat.mul_comm (2 ^ s)]
    exact Nat.mul_le_mul_right _ h2
  rw [e, vl, Nat.zero_add]
  have h4 : vl m 0 (k + 1) + m (k + 1) * D ^ (k + 1) < (m (k + 1) + 1) * D ^ (k + 1) := by rw [Nat.add_mul, Nat.one_mul]; omega
  have h5 : (vl m 0 (k + 1) + m (k + 1) * D ^ (k + 1)) * 2 ^ s < (m (k + 1) + 1) * D ^ (k + 1) * 2 ^ s := Nat.mul_lt_mul_of_pos_right h4 hp
  have h6 : (m (k + 1) + 1) * D ^ (k + 1) * 2 ^ s ≤ D ^ (k + 2) := by
    have : (m (k + 1) + 1) * D ^ (k + 1) * 2 ^ s = (m (k + 1) + 1) * 2 ^ s * D ^ (k + 1) := by rw [Nat.mul_right_comm]
    rw [this, Nat.pow_succ D (k + 1), Nat.mul_comm (D ^ (k + 1)) D]
    exact Nat.mul_le_mul_right _ h3
  exact Nat.lt_of_lt_of_le h5 h6
theorem main_start {d m v u : Nat → Nat} {k s : Nat} (hd : ∀ i, i < 16 → d i < D) (hm : ∀ i, i < 8 → m i < D) (hk : k ≤ 6) (ht : 0 < m (k + 1)) (hz : ∀ i, k + 2 ≤ i → i < 8 → m i = 0) (hs : s < 32) (h1 : m (k + 1) * 2 ^ s < D)
    (hv : ∀ i, i < k + 2 → v i = dg (vl m 0 8 * 2 ^ s) i) (hu : ∀ i, i < 17 → u i = dg (vl d 0 16 * 2 ^ s) i) :
    vl v 0 (k + 2) = vl m 0 8 * 2 ^ s ∧ (∀ i, i < k + 2 → v i < D) ∧ DI (vl d 0 16 * 2 ^ s) (vl v 0 (k + 2)) u (fun _ => 0) (15 - k) := by
  have hVlt := div_shl hm hk hz hs h1
  have eV : vl v 0 (k + 2) = vl m 0 8 * 2 ^ s := by
    rw [vl_congr (g := dg (vl m 0 8 * 2 ^ s)) (fun i hi => by rw [Nat.zero_add]; exact hv i hi)]
    exact vl_dg_lt hVlt
  have hp : 0 < 2 ^ s := Nat.two_pow_pos s
  have hX16 : vl d 0 16 < D ^ 16 := vl_lt fun i hi => by rw [Nat.zero_add]; exact hd i hi
  have h2D : 2 ^ s ≤ D := by
    have : 2 ^ s ≤ 2 ^ 32 := Nat.pow_le_pow_right (by decide) (by omega)
    exact this
  have hX17 : vl d 0 16 * 2 ^ s < D ^ 17 := by
    have a1 : vl d 0 16 * 2 ^ s < D ^ 16 * 2 ^ s := Nat.mul_lt_mul_of_pos_right hX16 hp
    rw [show (17 : Nat) = 16 + 1 from rfl, Nat.pow_succ]
    exact Nat.lt_of_lt_of_le a1 (Nat.mul_le_mul_left _ h2D)
  have eX : vl u 0 17 = vl d 0 16 * 2 ^ s := by
    rw [vl_congr (g := dg (vl d 0 16 * 2 ^ s)) (fun i hi => by rw [Nat.zero_add]; exact hu i hi)]
    exact vl_dg_lt hX17
  have hM : D ^ (k + 1) ≤ vl m 0 8 := by
    rw [vl_cut (f := m) (a := k + 2) (b := 8) (by omega) hz, vl, Nat.zero_add]
    have := Nat.le_mul_of_pos_left (D ^ (k + 1)) ht
    omega
  refine ⟨eV, fun i hi => by rw [hv i hi]; exact dg_lt _ _, DI.start (by omega) (fun i hi => by rw [hu i hi]; exact dg_lt _ _) eX ?_⟩
  rw [eV, Nat.mul_assoc, Nat.mul_comm (2 ^ s), ← Nat.mul_assoc]
  refine Nat.mul_lt_mul_of_pos_right (Nat.lt_of_lt_of_le hX16 ?_) hp
  have a2 : D ^ (k + 1) * D ^ (15 - k) ≤ vl m 0 8 * D ^ (15 - k) := Nat.mul_le_mul_right _ hM
  rwa [← Nat.pow_add, show k + 1 + (15 - k) = 16 by omega] at a2
/-- What is left behind the last digit, shifted down, and the quotient. -/
theorem main_end {X M1 s : Nat} {f q : Nat → Nat} (h0 : 0 < M1) (hI : DI (X * 2 ^ s) (M1 * 2 ^ s) f q 0) : vl q 0 16 = X / M1 ∧ vl f 0 17 / 2 ^ s = X % M1 ∧ vl f 0 17 < M1 * 2 ^ s := by
  have hv := hI.hv
  have hlt := hI.hl
  simp only [Nat.sub_zero, Nat.pow_zero, Nat.mul_one] at hv hlt
  generalize vl f 0 17 = L at *
  generalize vl q 0 16 = Q at *
  have hp : 0 < 2 ^ s := Nat.two_pow_pos s
  rw [← Nat.mul_assoc] at hv
  have hle : Q * M1 ≤ X := by
    have : Q * M1 * 2 ^ s ≤ X * 2 ^ s := by omega
    exact Nat.le_of_mul_le_mul_right this hp
  have hr : L = (X - Q * M1) * 2 ^ s := by rw [Nat.sub_mul]; omega
  have hlt2 : X - Q * M1 < M1 := by
    rw [hr] at hlt
    exact Nat.lt_of_mul_lt_mul_right hlt
  have hQ : Q = X / M1 := by
    have h1 : Q ≤ X / M1 := (Nat.le_div_iff_mul_le h0).2 hle
    have h2 : X / M1 < Q + 1 := (Nat.div_lt_iff_lt_mul h0).2 (by rw [Nat.add_mul]; omega)
    omega
  refine ⟨hQ, ?_, hlt⟩
  rw [hr, Nat.mul_div_cancel _ hp]
  have := Nat.div_add_mod X M1
  rw [← hQ, Nat.mul_comm] at this
  omega
end Go.Proofs.Ytbfgeinneglpdaa
