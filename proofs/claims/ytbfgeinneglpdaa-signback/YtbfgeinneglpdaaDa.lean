/- The division, told by numbers: divide, Div, Rest; Mul. -/
import Derived.Test.YtbfgeinneglpdaaDv
namespace Go.Proofs.Ytbfgeinneglpdaa
open Go.RowKit Go.Sort
set_option linter.unusedVariables false
theorem bitLen_lt : ∀ (k x : Nat), x < 2 ^ k → k ≤ 64 → x < 2 ^ Lib.bitLen x
  | 0, x, h, _ => by
    have : x = 0 := by simpa using h
    subst this; decide
  | k + 1, x, h, hk => by
    by_cases h0 : x = 0
    · subst h0; decide
    · have h64 : x < 2 ^ 64 := Nat.lt_of_lt_of_le h (Nat.pow_le_pow_right (by decide) hk)
      rw [Lib.bitLen_half x h0 h64, Nat.pow_add]
      have h2 : x / 2 < 2 ^ k := by rw [Nat.pow_succ] at h; omega
      have := bitLen_lt k (x / 2) h2 (by omega)
      omega
theorem bitsN_lt (n : Nat) (hn : n < W) : n < 2 ^ bitsN n := by
  have hM : M = 2 ^ 64 := by decide
  have key : ∀ x d : Nat, 0 < d → x = n / d → x < M → n < 2 ^ Lib.bitLen x * d := by
    intro x d hd hx hlt
    rw [hM] at hlt
    have := bitLen_lt 64 x hlt (by decide)
    generalize 2 ^ Lib.bitLen x = p at *
    rw [hx] at this
    exact (Nat.div_lt_iff_lt_mul hd).1 this
  have e3 : l3 n = n / (M * M * M) := by
    unfold l3
    exact Nat.mod_eq_of_lt (Nat.div_lt_of_lt_mul (by rw [← W_eq]; exact hn))
  have p1 : ∀ b, 2 ^ (64 + b) = 2 ^ b * M := fun b => by have := pow_q 1 b; rw [Nat.mul_one, Nat.pow_one] at this; exact this
  have p2 : ∀ b, 2 ^ (128 + b) = 2 ^ b * (M * M) := fun b => by have := pow_q 2 b; rw [show M ^ 2 = M * M from by decide +kernel] at this; exact this
  have p3 : ∀ b, 2 ^ (192 + b) = 2 ^ b * (M * M * M) := fun b => by have := pow_q 3 b; rw [show M ^ 3 = M * M * M from by decide +kernel] at this; exact this
  unfold bitsN bits4
  by_cases h3 : l3 n = 0
  · rw [if_pos h3]
    have z3 : n < M * M * M := by
      rw [e3] at h3
      exact (Nat.div_eq_zero_iff_lt (by decide)).1 h3
    have e2 : l2 n = n / (M * M) := by
      unfold l2
      exact Nat.mod_eq_of_lt (Nat.div_lt_of_lt_mul z3)
    by_cases h2 : l2 n = 0
    · rw [if_pos h2]
      have z2 : n < M * M := by
        rw [e2] at h2
        exact (Nat.div_eq_zero_iff_lt (by decide)).1 h2
      have e1 : l1 n = n / M := by
        unfold l1
        exact Nat.mod_eq_of_lt (Nat.div_lt_of_lt_mul z2)
      by_cases h1 : l1 n = 0
      · rw [if_pos h1]
        have z1 : n < M := by
          rw [e1] at h1
          exact (Nat.div_eq_zero_iff_lt (by decide)).1 h1
        have e0 : l0 n = n := by unfold l0; exact Nat.mod_eq_of_lt z1
        by_cases h0 : l0 n = 0
        · rw [if_pos h0, ← e0, h0]; decide
        · rw [if_neg h0, e0]
          have := key n 1 (by decide) (by rw [Nat.div_one]) z1
          rwa [Nat.mul_one] at this
      · rw [if_neg h1, p1]
        exact key _ _ (by decide) e1 (l1_lt n)
    · rw [if_neg h2, p2]
      exact key _ _ (by decide) e2 (l2_lt n)
  · rw [if_neg h3, p3]
    exact key _ _ (by decide) e3 (l3_lt n)
theorem bitsN_spec (n : Nat) (hn : n < W) (h0 : 0 < n) : 0 < bitsN n ∧ bitsN n ≤ 256 ∧ 2 ^ (bitsN n - 1) ≤ n ∧ n < 2 ^ bitsN n := by
  have h1 := bitsN_lt n hn
  have hp : 0 < bitsN n := by
    rcases Nat.eq_zero_or_pos (bitsN n) with h | h
    · rw [h] at h1; simp at h1; omega
    · exact h
  refine ⟨hp, bitsN_le n 256 (by rw [← W_two]; exact hn), ?_, h1⟩
  rcases Nat.lt_or_ge n (2 ^ (bitsN n - 1)) with h | h
  · have := bitsN_le n _ h; omega
  · exact h

/-- The quotient and what is left, of high times 2^256 and low. -/
def dq (high low m : Nat) : Nat := (high * W + low) / m % W
def dr (high low m : Nat) : Nat := if m = 0 then 0 else (high * W + low) % m
theorem dq_lt (high low m : Nat) : dq high low m < W := Nat.mod_lt _ W_pos
theorem dr_lt (high low m : Nat) (hm : m < W) : dr high low m < W := by
  unfold dr
  split
  · exact W_pos
  · exact Nat.lt_trans (Nat.mod_lt _ (by omega)) hm

theorem divide_pos (high low dv : Nat) (hh : high < W) (hl : low < W) (hd : dv < W) (h0 : 0 < dv) (w : World) :
    Calls Try.prog 56 #[U high, U low, U dv] w fun e w' => e = .returned (.tuple #[U (dq high low dv), U (dr high low dv)]) ∧ Below w.heap.size w w' := by
  obtain ⟨z0, z1, z2, z3⟩ := bitsN_spec dv hd h0
  obtain ⟨m, hm⟩ : ∃ m, m = (bitsN dv - 1) / 32 := ⟨_, rfl⟩
  obtain ⟨s, hs⟩ : ∃ s, s = (m + 1) * 32 - bitsN dv := ⟨_, rfl⟩
  have hm8 : m < 8 := by omega
  have hs32 : s < 32 := by omega
  have hV1 : dv * 2 ^ s < D ^ (m + 1) := by
    rw [D_two]
    have : dv * 2 ^ s < 2 ^ bitsN dv * 2 ^ s := Nat.mul_lt_mul_of_pos_right z3 (Nat.two_pow_pos s)
    rw [← Nat.pow_add, show bitsN dv + s = 32 * (m + 1) by omega] at this
    exact this
  have hVW : dv * 2 ^ s < W := by
    rw [W_D]
    exact Nat.lt_of_lt_of_le hV1 (Nat.pow_le_pow_right D_pos (by omega))
  have eV : shlW dv s = dv * 2 ^ s := Nat.mod_eq_of_lt hVW
  have hV2 : D ^ m ≤ dv * 2 ^ s := by
    have h1 : 2 ^ (bitsN dv - 1) * 2 ^ s ≤ dv * 2 ^ s := Nat.mul_le_mul_right _ z2
    rw [← Nat.pow_add] at h1
    refine Nat.le_trans ?_ h1
    rw [D_two]
    exact Nat.pow_le_pow_right (by decide) (by omega)
  have hdm : D ^ m ≤ dv := by
    refine Nat.le_trans ?_ z2
    rw [D_two]
    exact Nat.pow_le_pow_right (by decide) (by omega)
  have gm : 0 < dg (dv * 2 ^ s) m := by
    unfold dg
    rw [Nat.mod_eq_of_lt (Nat.div_lt_of_lt_mul (by rw [← Nat.pow_succ]; exact hV1))]
    exact Nat.div_pos hV2 (Dp m)
  have vV : vl (dg (dv * 2 ^ s)) 0 (m + 1) = dv * 2 ^ s := vl_dg_lt hV1
  have hY : high * W + low < D ^ 16 := by
    have : D ^ 16 = W * W := by rw [W_D, ← Nat.pow_add]
    rw [this]
    have : high * W + W ≤ W * W := by
      rw [← Nat.succ_mul]; exact Nat.mul_le_mul_right _ hh
    omega
  have hX : (high * W + low) * 2 ^ s < dv * 2 ^ s * D ^ (16 - m) := by
    rw [Nat.mul_assoc, Nat.mul_comm (2 ^ s), ← Nat.mul_assoc]
    refine Nat.mul_lt_mul_of_pos_right (Nat.lt_of_lt_of_le hY ?_) (Nat.two_pow_pos s)
    have : D ^ m * D ^ (16 - m) ≤ dv * D ^ (16 - m) := Nat.mul_le_mul_right _ hdm
    rwa [← Nat.pow_add, show m + (16 - m) = 16 by omega] at this
  have C := divide_raw high low dv (bitsN dv) m s (dv * 2 ^ s) ((high * W + low) * 2 ^ s) (dg (dv * 2 ^ s)) (fun f => (∀ i, i < 17 → f i < D) ∧ vl f 0 17 = (high * W + low) * 2 ^ s)
    z0 z1 (by omega) (by omega) ⟨hm8, fun i _ => dg_lt _ _, gm⟩ (bits_any dv) (fun w => by have := shl_any dv s hd w; rwa [eV] at this) (split_any _) (shifted_any high low s hh hl hs32)
    (fun f hf => by rw [vV]; exact DI.start (by omega) hf.1 hf.2 hX) w
  refine C.mono ?_
  rintro e w' ⟨⟨f, q, hI, rfl⟩, hb⟩
  refine ⟨?_, hb⟩
  rw [vV] at hI
  have hv := hI.hv
  have hlt := hI.hl
  simp only [Nat.sub_zero, Nat.pow_zero, Nat.mul_one] at hv hlt
  have f8 : vl f 0 8 = vl f 0 17 := by
    have h1 := vl_mod (f := f) (k := 0) (a := 8) (b := 9) (fun i hi => hI.hf _ (by omega))
    rw [← W_D] at h1
    have h2 : vl f 0 (8 + 9) % W = vl f 0 17 := Nat.mod_eq_of_lt (Nat.lt_trans hlt hVW)
    rw [h2] at h1
    exact h1.symm
  have q8 : vl q 0 8 = vl q 0 16 % W := by
    have h1 := vl_mod (f := q) (k := 0) (a := 8) (b := 8) (fun i hi => hI.hqd _ (by omega))
    rw [← W_D] at h1
    exact h1.symm
  rw [f8, q8]
  generalize vl f 0 17 = L at *
  generalize vl q 0 16 = Q at *
  generalize hYY : high * W + low = Y at *
  have hp : 0 < 2 ^ s := Nat.two_pow_pos s
  have hr : L = 2 ^ s * (Y - Q * dv) := by
    rw [← Nat.mul_assoc] at hv
    have : 2 ^ s * (Y - Q * dv) = Y * 2 ^ s - Q * dv * 2 ^ s := by rw [Nat.mul_comm, Nat.sub_mul]
    rw [this]; omega
  have hsh : shrW L s = Y - Q * dv := by
    unfold shrW
    rw [hr, Nat.mul_div_cancel_left _ hp]
  have hle : Q * dv ≤ Y := by
    have : Q * dv * 2 ^ s ≤ Y * 2 ^ s := by rw [hv, Nat.mul_assoc]; omega
    exact Nat.le_of_mul_le_mul_right this hp
  have hlt2 : Y - Q * dv < dv := by
    have : 2 ^ s * (Y - Q * dv) < 2 ^ s * dv := by rw [← hr, Nat.mul_comm (2 ^ s) dv]; exact hlt
    exact Nat.lt_of_mul_lt_mul_left this
  have hQ : Q = Y / dv := by
    have h1 : Q ≤ Y / dv := (Nat.le_div_iff_mul_le h0).2 hle
    have h2 : Y / dv < Q + 1 := (Nat.div_lt_iff_lt_mul h0).2 (by rw [Nat.add_mul]; omega)
    omega
  have hR : Y - Q * dv = Y % dv := by
    have := Nat.div_add_mod Y dv
    rw [← hQ, Nat.mul_comm] at this
    omega
  rw [hsh, hR, hQ]
  unfold dq dr
  rw [if_neg (by omega), hYY]
end Go.Proofs.Ytbfgeinneglpdaa
