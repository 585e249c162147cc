/- shifted, told by numbers. -/
import Derived.Test.YtbfgeinneglpdaaSf
namespace Go.Proofs.Ytbfgeinneglpdaa
open Go.RowKit Go.Sort
set_option linter.unusedVariables false
theorem W_two : W = 2 ^ 256 := by decide +kernel
theorem shl_split (x k : Nat) (hk : k ≤ 256) : x * 2 ^ k / W = x / 2 ^ (256 - k) := by
  have e : W = 2 ^ (256 - k) * 2 ^ k := by rw [← Nat.pow_add, show 256 - k + k = 256 by omega, W_two]
  rw [e, Nat.mul_div_mul_right _ _ (Nat.two_pow_pos k)]
theorem mid_or (high low k : Nat) (hl : low < W) (hk : k ≤ 256) : shlW high k ||| shrW low (256 - k) = high * 2 ^ k % W + low / 2 ^ (256 - k) := by
  unfold shlW shrW
  have hlt : low / 2 ^ (256 - k) < 2 ^ k := by
    refine Nat.div_lt_of_lt_mul ?_
    rw [← Nat.pow_add, show 256 - k + k = 256 by omega, ← W_two]; exact hl
  have e : high * 2 ^ k % W = 2 ^ k * (high % 2 ^ (256 - k)) := by
    have e : W = 2 ^ (256 - k) * 2 ^ k := by rw [← Nat.pow_add, show 256 - k + k = 256 by omega, W_two]
    rw [e, Nat.mul_mod_mul_right, Nat.mul_comm]
  rw [e, ← Nat.two_pow_add_eq_or_of_lt hlt]
theorem shift_sum (A M1 H W' : Nat) : A + W' * (M1 + W' * H) = A + W' * M1 + W' * (W' * H) := by rw [Nat.mul_add, Nat.add_assoc]
theorem shifted_any (high low k : Nat) (hh : high < W) (hl : low < W) (hk : k < 32) (w : World) :
    Calls Try.prog 60 #[U high, U low, B k] w fun e w' =>
      (∃ f : Nat → Nat, ((∀ i, i < 17 → f i < D) ∧ vl f 0 17 = (high * W + low) * 2 ^ k) ∧ e = .returned (L17 f)) ∧ Below w.heap.size w w' := by
  have hm := mid_or high low k hl (by omega)
  have hmW : shlW high k ||| shrW low (256 - k) < W := by
    have h1 := shlW_lt high k
    have h2 := shrW_lt low (256 - k) hl
    rw [W_two] at *
    exact Nat.or_lt_two_pow h1 h2
  refine (shifted_raw high low k (256 - k) (shlW high k) (shrW low (256 - k)) (shlW high k ||| shrW low (256 - k)) (shlW low k) (shrW high (256 - k)) (dg (shlW low k)) (dg (shlW high k ||| shrW low (256 - k))) (dg (shrW high (256 - k)))
    (by simp only [IntKind.wrap_u64]; omega) (shl_any high k hh) (shr_any low (256 - k) hl) (or_any _ _) (shl_any low k hl) (split_any _) (split_any _) (shr_any high (256 - k) hh) (split_any _) w).mono ?_
  rintro e w' ⟨⟨f, h1, h2, h3, rfl⟩, hb⟩
  refine ⟨⟨f, ⟨fun i hi => ?_, ?_⟩, rfl⟩, hb⟩
  · rcases Nat.lt_or_ge i 8 with h | h
    · rw [h1 i h]; exact dg_lt _ _
    · rcases Nat.lt_or_ge i 16 with h' | h'
      · have := h2 (i - 8) (by omega)
        rw [show 8 + (i - 8) = i by omega] at this
        rw [this]; exact dg_lt _ _
      · rw [show i = 16 by omega, h3]; exact dg_lt _ _
  · have e1 : vl f 0 8 = shlW low k := by
      rw [vl_congr (g := dg (shlW low k)) (fun i hi => by rw [Nat.zero_add]; exact h1 i hi)]
      exact vl_dg_lt (by rw [← W_D]; exact shlW_lt _ _)
    have e2 : vl f 8 8 = shlW high k ||| shrW low (256 - k) := by
      rw [← vl_dg_lt (x := shlW high k ||| shrW low (256 - k)) (n := 8) (by rw [← W_D]; exact hmW)]
      have : ∀ n, n ≤ 8 → vl f 8 n = vl (dg (shlW high k ||| shrW low (256 - k))) 0 n := by
        intro n
        induction n with
        | zero => intro _; rfl
        | succ n ih => intro hn; rw [vl, vl, ih (by omega), h2 n (by omega), Nat.zero_add]
      exact this 8 (Nat.le_refl _)
    have hH : shrW high (256 - k) < 2 ^ k := by
      unfold shrW
      refine Nat.div_lt_of_lt_mul ?_
      rw [← Nat.pow_add, show 256 - k + k = 256 by omega, ← W_two]; exact hh
    have hkD : 2 ^ k < D := by
      have : 2 ^ k < 2 ^ 32 := Nat.pow_lt_pow_right (by decide) hk
      exact this
    have e3 : f 16 = shrW high (256 - k) := by
      rw [h3]
      unfold dg
      rw [Nat.pow_zero, Nat.div_one, Nat.mod_eq_of_lt (by omega)]
    have s1 : vl f 0 17 = vl f 0 8 + D ^ 8 * vl f 8 9 := vl_add f 0 8 9
    have s2 : vl f 8 9 = vl f 8 8 + f 16 * D ^ 8 := rfl
    rw [s1, s2, e1, e2, e3, hm, ← W_D]
    unfold shlW shrW
    rw [← shl_split high k (by omega), ← shl_split low k (by omega)]
    have d1 := Nat.div_add_mod (low * 2 ^ k) W
    have d2 := Nat.div_add_mod (high * 2 ^ k) W
    have goal : (high * W + low) * 2 ^ k = W * (high * 2 ^ k) + low * 2 ^ k := by rw [Nat.add_mul, Nat.mul_comm high W, Nat.mul_assoc]
    rw [goal]
    generalize low * 2 ^ k = L at *
    generalize high * 2 ^ k = H at *
    generalize L / W = a at *
    generalize L % W = b at *
    generalize H / W = c at *
    generalize H % W = d at *
    clear goal e1 e2 e3 s1 s2 hm hmW h1 h2 h3 hH hkD hb
    subst d1
    subst d2
    generalize W = V
    rw [Nat.mul_add, Nat.mul_add, Nat.mul_add, Nat.mul_comm c V]
    omega
end Go.Proofs.Ytbfgeinneglpdaa
