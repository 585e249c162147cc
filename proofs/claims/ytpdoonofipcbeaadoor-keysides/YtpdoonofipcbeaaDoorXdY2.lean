/- The law KeySides, walked for every input. -/
import Derived.Test.YtpdoonofipcbeaaDoorXdMK
import Derived.Test.YtpdoonofipcbeaaDoorXdKd
namespace Go.Proofs.YtpdoonofipcbeaaDoor
open Go.RowKit Go.Sort
set_option linter.unusedVariables false
theorem subOn (k : Nat) (h : k ≤ On) : subW On k = On - k := by
  unfold subW
  rw [show On + W - k = (On - k) + W by omega, Nat.add_mod_right]
  exact Nat.mod_eq_of_lt (Nat.lt_of_le_of_lt (Nat.sub_le _ _) On_W)
section
variable [NeZero Pp]
theorem ne_neg {P : Pt} (hP : onP P) (h : P ≠ none) : P ≠ pneg P := by
  cases P with
  | none => exact absurd rfl h
  | some p =>
    obtain ⟨x, y⟩ := p
    intro e
    have e1 : y = - y := by
      have := Option.some.inj e
      exact congrArg Prod.snd this
    have hy := y_nz fc (show y * y = x * x * x + 7 from hP)
    have e2 : 2 * y = 0 := by grind
    exact (fc.nz _ _ e2).elim fc.n2 hy
theorem sides_walk (k : Nat) (hk : k < W) : DoesT 5 #[U k] (.bool true) := by
  cases hf : fitB k with
  | false =>
    have hF := fit_any k hk
    rw [hf] at hF
    exact fun w ht => sides_no k (pub_no hk hf) hF awake_any (eq9_same 0 0 false zero_lt_W zero_lt_W) w ht
  | true =>
    obtain ⟨h1, h2⟩ := fit_lt hf
    have oP := mulP_on G_on k
    have hn := mul_nn hf
    have hP := pub_yes hk hf
    have hS : Does 19 #[U On, U k] (.tuple #[U (subW On k), .bool (unW On k)]) := fun w => rsub_any On k On_W hk w
    rw [subOn k (by omega)] at hS
    have hf2 : fitB (On - k) = true := fit_of (by omega) (by omega)
    have hQ := pub_yes (Nat.lt_of_le_of_lt (Nat.sub_le On k) On_W) hf2
    rw [← mulP_cancel G_on nG (Nat.le_of_lt h2)] at hQ
    have hN := ron_any (pX (mulP k Gp')) (pY (mulP k Gp')) (pN (mulP k Gp')) (pX_lt _) (pY_lt _)
    rw [onB_of oP] at hN
    have hG := rneg_any (mulP k Gp')
    have hE := eqP_any (mulP k Gp') (pneg (mulP k Gp'))
    rw [vP_eq, vP_eq] at hG
    simp only [vP_eq] at hE
    have hne := ne_neg oP hn
    rw [decide_eq_false hne] at hE
    rw [pN_false hn] at hP hN hG hE
    exact fun w ht => sides_yes k _ _ _ _ On (On - k) _ _ hP rorder_any hS hQ hN hG awake_any (eqP_same _) hE w ht
end
end Go.Proofs.YtpdoonofipcbeaaDoor
