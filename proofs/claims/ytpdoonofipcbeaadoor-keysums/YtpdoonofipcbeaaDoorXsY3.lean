/- The law KeySums, walked for every input. -/
import Derived.Test.YtpdoonofipcbeaaDoorXsMK
import Derived.Test.YtpdoonofipcbeaaDoorXsKe
namespace Go.Proofs.YtpdoonofipcbeaaDoor
open Go.RowKit Go.Sort
set_option linter.unusedVariables false
section
variable [NeZero Pp]
theorem sums_walk (n k : Nat) (h : n < M) (hk : k < W) : DoesT 6 #[B n, U k] (.bool true) := by
  have hm : n + 1 < W := by have := M1_W; omega
  have hS := small_any n h
  have hQ := pub_yes hm (fit_small n h)
  have hA : Does 22 #[U k, U (n + 1)] (.tuple #[U (addW k (n + 1)), .bool (ovW k (n + 1))]) := fun w => radd_any k (n + 1) hk hm w
  cases hf : fitB k with
  | false => exact fun w ht => sums_a n k (n + 1) _ 0 0 0 _ _ 0 0 false _ false _ (pub_no hk hf) hS hQ hA awake_any w ht
  | true =>
    obtain ⟨h1, h2⟩ := fit_lt hf
    have hP := pub_yes hk hf
    cases ho : ovW k (n + 1) with
    | true =>
      rw [ho] at hA
      exact fun w ht => sums_b n k (n + 1) _ 0 _ _ _ _ 0 0 _ _ false true hP hS hQ hA awake_any w ht
    | false =>
      rw [ho] at hA
      have hs : k + (n + 1) < W := by
        unfold ovW at ho
        have := of_decide_eq_false ho
        omega
      have es : addW k (n + 1) = k + (n + 1) := Nat.mod_eq_of_lt hs
      rw [es] at hA
      have hC : Does 23 #[U (k + (n + 1)), U On] (.int .i64 (cmpN (k + (n + 1)) On)) := fun w => rcmp_any _ On hs On_W w
      by_cases hb : k + (n + 1) < On
      · have hR := pub_yes hs (fit_of (by omega) hb)
        have hD := raddP_any (mulP_on G_on k) (mulP_on G_on (n + 1))
        rw [← mulP_add G_on] at hD
        rw [vP_eq, vP_eq, vP_eq] at hD
        have hz : ¬ 0 ≤ cmpN (k + (n + 1)) On := by have := (cmp_neg_iff (k + (n + 1)) On).2 hb; omega
        exact fun w ht => sums_d n k (n + 1) _ On _ _ _ _ _ _ _ _ _ false _ hz hP hS hQ hA rorder_any hC hR hD awake_any (eqP_same _) w ht
      · have hz : 0 ≤ cmpN (k + (n + 1)) On := Decidable.byContradiction fun q => hb ((cmp_neg_iff _ _).1 (by omega))
        exact fun w ht => sums_c n k (n + 1) _ On _ _ _ _ 0 0 _ _ false false _ hz hP hS hQ hA rorder_any hC awake_any w ht
end
end Go.Proofs.YtpdoonofipcbeaaDoor
