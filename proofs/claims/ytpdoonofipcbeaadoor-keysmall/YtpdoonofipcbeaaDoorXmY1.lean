/- The law KeySmall, walked for every input. -/
import Derived.Test.YtpdoonofipcbeaaDoorXmMK
namespace Go.Proofs.YtpdoonofipcbeaaDoor
open Go.RowKit Go.Sort
set_option linter.unusedVariables false
section
variable [NeZero Pp]
theorem small_walk (n : Nat) (h : n < M) : DoesT 4 #[B n] (.bool true) := by
  have hW1 : n + 1 < W := by have := M1_W; omega
  have hf := fit_small n h
  have hF := fit_any (n + 1) hW1
  rw [hf] at hF
  have hK := who_any (n + 1) hW1
  have e : pubE (n + 1) = 0 := by unfold pubE; rw [hf]; rfl
  have e2 : whoS (n + 1) = adr (pX (mulP (n + 1) Gp')) (pY (mulP (n + 1) Gp')) false := by
    unfold whoS
    rw [if_pos hf, pN_false (mul_nn hf)]
  rw [e, e2] at hK
  exact fun w ht => ksmall n (n + 1) _ (by rw [adr_size]; rfl) (small_any n h) hK hF awake_any (fun w => by rw [run_eqU _ _ hW1 zero_lt_W]; simp) w ht
end
end Go.Proofs.YtpdoonofipcbeaaDoor
