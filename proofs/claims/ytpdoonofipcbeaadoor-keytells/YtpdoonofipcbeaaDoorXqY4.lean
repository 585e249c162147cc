/- The law KeyTells, walked for every input. -/
import Derived.Test.YtpdoonofipcbeaaDoorXqMK
import Derived.Test.YtpdoonofipcbeaaDoorXqKt
namespace Go.Proofs.YtpdoonofipcbeaaDoor
open Go.RowKit Go.Sort
set_option linter.unusedVariables false
section
variable [NeZero Pp]
theorem pubX_lt (k : Nat) : pubX k < W := by unfold pubX; split; exact pX_lt _; exact zero_lt_W
theorem pubY_lt (k : Nat) : pubY k < W := by unfold pubY; split; exact pY_lt _; exact zero_lt_W
theorem tells_walk (k n px py : Nat) (pn : Bool) (hk : k < W) (hn : n < M) (h1 : px < W) (h2 : py < W) : DoesT 3 #[U k, B n, A9 px py pn] (.bool true) := by
  have hO := ron_any px py pn h1 h2
  have hE0 := eq9_same _ _ (pubN k) (pubX_lt k) (pubY_lt k)
  have hE1 := fun w => run_eqU_same (n + 1) w
  cases ho : onB px py pn with
  | false =>
    rw [ho] at hO
    exact fun w ht => tells_a k n (n + 1) _ _ px py _ pn _ _ { data := #[] } _ _ (pub_any k hk) (rpub_any k hk) (who_any k hk) (rwho_any k hk) (fit_any k hk) (rfit_any k hk) (small_any n hn) (rsmall_any n hn) hO awake_any hE0 hE1 w ht
  | true =>
    rw [ho] at hO
    exact fun w ht => tells_b k n (n + 1) _ _ px py _ pn _ _ _ _ _ (pub_any k hk) (rpub_any k hk) (who_any k hk) (rwho_any k hk) (fit_any k hk) (rfit_any k hk) (small_any n hn) (rsmall_any n hn) hO (addr_any px py pn) (raddr_any px py pn) awake_any hE0 hE1 w ht
end
end Go.Proofs.YtpdoonofipcbeaaDoor
