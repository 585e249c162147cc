/- Wide, told by numbers; Mul. -/
import Derived.Test.YtbfgeinneglpdaaWd
namespace Go.Proofs.Ytbfgeinneglpdaa
open Go.RowKit Go.Sort
set_option linter.unusedVariables false
theorem vl_shift (f : Nat → Nat) (k : Nat) : ∀ n, vl (fun i => f (k + i)) 0 n = vl f k n
  | 0 => rfl
  | n + 1 => by rw [vl, vl, vl_shift f k n, Nat.zero_add]
end Go.Proofs.Ytbfgeinneglpdaa
