/- Contracts of the document's numbers by the prime, told by numbers. -/
import Derived.Test.YtpdoonofipcbeaaDoorXmFn
import Derived.Test.YtpdoonofipcbeaaDoorXmAz
import Derived.WalkSmall
import Derived.Deep.Light
import Derived.Test.YtpdoonofipcbeaaDoorXmQa
import Derived.Test.YtpdoonofipcbeaaDoorXmMB
import Derived.Test.YtpdoonofipcbeaaDoorXmEq
import Derived.Deep.Cut
import Derived.Test.YtpdoonofipcbeaaDoorXmFb
namespace Go.Proofs.YtpdoonofipcbeaaDoor
open Go.RowKit Go.Sort
set_option linter.unusedVariables false
theorem U_Pp : (.agg #[.int .u64 18446744069414583343, .int .u64 18446744073709551615, .int .u64 18446744073709551615, .int .u64 18446744073709551615] : Value) = U Pp := by
  have h0 : l0 Pp = 18446744069414583343 := by decide +kernel
  have h1 : l1 Pp = 18446744073709551615 := by decide +kernel
  have h2 : l2 Pp = 18446744073709551615 := by decide +kernel
  have h3 : l3 Pp = 18446744073709551615 := by decide +kernel
  unfold U U4
  rw [h0, h1, h2, h3]
  rfl
theorem prime_any : Does 83 #[] (U Pp) := by rw [← U_Pp]; exact fun w => prime_raw w
end Go.Proofs.YtpdoonofipcbeaaDoor
