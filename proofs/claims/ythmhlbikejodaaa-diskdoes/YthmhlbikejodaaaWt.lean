/- Contracts of the functions of layer 1 that work part by part: what each hands back, and that nothing that was there is changed. -/
import Derived.Test.YthmhlbikejodaaaProg
import Derived.Test.YthmhlbikejodaaaNum
import Derived.WalkKit
import Derived.BigRegion
namespace Go.Proofs.Ythmhlbikejodaaa
open Go.RowKit
set_option linter.unusedVariables false
abbrev B (x : Nat) : Value := .int .u64 (x : Int)
abbrev U4 (a b c d : Nat) : Value := .agg #[B a, B b, B c, B d]
abbrev I4 (a b c d : Int) : Value := .agg #[.int .u64 a, .int .u64 b, .int .u64 c, .int .u64 d]
abbrev U (n : Nat) : Value := U4 (l0 n) (l1 n) (l2 n) (l3 n)

end Go.Proofs.Ythmhlbikejodaaa
