import Derived.Test.YtdlanihbpbfbcaaDoorProg
import Derived.Test.YtdlanihbpbfbcaaDoorNum
import Derived.WalkKit
import Derived.BigRegion
import Derived.ChangeKeysEq
/- Contracts of the functions of layer 1 that work part by part: what each hands back, and that nothing that was there is changed. -/
namespace Go.Proofs.YtdlanihbpbfbcaaDoor
open Go.RowKit
set_option linter.unusedVariables false
abbrev B (x : Nat) : Value := .int .u64 (x : Int)
abbrev U4 (a b c d : Nat) : Value := .agg #[B a, B b, B c, B d]
abbrev I4 (a b c d : Int) : Value := .agg #[.int .u64 a, .int .u64 b, .int .u64 c, .int .u64 d]
abbrev U (n : Nat) : Value := U4 (l0 n) (l1 n) (l2 n) (l3 n)

end Go.Proofs.YtdlanihbpbfbcaaDoor
/- Contracts of the comparisons of layer 1. -/
namespace Go.Proofs.YtdlanihbpbfbcaaDoor
open Go.RowKit
def cmp4 (a0 a1 a2 a3 b0 b1 b2 b3 : Nat) : Int :=
  if a3 < b3 then -1 else if b3 < a3 then 1 else if a2 < b2 then -1 else if b2 < a2 then 1 else if a1 < b1 then -1 else if b1 < a1 then 1 else if a0 < b0 then -1 else if b0 < a0 then 1 else 0

end Go.Proofs.YtdlanihbpbfbcaaDoor
/- The comparison of two numbers of four parts. -/
namespace Go.Proofs.YtdlanihbpbfbcaaDoor
open Go.RowKit

theorem parts_inj (n m : Nat) (hn : n < W) (hm : m < W) (h0 : l0 n = l0 m) (h1 : l1 n = l1 m) (h2 : l2 n = l2 m) (h3 : l3 n = l3 m) : n = m := by
  rw [← mk_parts n hn, ← mk_parts m hm, h0, h1, h2, h3]
end Go.Proofs.YtdlanihbpbfbcaaDoor
