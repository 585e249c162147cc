/- Contracts of the comparisons of layer 1. -/
import Derived.Test.YtdiblfgnnliifaaWt
namespace Go.Proofs.Ytdiblfgnnliifaa
open Go.RowKit
def cmp4 (a0 a1 a2 a3 b0 b1 b2 b3 : Nat) : Int :=
  if a3 < b3 then -1 else if b3 < a3 then 1 else if a2 < b2 then -1 else if b2 < a2 then 1 else if a1 < b1 then -1 else if b1 < a1 then 1 else if a0 < b0 then -1 else if b0 < a0 then 1 else 0

end Go.Proofs.Ytdiblfgnnliifaa
