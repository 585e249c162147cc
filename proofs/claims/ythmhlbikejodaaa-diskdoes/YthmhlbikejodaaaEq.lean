/- The comparison of two numbers of four parts. -/
import Derived.Test.YthmhlbikejodaaaWt
import Derived.ChangeKeysEq
namespace Go.Proofs.Ythmhlbikejodaaa
open Go.RowKit

theorem parts_inj (n m : Nat) (hn : n < W) (hm : m < W) (h0 : l0 n = l0 m) (h1 : l1 n = l1 m) (h2 : l2 n = l2 m) (h3 : l3 n = l3 m) : n = m := by
  rw [← mk_parts n hn, ← mk_parts m hm, h0, h1, h2, h3]
end Go.Proofs.Ythmhlbikejodaaa
