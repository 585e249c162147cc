/- Contracts of the functions of layer 1 that work part by part: what each hands back, and that nothing that was there is changed. -/
import Derived.Test.YtjjiendgmnlokaaDoorProg
import Derived.Test.YtjjiendgmnlokaaDoorKdNum
import Derived.WalkKit
import Derived.BigRegion
namespace Go.Proofs.YtjjiendgmnlokaaDoor
open Go.RowKit
set_option linter.unusedVariables false
abbrev B (x : Nat) : Value := .int .u64 (x : Int)
abbrev U4 (a b c d : Nat) : Value := .agg #[B a, B b, B c, B d]
abbrev I4 (a b c d : Int) : Value := .agg #[.int .u64 a, .int .u64 b, .int .u64 c, .int .u64 d]
abbrev U (n : Nat) : Value := U4 (l0 n) (l1 n) (l2 n) (l3 n)

set_option maxHeartbeats 400000 in
theorem of_raw (a : Nat) (w : World) : Calls Tryd.prog 53 #[B a] w fun e w' => e = .returned (I4 a 0 0 0) ∧ Below w.heap.size w w' := by
  go_enter Tryd.func53, Tryd.ntmps53
  go_wp2
  exact bodyPost_ret (v := I4 a 0 0 0) (by simp [results, Tryd.results53, go_sem]) rfl ⟨rfl, (by repeat (first | exact Below.refl _ _ | apply Below.drew | refine Below.alloc ?_ (by simp; try omega) _))⟩

end Go.Proofs.YtjjiendgmnlokaaDoor
