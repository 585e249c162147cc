/- Arguments that are numbers of four parts, read as data: opened and shut again. -/
import Derived.Test.YtdlanihbpbfbcaaDoorRows
import Derived.Test.YtdlanihbpbfbcaaDoorWt
import Derived.ProofKit
import Derived.OpenShut
import Derived.Below
namespace Go.Proofs.YtdlanihbpbfbcaaDoor
open Go.ChangeShapes Go.WideShapes Go.ChangeAt Go.RowKit

theorem ownKn : ownKnob Tryd.prog.godebug = none := by kernel_rfl
/-- A number as data. -/
def DwN {H : Type} (n : Nat) : DataW H := .agg [.lit (.int .u64 (l0 n)), .lit (.int .u64 (l1 n)), .lit (.int .u64 (l2 n)), .lit (.int .u64 (l3 n))]

theorem wf_u64 {a : Int} (h : (Lit.int .u64 a).wf = true) : ∃ k : Nat, a = k ∧ k < M := by
  have hx : 0 ≤ a ∧ a ≤ 18446744073709551615 := by simpa [Lit.wf, IntKind.min, IntKind.max, IntKind.signed, IntKind.bits] using h
  exact ⟨a.toNat, by omega, by unfold M; omega⟩
theorem u64_wf (k : Nat) (h : k < M) : (Lit.int .u64 (k : Int)).wf = true := by
  unfold M at h
  have hx : (0 : Int) ≤ (k : Int) ∧ (k : Int) ≤ 18446744073709551615 := by omega
  simpa [Lit.wf, IntKind.min, IntKind.max, IntKind.signed, IntKind.bits] using hx

end Go.Proofs.YtdlanihbpbfbcaaDoor
