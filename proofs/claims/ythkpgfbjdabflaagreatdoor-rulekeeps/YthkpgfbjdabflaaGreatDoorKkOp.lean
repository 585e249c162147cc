/- Out of Op. -/
import Derived.Test.YthkpgfbjdabflaaGreatDoorRows
import Derived.Test.YthkpgfbjdabflaaGreatDoorKkNv
import Derived.ProofKit
import Derived.OpenShut
import Derived.Below
namespace Go.Proofs.YthkpgfbjdabflaaGreatDoor
open Go.RowKit Go.Proofs.Tryz
set_option linter.unusedVariables false
set_option maxRecDepth 100000
set_option maxHeartbeats 4000000
section
open Go.ChangeShapes Go.WideShapes Go.ChangeAt Go.RowKit
theorem own:ownKnob prog.godebug=none:=by kernel_rfl
theorem cellsA22:prog.cellsOf 23=1:=by kernel_rfl
theorem wf_u64{a:Int}(h:(Lit.int .u64 a).wf=true):∃ k:Nat,a=k∧k<M:=by
 have hx:0≤a∧a≤18446744073709551615:=by simpa [Lit.wf,IntKind.min,IntKind.max,IntKind.signed,IntKind.bits]using h
 exact⟨a.toNat,by omega,by unfold M;omega⟩
end
end Go.Proofs.YthkpgfbjdabflaaGreatDoor
