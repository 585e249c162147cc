/- Out of Vs. -/
import Derived.Test.YtceedgdbhlpjlaaGreatDoorKqVo
import Derived.Test.YtceedgdbhlpjlaaGreatDoorKqUa
namespace Go.Proofs.YtceedgdbhlpjlaaGreatDoor
open Go.RowKit Go.Sort Tryz
set_option linter.unusedVariables false
set_option maxRecDepth 100000
set_option maxHeartbeats 4000000
theorem call_run{f : Nat}{fn : Func}{o : Oper}{xs : Array Operand}{ts : Array TypeId}{a : Act}(hop : o.op = .call ⟨.value (.func f), xs, ts⟩)(hf : prog.funcs[f]? = some fn)(w : World)(hb : fn.body.isNone = false := by kernel_rfl)(hn : (fn.name == "runtime.NumGoroutine") = false := by kernel_rfl) : (execOp a.eval o).run prog w = .ok (.enter f (xs.map a.eval)) w := by
 have h:=fv_any (P:=prog) (a:=a) hf hb hn (x:=.func f) (cs:=#[]) rfl xs ts o.type w;rw[Array.append_empty]at h;unfold execOp;simp only[hop];exact h
end Go.Proofs.YtceedgdbhlpjlaaGreatDoor
