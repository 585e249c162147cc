/- Small facts on single operations of this program. Small facts on single operations of this program. Small facts on single operations of this program. Small facts on single operations of this program; contracts that ask for the tables. -/
import Derived.Test.YtpdoonofipcbeaaDoorXsBa
import Derived.WalkSmall
import Derived.Deep.Light
import Derived.Test.YtpdoonofipcbeaaDoorXsMI
namespace Go.Proofs.YtpdoonofipcbeaaDoor
open Go.RowKit Go.Sort
set_option linter.unusedVariables false
theorem fc70 (xs : Array Operand) (ts : Array TypeId) (a : Act) (ty : TypeId) (w : World) : (do let d ← resolve a.eval { callee := .value (.func 70), args := xs, argTypes := ts } ty; invoke d.target d.args : Sem Next).run Tryd.prog w = .ok (.enter 70 (xs.map a.eval)) w := by
  simp [go_sem]
theorem fc71 (xs : Array Operand) (ts : Array TypeId) (a : Act) (ty : TypeId) (w : World) : (do let d ← resolve a.eval { callee := .value (.func 71), args := xs, argTypes := ts } ty; invoke d.target d.args : Sem Next).run Tryd.prog w = .ok (.enter 71 (xs.map a.eval)) w := by
  simp [go_sem]
theorem fc50 (xs : Array Operand) (ts : Array TypeId) (a : Act) (ty : TypeId) (w : World) : (do let d ← resolve a.eval { callee := .value (.func 50), args := xs, argTypes := ts } ty; invoke d.target d.args : Sem Next).run Tryd.prog w = .ok (.enter 50 (xs.map a.eval)) w := by
  simp [go_sem]
theorem fc52 (xs : Array Operand) (ts : Array TypeId) (a : Act) (ty : TypeId) (w : World) : (do let d ← resolve a.eval { callee := .value (.func 52), args := xs, argTypes := ts } ty; invoke d.target d.args : Sem Next).run Tryd.prog w = .ok (.enter 52 (xs.map a.eval)) w := by
  simp [go_sem]
end Go.Proofs.YtpdoonofipcbeaaDoor
namespace Go.Proofs.YtpdoonofipcbeaaDoor
open Go.RowKit Go.Sort
set_option linter.unusedVariables false
theorem fc24 (xs : Array Operand) (ts : Array TypeId) (a : Act) (ty : TypeId) (w : World) : (do let d ← resolve a.eval { callee := .value (.func 24), args := xs, argTypes := ts } ty; invoke d.target d.args : Sem Next).run Tryd.prog w = .ok (.enter 24 (xs.map a.eval)) w := by
  simp [go_sem]
end Go.Proofs.YtpdoonofipcbeaaDoor
namespace Go.Proofs.YtpdoonofipcbeaaDoor
open Go.RowKit Go.Sort
set_option linter.unusedVariables false
theorem fc26 (xs : Array Operand) (ts : Array TypeId) (a : Act) (ty : TypeId) (w : World) : (do let d ← resolve a.eval { callee := .value (.func 26), args := xs, argTypes := ts } ty; invoke d.target d.args : Sem Next).run Tryd.prog w = .ok (.enter 26 (xs.map a.eval)) w := by
  simp [go_sem]
theorem bd24_0i (x0 : Int) (w : World) : (Instr.build 24 #[(0, .int .u64 x0)]).run Tryd.prog w = .ok (.agg #[.int .u64 x0, .int .u64 0, .int .u64 0, .int .u64 0]) w := by simp [go_sem]
theorem fc25 (xs : Array Operand) (ts : Array TypeId) (a : Act) (ty : TypeId) (w : World) : (do let d ← resolve a.eval { callee := .value (.func 25), args := xs, argTypes := ts } ty; invoke d.target d.args : Sem Next).run Tryd.prog w = .ok (.enter 25 (xs.map a.eval)) w := by
  simp [go_sem]
theorem fc20 (xs : Array Operand) (ts : Array TypeId) (a : Act) (ty : TypeId) (w : World) : (do let d ← resolve a.eval { callee := .value (.func 20), args := xs, argTypes := ts } ty; invoke d.target d.args : Sem Next).run Tryd.prog w = .ok (.enter 20 (xs.map a.eval)) w := by
  simp [go_sem]
end Go.Proofs.YtpdoonofipcbeaaDoor
namespace Go.Proofs.YtpdoonofipcbeaaDoor
open Go.RowKit Go.Sort
set_option linter.unusedVariables false
theorem fc11 (xs : Array Operand) (ts : Array TypeId) (a : Act) (ty : TypeId) (w : World) : (do let d ← resolve a.eval { callee := .value (.func 11), args := xs, argTypes := ts } ty; invoke d.target d.args : Sem Next).run Tryd.prog w = .ok (.enter 11 (xs.map a.eval)) w := by
  simp [go_sem]
theorem fc39 (xs : Array Operand) (ts : Array TypeId) (a : Act) (ty : TypeId) (w : World) : (do let d ← resolve a.eval { callee := .value (.func 39), args := xs, argTypes := ts } ty; invoke d.target d.args : Sem Next).run Tryd.prog w = .ok (.enter 39 (xs.map a.eval)) w := by
  simp [go_sem]
theorem fc38 (xs : Array Operand) (ts : Array TypeId) (a : Act) (ty : TypeId) (w : World) : (do let d ← resolve a.eval { callee := .value (.func 38), args := xs, argTypes := ts } ty; invoke d.target d.args : Sem Next).run Tryd.prog w = .ok (.enter 38 (xs.map a.eval)) w := by
  simp [go_sem]
theorem fc7 (xs : Array Operand) (ts : Array TypeId) (a : Act) (ty : TypeId) (w : World) : (do let d ← resolve a.eval { callee := .value (.func 7), args := xs, argTypes := ts } ty; invoke d.target d.args : Sem Next).run Tryd.prog w = .ok (.enter 7 (xs.map a.eval)) w := by
  simp [go_sem]
theorem fc16 (xs : Array Operand) (ts : Array TypeId) (a : Act) (ty : TypeId) (w : World) : (do let d ← resolve a.eval { callee := .value (.func 16), args := xs, argTypes := ts } ty; invoke d.target d.args : Sem Next).run Tryd.prog w = .ok (.enter 16 (xs.map a.eval)) w := by
  simp [go_sem]
theorem fc9 (xs : Array Operand) (ts : Array TypeId) (a : Act) (ty : TypeId) (w : World) : (do let d ← resolve a.eval { callee := .value (.func 9), args := xs, argTypes := ts } ty; invoke d.target d.args : Sem Next).run Tryd.prog w = .ok (.enter 9 (xs.map a.eval)) w := by
  simp [go_sem]
theorem fc13 (xs : Array Operand) (ts : Array TypeId) (a : Act) (ty : TypeId) (w : World) : (do let d ← resolve a.eval { callee := .value (.func 13), args := xs, argTypes := ts } ty; invoke d.target d.args : Sem Next).run Tryd.prog w = .ok (.enter 13 (xs.map a.eval)) w := by
  simp [go_sem]
theorem fc18 (xs : Array Operand) (ts : Array TypeId) (a : Act) (ty : TypeId) (w : World) : (do let d ← resolve a.eval { callee := .value (.func 18), args := xs, argTypes := ts } ty; invoke d.target d.args : Sem Next).run Tryd.prog w = .ok (.enter 18 (xs.map a.eval)) w := by
  simp [go_sem]
/-- What a call does where the tables lie. -/
abbrev DoesT (f : Nat) (args : Array Value) (v : Value) : Prop := Hid (∀ w, Tabs w ki → Calls Tryd.prog f args w fun e w' => e = .returned v ∧ Below w.heap.size w w')
theorem tbl {f : Nat} {args : Array Value} {v : Value} (h : DoesT f args v) {w : World} (hT : Tabs w ki) {w' : World} (hb : Below w.heap.size w w') (_ : World) : Calls Tryd.prog f args w' fun e w'' => e = .returned v ∧ Below w'.heap.size w' w'' := h.out w' (hT.below hb)
end Go.Proofs.YtpdoonofipcbeaaDoor
