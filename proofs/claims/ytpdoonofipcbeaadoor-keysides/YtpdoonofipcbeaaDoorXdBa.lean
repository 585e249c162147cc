/- Small facts on single operations of this program. -/
import Derived.Test.YtpdoonofipcbeaaDoorXdAz
import Derived.WalkSmall
import Derived.Deep.Light
namespace Go.Proofs.YtpdoonofipcbeaaDoor
open Go.RowKit Go.Sort
set_option linter.unusedVariables false
theorem fc56 (xs : Array Operand) (ts : Array TypeId) (a : Act) (ty : TypeId) (w : World) : (do let d ← resolve a.eval { callee := .value (.func 56), args := xs, argTypes := ts } ty; invoke d.target d.args : Sem Next).run Tryd.prog w = .ok (.enter 56 (xs.map a.eval)) w := by
  simp [go_sem]
theorem fc22 (xs : Array Operand) (ts : Array TypeId) (a : Act) (ty : TypeId) (w : World) : (do let d ← resolve a.eval { callee := .value (.func 22), args := xs, argTypes := ts } ty; invoke d.target d.args : Sem Next).run Tryd.prog w = .ok (.enter 22 (xs.map a.eval)) w := by
  simp [go_sem]
theorem bdk4294968273 (w : World) : (Instr.build 24 #[(0, .int .u64 4294968273), (1, .int .u64 0), (2, .int .u64 0), (3, .int .u64 0)]).run Tryd.prog w = .ok (U 4294968273) w := by simp [go_sem, l0, l1, l2, l3, M]
theorem fc35 (xs : Array Operand) (ts : Array TypeId) (a : Act) (ty : TypeId) (w : World) : (do let d ← resolve a.eval { callee := .value (.func 35), args := xs, argTypes := ts } ty; invoke d.target d.args : Sem Next).run Tryd.prog w = .ok (.enter 35 (xs.map a.eval)) w := by
  simp [go_sem]
theorem fc19 (xs : Array Operand) (ts : Array TypeId) (a : Act) (ty : TypeId) (w : World) : (do let d ← resolve a.eval { callee := .value (.func 19), args := xs, argTypes := ts } ty; invoke d.target d.args : Sem Next).run Tryd.prog w = .ok (.enter 19 (xs.map a.eval)) w := by
  simp [go_sem]
theorem fc36 (xs : Array Operand) (ts : Array TypeId) (a : Act) (ty : TypeId) (w : World) : (do let d ← resolve a.eval { callee := .value (.func 36), args := xs, argTypes := ts } ty; invoke d.target d.args : Sem Next).run Tryd.prog w = .ok (.enter 36 (xs.map a.eval)) w := by
  simp [go_sem]
theorem bdk7 (w : World) : (Instr.build 24 #[(0, .int .u64 7), (1, .int .u64 0), (2, .int .u64 0), (3, .int .u64 0)]).run Tryd.prog w = .ok (U 7) w := by simp [go_sem, l0, l1, l2, l3, M]
theorem fc58 (xs : Array Operand) (ts : Array TypeId) (a : Act) (ty : TypeId) (w : World) : (do let d ← resolve a.eval { callee := .value (.func 58), args := xs, argTypes := ts } ty; invoke d.target d.args : Sem Next).run Tryd.prog w = .ok (.enter 58 (xs.map a.eval)) w := by
  simp [go_sem]
theorem fc23 (xs : Array Operand) (ts : Array TypeId) (a : Act) (ty : TypeId) (w : World) : (do let d ← resolve a.eval { callee := .value (.func 23), args := xs, argTypes := ts } ty; invoke d.target d.args : Sem Next).run Tryd.prog w = .ok (.enter 23 (xs.map a.eval)) w := by
  simp [go_sem]
theorem fc37 (xs : Array Operand) (ts : Array TypeId) (a : Act) (ty : TypeId) (w : World) : (do let d ← resolve a.eval { callee := .value (.func 37), args := xs, argTypes := ts } ty; invoke d.target d.args : Sem Next).run Tryd.prog w = .ok (.enter 37 (xs.map a.eval)) w := by
  simp [go_sem]
theorem fc43 (xs : Array Operand) (ts : Array TypeId) (a : Act) (ty : TypeId) (w : World) : (do let d ← resolve a.eval { callee := .value (.func 43), args := xs, argTypes := ts } ty; invoke d.target d.args : Sem Next).run Tryd.prog w = .ok (.enter 43 (xs.map a.eval)) w := by
  simp [go_sem]
end Go.Proofs.YtpdoonofipcbeaaDoor
