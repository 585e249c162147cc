/- Small facts on single operations of this program. -/
import Derived.Test.YthbindnkichimaaXlAz
import Derived.WalkSmall
import Derived.Deep.Light
namespace Go.Proofs.Ythbindnkichimaa
open Go.RowKit Go.Sort
set_option linter.unusedVariables false
theorem fc59 (xs : Array Operand) (ts : Array TypeId) (a : Act) (ty : TypeId) (w : World) : (do let d ← resolve a.eval { callee := .value (.func 59), args := xs, argTypes := ts } ty; invoke d.target d.args : Sem Next).run Try.prog w = .ok (.enter 59 (xs.map a.eval)) w := by
  simp [go_sem]
theorem fc33 (xs : Array Operand) (ts : Array TypeId) (a : Act) (ty : TypeId) (w : World) : (do let d ← resolve a.eval { callee := .value (.func 33), args := xs, argTypes := ts } ty; invoke d.target d.args : Sem Next).run Try.prog w = .ok (.enter 33 (xs.map a.eval)) w := by
  simp [go_sem]
theorem bdk4294968273 (w : World) : (Instr.build 24 #[(0, .int .u64 4294968273), (1, .int .u64 0), (2, .int .u64 0), (3, .int .u64 0)]).run Try.prog w = .ok (U 4294968273) w := by simp [go_sem, l0, l1, l2, l3, M]
theorem fc13 (xs : Array Operand) (ts : Array TypeId) (a : Act) (ty : TypeId) (w : World) : (do let d ← resolve a.eval { callee := .value (.func 13), args := xs, argTypes := ts } ty; invoke d.target d.args : Sem Next).run Try.prog w = .ok (.enter 13 (xs.map a.eval)) w := by
  simp [go_sem]
theorem fc61 (xs : Array Operand) (ts : Array TypeId) (a : Act) (ty : TypeId) (w : World) : (do let d ← resolve a.eval { callee := .value (.func 61), args := xs, argTypes := ts } ty; invoke d.target d.args : Sem Next).run Try.prog w = .ok (.enter 61 (xs.map a.eval)) w := by
  simp [go_sem]
theorem fc37 (xs : Array Operand) (ts : Array TypeId) (a : Act) (ty : TypeId) (w : World) : (do let d ← resolve a.eval { callee := .value (.func 37), args := xs, argTypes := ts } ty; invoke d.target d.args : Sem Next).run Try.prog w = .ok (.enter 37 (xs.map a.eval)) w := by
  simp [go_sem]
theorem bdk7 (w : World) : (Instr.build 24 #[(0, .int .u64 7), (1, .int .u64 0), (2, .int .u64 0), (3, .int .u64 0)]).run Try.prog w = .ok (U 7) w := by simp [go_sem, l0, l1, l2, l3, M]
theorem fc58 (xs : Array Operand) (ts : Array TypeId) (a : Act) (ty : TypeId) (w : World) : (do let d ← resolve a.eval { callee := .value (.func 58), args := xs, argTypes := ts } ty; invoke d.target d.args : Sem Next).run Try.prog w = .ok (.enter 58 (xs.map a.eval)) w := by
  simp [go_sem]
theorem fc32 (xs : Array Operand) (ts : Array TypeId) (a : Act) (ty : TypeId) (w : World) : (do let d ← resolve a.eval { callee := .value (.func 32), args := xs, argTypes := ts } ty; invoke d.target d.args : Sem Next).run Try.prog w = .ok (.enter 32 (xs.map a.eval)) w := by
  simp [go_sem]
theorem fc35 (xs : Array Operand) (ts : Array TypeId) (a : Act) (ty : TypeId) (w : World) : (do let d ← resolve a.eval { callee := .value (.func 35), args := xs, argTypes := ts } ty; invoke d.target d.args : Sem Next).run Try.prog w = .ok (.enter 35 (xs.map a.eval)) w := by
  simp [go_sem]
end Go.Proofs.Ythbindnkichimaa
