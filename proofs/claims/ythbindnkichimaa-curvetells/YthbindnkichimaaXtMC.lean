/- Small facts on single operations of this program. Small facts on single operations of this program. Small facts on single operations of this program. -/
import Derived.Test.YthbindnkichimaaXtBa
import Derived.WalkSmall
import Derived.Deep.Light
namespace Go.Proofs.Ythbindnkichimaa
open Go.RowKit Go.Sort
set_option linter.unusedVariables false
theorem fc68 (xs : Array Operand) (ts : Array TypeId) (a : Act) (ty : TypeId) (w : World) : (do let d ← resolve a.eval { callee := .value (.func 68), args := xs, argTypes := ts } ty; invoke d.target d.args : Sem Next).run Try.prog w = .ok (.enter 68 (xs.map a.eval)) w := by
  simp [go_sem]
theorem fc69 (xs : Array Operand) (ts : Array TypeId) (a : Act) (ty : TypeId) (w : World) : (do let d ← resolve a.eval { callee := .value (.func 69), args := xs, argTypes := ts } ty; invoke d.target d.args : Sem Next).run Try.prog w = .ok (.enter 69 (xs.map a.eval)) w := by
  simp [go_sem]
theorem fc47 (xs : Array Operand) (ts : Array TypeId) (a : Act) (ty : TypeId) (w : World) : (do let d ← resolve a.eval { callee := .value (.func 47), args := xs, argTypes := ts } ty; invoke d.target d.args : Sem Next).run Try.prog w = .ok (.enter 47 (xs.map a.eval)) w := by
  simp [go_sem]
theorem fc49 (xs : Array Operand) (ts : Array TypeId) (a : Act) (ty : TypeId) (w : World) : (do let d ← resolve a.eval { callee := .value (.func 49), args := xs, argTypes := ts } ty; invoke d.target d.args : Sem Next).run Try.prog w = .ok (.enter 49 (xs.map a.eval)) w := by
  simp [go_sem]
end Go.Proofs.Ythbindnkichimaa
namespace Go.Proofs.Ythbindnkichimaa
open Go.RowKit Go.Sort
set_option linter.unusedVariables false
theorem fc22 (xs : Array Operand) (ts : Array TypeId) (a : Act) (ty : TypeId) (w : World) : (do let d ← resolve a.eval { callee := .value (.func 22), args := xs, argTypes := ts } ty; invoke d.target d.args : Sem Next).run Try.prog w = .ok (.enter 22 (xs.map a.eval)) w := by
  simp [go_sem]
end Go.Proofs.Ythbindnkichimaa
namespace Go.Proofs.Ythbindnkichimaa
open Go.RowKit Go.Sort
set_option linter.unusedVariables false
theorem fc16 (xs : Array Operand) (ts : Array TypeId) (a : Act) (ty : TypeId) (w : World) : (do let d ← resolve a.eval { callee := .value (.func 16), args := xs, argTypes := ts } ty; invoke d.target d.args : Sem Next).run Try.prog w = .ok (.enter 16 (xs.map a.eval)) w := by
  simp [go_sem]
theorem bd24_0i (x0 : Int) (w : World) : (Instr.build 24 #[(0, .int .u64 x0)]).run Try.prog w = .ok (.agg #[.int .u64 x0, .int .u64 0, .int .u64 0, .int .u64 0]) w := by simp [go_sem]
theorem fc23 (xs : Array Operand) (ts : Array TypeId) (a : Act) (ty : TypeId) (w : World) : (do let d ← resolve a.eval { callee := .value (.func 23), args := xs, argTypes := ts } ty; invoke d.target d.args : Sem Next).run Try.prog w = .ok (.enter 23 (xs.map a.eval)) w := by
  simp [go_sem]
theorem fc19 (xs : Array Operand) (ts : Array TypeId) (a : Act) (ty : TypeId) (w : World) : (do let d ← resolve a.eval { callee := .value (.func 19), args := xs, argTypes := ts } ty; invoke d.target d.args : Sem Next).run Try.prog w = .ok (.enter 19 (xs.map a.eval)) w := by
  simp [go_sem]
theorem fc21 (xs : Array Operand) (ts : Array TypeId) (a : Act) (ty : TypeId) (w : World) : (do let d ← resolve a.eval { callee := .value (.func 21), args := xs, argTypes := ts } ty; invoke d.target d.args : Sem Next).run Try.prog w = .ok (.enter 21 (xs.map a.eval)) w := by
  simp [go_sem]
theorem fd26_2 (x y : Nat) (n : Bool) (w : World) : (Instr.field 26 (A9 x y n) 2).run Try.prog w = .ok (.bool n) w := by simp [Instr.field, part, isAgg, asAgg, go_sem]
theorem fc8 (xs : Array Operand) (ts : Array TypeId) (a : Act) (ty : TypeId) (w : World) : (do let d ← resolve a.eval { callee := .value (.func 8), args := xs, argTypes := ts } ty; invoke d.target d.args : Sem Next).run Try.prog w = .ok (.enter 8 (xs.map a.eval)) w := by
  simp [go_sem]
theorem fc9 (xs : Array Operand) (ts : Array TypeId) (a : Act) (ty : TypeId) (w : World) : (do let d ← resolve a.eval { callee := .value (.func 9), args := xs, argTypes := ts } ty; invoke d.target d.args : Sem Next).run Try.prog w = .ok (.enter 9 (xs.map a.eval)) w := by
  simp [go_sem]
theorem fc10 (xs : Array Operand) (ts : Array TypeId) (a : Act) (ty : TypeId) (w : World) : (do let d ← resolve a.eval { callee := .value (.func 10), args := xs, argTypes := ts } ty; invoke d.target d.args : Sem Next).run Try.prog w = .ok (.enter 10 (xs.map a.eval)) w := by
  simp [go_sem]
theorem fc11 (xs : Array Operand) (ts : Array TypeId) (a : Act) (ty : TypeId) (w : World) : (do let d ← resolve a.eval { callee := .value (.func 11), args := xs, argTypes := ts } ty; invoke d.target d.args : Sem Next).run Try.prog w = .ok (.enter 11 (xs.map a.eval)) w := by
  simp [go_sem]
theorem fc14 (xs : Array Operand) (ts : Array TypeId) (a : Act) (ty : TypeId) (w : World) : (do let d ← resolve a.eval { callee := .value (.func 14), args := xs, argTypes := ts } ty; invoke d.target d.args : Sem Next).run Try.prog w = .ok (.enter 14 (xs.map a.eval)) w := by
  simp [go_sem]
theorem fc15 (xs : Array Operand) (ts : Array TypeId) (a : Act) (ty : TypeId) (w : World) : (do let d ← resolve a.eval { callee := .value (.func 15), args := xs, argTypes := ts } ty; invoke d.target d.args : Sem Next).run Try.prog w = .ok (.enter 15 (xs.map a.eval)) w := by
  simp [go_sem]
theorem fc17 (xs : Array Operand) (ts : Array TypeId) (a : Act) (ty : TypeId) (w : World) : (do let d ← resolve a.eval { callee := .value (.func 17), args := xs, argTypes := ts } ty; invoke d.target d.args : Sem Next).run Try.prog w = .ok (.enter 17 (xs.map a.eval)) w := by
  simp [go_sem]
theorem fc18 (xs : Array Operand) (ts : Array TypeId) (a : Act) (ty : TypeId) (w : World) : (do let d ← resolve a.eval { callee := .value (.func 18), args := xs, argTypes := ts } ty; invoke d.target d.args : Sem Next).run Try.prog w = .ok (.enter 18 (xs.map a.eval)) w := by
  simp [go_sem]
theorem fc20 (xs : Array Operand) (ts : Array TypeId) (a : Act) (ty : TypeId) (w : World) : (do let d ← resolve a.eval { callee := .value (.func 20), args := xs, argTypes := ts } ty; invoke d.target d.args : Sem Next).run Try.prog w = .ok (.enter 20 (xs.map a.eval)) w := by
  simp [go_sem]
end Go.Proofs.Ythbindnkichimaa
