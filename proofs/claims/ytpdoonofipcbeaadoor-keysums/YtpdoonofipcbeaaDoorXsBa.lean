/- Small facts on single operations of this program. -/
import Derived.Test.YtpdoonofipcbeaaDoorXsAz
import Derived.WalkSmall
import Derived.Deep.Light
namespace Go.Proofs.YtpdoonofipcbeaaDoor
open Go.RowKit Go.Sort
set_option linter.unusedVariables false
theorem fc56 (xs : Array Operand) (ts : Array TypeId) (a : Act) (ty : TypeId) (w : World) : (do let d ← resolve a.eval { callee := .value (.func 56), args := xs, argTypes := ts } ty; invoke d.target d.args : Sem Next).run Tryd.prog w = .ok (.enter 56 (xs.map a.eval)) w := by
  simp [go_sem]
theorem fc22 (xs : Array Operand) (ts : Array TypeId) (a : Act) (ty : TypeId) (w : World) : (do let d ← resolve a.eval { callee := .value (.func 22), args := xs, argTypes := ts } ty; invoke d.target d.args : Sem Next).run Tryd.prog w = .ok (.enter 22 (xs.map a.eval)) w := by
  simp [go_sem]
theorem bdk4294968273 (w : World) : (Instr.build 24 #[(0, .int .u64 4294968273), (1, .int .u64 0), (2, .int .u64 0), (3, .int .u64 0)]).run Tryd.prog w = .ok (U 4294968273) w := by simp [go_sem, l0, l1, l2, l3, M]
theorem fc35 (xs : Array Operand) (ts : Array TypeId) (a : Act) (ty : TypeId) (w : World) : (do let d ← resolve a.eval { callee := .value (.func 35), args := xs, argTypes := ts } ty; invoke d.target d.args : Sem Next).run Tryd.prog w = .ok (.enter 35 (xs.map a.eval)) w := by
  simp [go_sem]
theorem fc19 (xs : Array Operand) (ts : Array TypeId) (a : Act) (ty : TypeId) (w : World) : (do let d ← resolve a.eval { callee := .value (.func 19), args := xs, argTypes := ts } ty; invoke d.target d.args : Sem Next).run Tryd.prog w = .ok (.enter 19 (xs.map a.eval)) w := by
  simp [go_sem]
theorem fc36 (xs : Array Operand) (ts : Array TypeId) (a : Act) (ty : TypeId) (w : World) : (do let d ← resolve a.eval { callee := .value (.func 36), args := xs, argTypes := ts } ty; invoke d.target d.args : Sem Next).run Tryd.prog w = .ok (.enter 36 (xs.map a.eval)) w := by
  simp [go_sem]
theorem fc58 (xs : Array Operand) (ts : Array TypeId) (a : Act) (ty : TypeId) (w : World) : (do let d ← resolve a.eval { callee := .value (.func 58), args := xs, argTypes := ts } ty; invoke d.target d.args : Sem Next).run Tryd.prog w = .ok (.enter 58 (xs.map a.eval)) w := by
  simp [go_sem]
theorem fc23 (xs : Array Operand) (ts : Array TypeId) (a : Act) (ty : TypeId) (w : World) : (do let d ← resolve a.eval { callee := .value (.func 23), args := xs, argTypes := ts } ty; invoke d.target d.args : Sem Next).run Tryd.prog w = .ok (.enter 23 (xs.map a.eval)) w := by
  simp [go_sem]
theorem fc43 (xs : Array Operand) (ts : Array TypeId) (a : Act) (ty : TypeId) (w : World) : (do let d ← resolve a.eval { callee := .value (.func 43), args := xs, argTypes := ts } ty; invoke d.target d.args : Sem Next).run Tryd.prog w = .ok (.enter 43 (xs.map a.eval)) w := by
  simp [go_sem]
theorem fa63_2 (g off : Nat) (w : World) : (Instr.fieldAt 63 (.pointer (some ⟨g, off, none⟩)) 2).run Tryd.prog w = .ok (.pointer (some ⟨g, off + 8, none⟩)) w := by simp [go_sem]
theorem bd63_  (w : World) : (Instr.build 63 #[]).run Tryd.prog w = .ok (A3 0 0 0) w := by simp [go_sem, l0, l1, l2, l3]
theorem fa63_1 (g off : Nat) (w : World) : (Instr.fieldAt 63 (.pointer (some ⟨g, off, none⟩)) 1).run Tryd.prog w = .ok (.pointer (some ⟨g, off + 4, none⟩)) w := by simp [go_sem]
theorem fa63_0 (g off : Nat) (w : World) : (Instr.fieldAt 63 (.pointer (some ⟨g, off, none⟩)) 0).run Tryd.prog w = .ok (.pointer (some ⟨g, off + 0, none⟩)) w := by simp [go_sem]
theorem bd63_0U_1U_2U (x0 : Nat) (x1 : Nat) (x2 : Nat) (w : World) : (Instr.build 63 #[(0, U x0), (1, U x1), (2, U x2)]).run Tryd.prog w = .ok (A3 x0 x1 x2) w := by simp [go_sem]
theorem bdk1 (w : World) : (Instr.build 24 #[(0, .int .u64 1), (1, .int .u64 0), (2, .int .u64 0), (3, .int .u64 0)]).run Tryd.prog w = .ok (U 1) w := by simp [go_sem, l0, l1, l2, l3, M]
theorem fc51 (xs : Array Operand) (ts : Array TypeId) (a : Act) (ty : TypeId) (w : World) : (do let d ← resolve a.eval { callee := .value (.func 51), args := xs, argTypes := ts } ty; invoke d.target d.args : Sem Next).run Tryd.prog w = .ok (.enter 51 (xs.map a.eval)) w := by
  simp [go_sem]
theorem bdk2 (w : World) : (Instr.build 24 #[(0, .int .u64 2), (1, .int .u64 0), (2, .int .u64 0), (3, .int .u64 0)]).run Tryd.prog w = .ok (U 2) w := by simp [go_sem, l0, l1, l2, l3, M]
theorem fc64 (xs : Array Operand) (ts : Array TypeId) (a : Act) (ty : TypeId) (w : World) : (do let d ← resolve a.eval { callee := .value (.func 64), args := xs, argTypes := ts } ty; invoke d.target d.args : Sem Next).run Tryd.prog w = .ok (.enter 64 (xs.map a.eval)) w := by
  simp [go_sem]
theorem fc46 (xs : Array Operand) (ts : Array TypeId) (a : Act) (ty : TypeId) (w : World) : (do let d ← resolve a.eval { callee := .value (.func 46), args := xs, argTypes := ts } ty; invoke d.target d.args : Sem Next).run Tryd.prog w = .ok (.enter 46 (xs.map a.eval)) w := by
  simp [go_sem]
theorem fc45 (xs : Array Operand) (ts : Array TypeId) (a : Act) (ty : TypeId) (w : World) : (do let d ← resolve a.eval { callee := .value (.func 45), args := xs, argTypes := ts } ty; invoke d.target d.args : Sem Next).run Tryd.prog w = .ok (.enter 45 (xs.map a.eval)) w := by
  simp [go_sem]
end Go.Proofs.YtpdoonofipcbeaaDoor
