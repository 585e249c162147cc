/- Small facts on single operations of this program. -/
import Derived.Test.YtpdoonofipcbeaaDoorXsAy
import Derived.WalkSmall
import Derived.Deep.Light
namespace Go.Proofs.YtpdoonofipcbeaaDoor
open Go.RowKit Go.Sort
set_option linter.unusedVariables false
theorem bd26_2b (x2 : Bool) (w : World) : (Instr.build 26 #[(2, .bool x2)]).run Tryd.prog w = .ok (A9 0 0 x2) w := by simp [go_sem, l0, l1, l2, l3]
theorem fc67 (xs : Array Operand) (ts : Array TypeId) (a : Act) (ty : TypeId) (w : World) : (do let d ← resolve a.eval { callee := .value (.func 67), args := xs, argTypes := ts } ty; invoke d.target d.args : Sem Next).run Tryd.prog w = .ok (.enter 67 (xs.map a.eval)) w := by
  simp [go_sem]
theorem fc31 (xs : Array Operand) (ts : Array TypeId) (a : Act) (ty : TypeId) (w : World) : (do let d ← resolve a.eval { callee := .value (.func 31), args := xs, argTypes := ts } ty; invoke d.target d.args : Sem Next).run Tryd.prog w = .ok (.enter 31 (xs.map a.eval)) w := by
  simp [go_sem]
theorem fc89 (xs : Array Operand) (ts : Array TypeId) (a : Act) (ty : TypeId) (w : World) : (do let d ← resolve a.eval { callee := .value (.func 89), args := xs, argTypes := ts } ty; invoke d.target d.args : Sem Next).run Tryd.prog w = .ok (.enter 89 (xs.map a.eval)) w := by
  simp [go_sem]
theorem fc83 (xs : Array Operand) (ts : Array TypeId) (a : Act) (ty : TypeId) (w : World) : (do let d ← resolve a.eval { callee := .value (.func 83), args := xs, argTypes := ts } ty; invoke d.target d.args : Sem Next).run Tryd.prog w = .ok (.enter 83 (xs.map a.eval)) w := by
  simp [go_sem]
theorem fc54 (xs : Array Operand) (ts : Array TypeId) (a : Act) (ty : TypeId) (w : World) : (do let d ← resolve a.eval { callee := .value (.func 54), args := xs, argTypes := ts } ty; invoke d.target d.args : Sem Next).run Tryd.prog w = .ok (.enter 54 (xs.map a.eval)) w := by
  simp [go_sem]
theorem fc82 (xs : Array Operand) (ts : Array TypeId) (a : Act) (ty : TypeId) (w : World) : (do let d ← resolve a.eval { callee := .value (.func 82), args := xs, argTypes := ts } ty; invoke d.target d.args : Sem Next).run Tryd.prog w = .ok (.enter 82 (xs.map a.eval)) w := by
  simp [go_sem]
theorem fc84 (xs : Array Operand) (ts : Array TypeId) (a : Act) (ty : TypeId) (w : World) : (do let d ← resolve a.eval { callee := .value (.func 84), args := xs, argTypes := ts } ty; invoke d.target d.args : Sem Next).run Tryd.prog w = .ok (.enter 84 (xs.map a.eval)) w := by
  simp [go_sem]
theorem fc34 (xs : Array Operand) (ts : Array TypeId) (a : Act) (ty : TypeId) (w : World) : (do let d ← resolve a.eval { callee := .value (.func 34), args := xs, argTypes := ts } ty; invoke d.target d.args : Sem Next).run Tryd.prog w = .ok (.enter 34 (xs.map a.eval)) w := by
  simp [go_sem]
theorem bd24_  (w : World) : (Instr.build 24 #[]).run Tryd.prog w = .ok (U 0) w := by simp [go_sem, l0, l1, l2, l3]
theorem bd26_  (w : World) : (Instr.build 26 #[]).run Tryd.prog w = .ok (A9 0 0 false) w := by simp [go_sem, l0, l1, l2, l3]
theorem bd26_0U_1U (x0 : Nat) (x1 : Nat) (w : World) : (Instr.build 26 #[(0, U x0), (1, U x1)]).run Tryd.prog w = .ok (A9 x0 x1 false) w := by simp [go_sem, l0, l1, l2, l3]
theorem fc90 (xs : Array Operand) (ts : Array TypeId) (a : Act) (ty : TypeId) (w : World) : (do let d ← resolve a.eval { callee := .value (.func 90), args := xs, argTypes := ts } ty; invoke d.target d.args : Sem Next).run Tryd.prog w = .ok (.enter 90 (xs.map a.eval)) w := by
  simp [go_sem]
theorem fa26_2 (g off : Nat) (w : World) : (Instr.fieldAt 26 (.pointer (some ⟨g, off, none⟩)) 2).run Tryd.prog w = .ok (.pointer (some ⟨g, off + 8, none⟩)) w := by simp [go_sem]
theorem fc65 (xs : Array Operand) (ts : Array TypeId) (a : Act) (ty : TypeId) (w : World) : (do let d ← resolve a.eval { callee := .value (.func 65), args := xs, argTypes := ts } ty; invoke d.target d.args : Sem Next).run Tryd.prog w = .ok (.enter 65 (xs.map a.eval)) w := by
  simp [go_sem]
theorem fa26_0 (g off : Nat) (w : World) : (Instr.fieldAt 26 (.pointer (some ⟨g, off, none⟩)) 0).run Tryd.prog w = .ok (.pointer (some ⟨g, off + 0, none⟩)) w := by simp [go_sem]
theorem fa26_1 (g off : Nat) (w : World) : (Instr.fieldAt 26 (.pointer (some ⟨g, off, none⟩)) 1).run Tryd.prog w = .ok (.pointer (some ⟨g, off + 4, none⟩)) w := by simp [go_sem]
theorem fc68 (xs : Array Operand) (ts : Array TypeId) (a : Act) (ty : TypeId) (w : World) : (do let d ← resolve a.eval { callee := .value (.func 68), args := xs, argTypes := ts } ty; invoke d.target d.args : Sem Next).run Tryd.prog w = .ok (.enter 68 (xs.map a.eval)) w := by
  simp [go_sem]
theorem ix67_2 (g off : Nat) (w : World) : (Instr.indexAt 67 (.pointer (some ⟨g, off, none⟩)) (.int .i64 2)).run Tryd.prog w = .ok (.pointer (some ⟨g, off + 8, none⟩)) w := by simp [go_sem]
theorem bd67_0U_1U_2U (x0 : Nat) (x1 : Nat) (x2 : Nat) (w : World) : (Instr.build 67 #[(0, U x0), (1, U x1), (2, U x2)]).run Tryd.prog w = .ok (A3 x0 x1 x2) w := by simp [go_sem]
theorem fc66 (xs : Array Operand) (ts : Array TypeId) (a : Act) (ty : TypeId) (w : World) : (do let d ← resolve a.eval { callee := .value (.func 66), args := xs, argTypes := ts } ty; invoke d.target d.args : Sem Next).run Tryd.prog w = .ok (.enter 66 (xs.map a.eval)) w := by
  simp [go_sem]
theorem ix67_0 (g off : Nat) (w : World) : (Instr.indexAt 67 (.pointer (some ⟨g, off, none⟩)) (.int .i64 0)).run Tryd.prog w = .ok (.pointer (some ⟨g, off + 0, none⟩)) w := by simp [go_sem]
theorem ix67_1 (g off : Nat) (w : World) : (Instr.indexAt 67 (.pointer (some ⟨g, off, none⟩)) (.int .i64 1)).run Tryd.prog w = .ok (.pointer (some ⟨g, off + 4, none⟩)) w := by simp [go_sem]
theorem fc49 (xs : Array Operand) (ts : Array TypeId) (a : Act) (ty : TypeId) (w : World) : (do let d ← resolve a.eval { callee := .value (.func 49), args := xs, argTypes := ts } ty; invoke d.target d.args : Sem Next).run Tryd.prog w = .ok (.enter 49 (xs.map a.eval)) w := by
  simp [go_sem]
theorem fc47 (xs : Array Operand) (ts : Array TypeId) (a : Act) (ty : TypeId) (w : World) : (do let d ← resolve a.eval { callee := .value (.func 47), args := xs, argTypes := ts } ty; invoke d.target d.args : Sem Next).run Tryd.prog w = .ok (.enter 47 (xs.map a.eval)) w := by
  simp [go_sem]
theorem fc48 (xs : Array Operand) (ts : Array TypeId) (a : Act) (ty : TypeId) (w : World) : (do let d ← resolve a.eval { callee := .value (.func 48), args := xs, argTypes := ts } ty; invoke d.target d.args : Sem Next).run Tryd.prog w = .ok (.enter 48 (xs.map a.eval)) w := by
  simp [go_sem]
theorem fc88 (xs : Array Operand) (ts : Array TypeId) (a : Act) (ty : TypeId) (w : World) : (do let d ← resolve a.eval { callee := .value (.func 88), args := xs, argTypes := ts } ty; invoke d.target d.args : Sem Next).run Tryd.prog w = .ok (.enter 88 (xs.map a.eval)) w := by
  simp [go_sem]
end Go.Proofs.YtpdoonofipcbeaaDoor
