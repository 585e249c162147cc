/- Small facts on single operations of this program. -/
import Derived.Test.YthbindnkichimaaXtAy
import Derived.WalkSmall
import Derived.Deep.Light
namespace Go.Proofs.Ythbindnkichimaa
open Go.RowKit Go.Sort
set_option linter.unusedVariables false
theorem bd26_2b (x2 : Bool) (w : World) : (Instr.build 26 #[(2, .bool x2)]).run Try.prog w = .ok (A9 0 0 x2) w := by simp [go_sem, l0, l1, l2, l3]
theorem fc40 (xs : Array Operand) (ts : Array TypeId) (a : Act) (ty : TypeId) (w : World) : (do let d ← resolve a.eval { callee := .value (.func 40), args := xs, argTypes := ts } ty; invoke d.target d.args : Sem Next).run Try.prog w = .ok (.enter 40 (xs.map a.eval)) w := by
  simp [go_sem]
theorem fc52 (xs : Array Operand) (ts : Array TypeId) (a : Act) (ty : TypeId) (w : World) : (do let d ← resolve a.eval { callee := .value (.func 52), args := xs, argTypes := ts } ty; invoke d.target d.args : Sem Next).run Try.prog w = .ok (.enter 52 (xs.map a.eval)) w := by
  simp [go_sem]
theorem fc55 (xs : Array Operand) (ts : Array TypeId) (a : Act) (ty : TypeId) (w : World) : (do let d ← resolve a.eval { callee := .value (.func 55), args := xs, argTypes := ts } ty; invoke d.target d.args : Sem Next).run Try.prog w = .ok (.enter 55 (xs.map a.eval)) w := by
  simp [go_sem]
theorem fc12 (xs : Array Operand) (ts : Array TypeId) (a : Act) (ty : TypeId) (w : World) : (do let d ← resolve a.eval { callee := .value (.func 12), args := xs, argTypes := ts } ty; invoke d.target d.args : Sem Next).run Try.prog w = .ok (.enter 12 (xs.map a.eval)) w := by
  simp [go_sem]
theorem fc50 (xs : Array Operand) (ts : Array TypeId) (a : Act) (ty : TypeId) (w : World) : (do let d ← resolve a.eval { callee := .value (.func 50), args := xs, argTypes := ts } ty; invoke d.target d.args : Sem Next).run Try.prog w = .ok (.enter 50 (xs.map a.eval)) w := by
  simp [go_sem]
theorem fc72 (xs : Array Operand) (ts : Array TypeId) (a : Act) (ty : TypeId) (w : World) : (do let d ← resolve a.eval { callee := .value (.func 72), args := xs, argTypes := ts } ty; invoke d.target d.args : Sem Next).run Try.prog w = .ok (.enter 72 (xs.map a.eval)) w := by
  simp [go_sem]
theorem fc53 (xs : Array Operand) (ts : Array TypeId) (a : Act) (ty : TypeId) (w : World) : (do let d ← resolve a.eval { callee := .value (.func 53), args := xs, argTypes := ts } ty; invoke d.target d.args : Sem Next).run Try.prog w = .ok (.enter 53 (xs.map a.eval)) w := by
  simp [go_sem]
theorem fc51 (xs : Array Operand) (ts : Array TypeId) (a : Act) (ty : TypeId) (w : World) : (do let d ← resolve a.eval { callee := .value (.func 51), args := xs, argTypes := ts } ty; invoke d.target d.args : Sem Next).run Try.prog w = .ok (.enter 51 (xs.map a.eval)) w := by
  simp [go_sem]
theorem fc54 (xs : Array Operand) (ts : Array TypeId) (a : Act) (ty : TypeId) (w : World) : (do let d ← resolve a.eval { callee := .value (.func 54), args := xs, argTypes := ts } ty; invoke d.target d.args : Sem Next).run Try.prog w = .ok (.enter 54 (xs.map a.eval)) w := by
  simp [go_sem]
theorem bd24_  (w : World) : (Instr.build 24 #[]).run Try.prog w = .ok (U 0) w := by simp [go_sem, l0, l1, l2, l3]
theorem fc27 (xs : Array Operand) (ts : Array TypeId) (a : Act) (ty : TypeId) (w : World) : (do let d ← resolve a.eval { callee := .value (.func 27), args := xs, argTypes := ts } ty; invoke d.target d.args : Sem Next).run Try.prog w = .ok (.enter 27 (xs.map a.eval)) w := by
  simp [go_sem]
theorem bd26_  (w : World) : (Instr.build 26 #[]).run Try.prog w = .ok (A9 0 0 false) w := by simp [go_sem, l0, l1, l2, l3]
theorem fc29 (xs : Array Operand) (ts : Array TypeId) (a : Act) (ty : TypeId) (w : World) : (do let d ← resolve a.eval { callee := .value (.func 29), args := xs, argTypes := ts } ty; invoke d.target d.args : Sem Next).run Try.prog w = .ok (.enter 29 (xs.map a.eval)) w := by
  simp [go_sem]
theorem fc28 (xs : Array Operand) (ts : Array TypeId) (a : Act) (ty : TypeId) (w : World) : (do let d ← resolve a.eval { callee := .value (.func 28), args := xs, argTypes := ts } ty; invoke d.target d.args : Sem Next).run Try.prog w = .ok (.enter 28 (xs.map a.eval)) w := by
  simp [go_sem]
theorem fc30 (xs : Array Operand) (ts : Array TypeId) (a : Act) (ty : TypeId) (w : World) : (do let d ← resolve a.eval { callee := .value (.func 30), args := xs, argTypes := ts } ty; invoke d.target d.args : Sem Next).run Try.prog w = .ok (.enter 30 (xs.map a.eval)) w := by
  simp [go_sem]
theorem bd26_0U_1U (x0 : Nat) (x1 : Nat) (w : World) : (Instr.build 26 #[(0, U x0), (1, U x1)]).run Try.prog w = .ok (A9 x0 x1 false) w := by simp [go_sem, l0, l1, l2, l3]
theorem fc31 (xs : Array Operand) (ts : Array TypeId) (a : Act) (ty : TypeId) (w : World) : (do let d ← resolve a.eval { callee := .value (.func 31), args := xs, argTypes := ts } ty; invoke d.target d.args : Sem Next).run Try.prog w = .ok (.enter 31 (xs.map a.eval)) w := by
  simp [go_sem]
theorem fa26_2 (g off : Nat) (w : World) : (Instr.fieldAt 26 (.pointer (some ⟨g, off, none⟩)) 2).run Try.prog w = .ok (.pointer (some ⟨g, off + 8, none⟩)) w := by simp [go_sem]
theorem fc39 (xs : Array Operand) (ts : Array TypeId) (a : Act) (ty : TypeId) (w : World) : (do let d ← resolve a.eval { callee := .value (.func 39), args := xs, argTypes := ts } ty; invoke d.target d.args : Sem Next).run Try.prog w = .ok (.enter 39 (xs.map a.eval)) w := by
  simp [go_sem]
theorem fa26_0 (g off : Nat) (w : World) : (Instr.fieldAt 26 (.pointer (some ⟨g, off, none⟩)) 0).run Try.prog w = .ok (.pointer (some ⟨g, off + 0, none⟩)) w := by simp [go_sem]
theorem fa26_1 (g off : Nat) (w : World) : (Instr.fieldAt 26 (.pointer (some ⟨g, off, none⟩)) 1).run Try.prog w = .ok (.pointer (some ⟨g, off + 4, none⟩)) w := by simp [go_sem]
theorem fc66 (xs : Array Operand) (ts : Array TypeId) (a : Act) (ty : TypeId) (w : World) : (do let d ← resolve a.eval { callee := .value (.func 66), args := xs, argTypes := ts } ty; invoke d.target d.args : Sem Next).run Try.prog w = .ok (.enter 66 (xs.map a.eval)) w := by
  simp [go_sem]
theorem ix53_2 (g off : Nat) (w : World) : (Instr.indexAt 53 (.pointer (some ⟨g, off, none⟩)) (.int .i64 2)).run Try.prog w = .ok (.pointer (some ⟨g, off + 8, none⟩)) w := by simp [go_sem]
theorem bd53_0U_1U_2U (x0 : Nat) (x1 : Nat) (x2 : Nat) (w : World) : (Instr.build 53 #[(0, U x0), (1, U x1), (2, U x2)]).run Try.prog w = .ok (A3 x0 x1 x2) w := by simp [go_sem]
theorem fc64 (xs : Array Operand) (ts : Array TypeId) (a : Act) (ty : TypeId) (w : World) : (do let d ← resolve a.eval { callee := .value (.func 64), args := xs, argTypes := ts } ty; invoke d.target d.args : Sem Next).run Try.prog w = .ok (.enter 64 (xs.map a.eval)) w := by
  simp [go_sem]
theorem ix53_0 (g off : Nat) (w : World) : (Instr.indexAt 53 (.pointer (some ⟨g, off, none⟩)) (.int .i64 0)).run Try.prog w = .ok (.pointer (some ⟨g, off + 0, none⟩)) w := by simp [go_sem]
theorem ix53_1 (g off : Nat) (w : World) : (Instr.indexAt 53 (.pointer (some ⟨g, off, none⟩)) (.int .i64 1)).run Try.prog w = .ok (.pointer (some ⟨g, off + 4, none⟩)) w := by simp [go_sem]
theorem fc43 (xs : Array Operand) (ts : Array TypeId) (a : Act) (ty : TypeId) (w : World) : (do let d ← resolve a.eval { callee := .value (.func 43), args := xs, argTypes := ts } ty; invoke d.target d.args : Sem Next).run Try.prog w = .ok (.enter 43 (xs.map a.eval)) w := by
  simp [go_sem]
theorem fc42 (xs : Array Operand) (ts : Array TypeId) (a : Act) (ty : TypeId) (w : World) : (do let d ← resolve a.eval { callee := .value (.func 42), args := xs, argTypes := ts } ty; invoke d.target d.args : Sem Next).run Try.prog w = .ok (.enter 42 (xs.map a.eval)) w := by
  simp [go_sem]
theorem fc41 (xs : Array Operand) (ts : Array TypeId) (a : Act) (ty : TypeId) (w : World) : (do let d ← resolve a.eval { callee := .value (.func 41), args := xs, argTypes := ts } ty; invoke d.target d.args : Sem Next).run Try.prog w = .ok (.enter 41 (xs.map a.eval)) w := by
  simp [go_sem]
theorem fc46 (xs : Array Operand) (ts : Array TypeId) (a : Act) (ty : TypeId) (w : World) : (do let d ← resolve a.eval { callee := .value (.func 46), args := xs, argTypes := ts } ty; invoke d.target d.args : Sem Next).run Try.prog w = .ok (.enter 46 (xs.map a.eval)) w := by
  simp [go_sem]
theorem fc65 (xs : Array Operand) (ts : Array TypeId) (a : Act) (ty : TypeId) (w : World) : (do let d ← resolve a.eval { callee := .value (.func 65), args := xs, argTypes := ts } ty; invoke d.target d.args : Sem Next).run Try.prog w = .ok (.enter 65 (xs.map a.eval)) w := by
  simp [go_sem]
end Go.Proofs.Ythbindnkichimaa
