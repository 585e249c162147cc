/- Small facts on single operations of this program. -/
import Derived.Test.YthbindnkichimaaXtAz
import Derived.WalkSmall
import Derived.Deep.Light
namespace Go.Proofs.Ythbindnkichimaa
open Go.RowKit Go.Sort
set_option linter.unusedVariables false
theorem fc59 (xs : Array Operand) (ts : Array TypeId) (a : Act) (ty : TypeId) (w : World) : (do let d ← resolve a.eval { callee := .value (.func 59), args := xs, argTypes := ts } ty; invoke d.target d.args : Sem Next).run Try.prog w = .ok (.enter 59 (xs.map a.eval)) w := by
  simp [go_sem]
theorem fc33 (xs : Array Operand) (ts : Array TypeId) (a : Act) (ty : TypeId) (w : World) : (do let d ← resolve a.eval { callee := .value (.func 33), args := xs, argTypes := ts } ty; invoke d.target d.args : Sem Next).run Try.prog w = .ok (.enter 33 (xs.map a.eval)) w := by
  simp [go_sem]
theorem bdk4294968273 (w : World) : (Instr.build 24 #[(0, .int .u64 4294968273), (1, .int .u64 0), (2, .int .u64 0), (3, .int .u64 0)]).run Try.prog w = .ok (U 4294968273) w := by simp [go_sem, l0, l1, l2, l3, M]
theorem fc13 (xs : Array Operand) (ts : Array TypeId) (a : Act) (ty : TypeId) (w : World) : (do let d ← resolve a.eval { callee := .value (.func 13), args := xs, argTypes := ts } ty; invoke d.target d.args : Sem Next).run Try.prog w = .ok (.enter 13 (xs.map a.eval)) w := by
  simp [go_sem]
theorem fc61 (xs : Array Operand) (ts : Array TypeId) (a : Act) (ty : TypeId) (w : World) : (do let d ← resolve a.eval { callee := .value (.func 61), args := xs, argTypes := ts } ty; invoke d.target d.args : Sem Next).run Try.prog w = .ok (.enter 61 (xs.map a.eval)) w := by
  simp [go_sem]
theorem fc37 (xs : Array Operand) (ts : Array TypeId) (a : Act) (ty : TypeId) (w : World) : (do let d ← resolve a.eval { callee := .value (.func 37), args := xs, argTypes := ts } ty; invoke d.target d.args : Sem Next).run Try.prog w = .ok (.enter 37 (xs.map a.eval)) w := by
  simp [go_sem]
theorem bdk7 (w : World) : (Instr.build 24 #[(0, .int .u64 7), (1, .int .u64 0), (2, .int .u64 0), (3, .int .u64 0)]).run Try.prog w = .ok (U 7) w := by simp [go_sem, l0, l1, l2, l3, M]
theorem fc58 (xs : Array Operand) (ts : Array TypeId) (a : Act) (ty : TypeId) (w : World) : (do let d ← resolve a.eval { callee := .value (.func 58), args := xs, argTypes := ts } ty; invoke d.target d.args : Sem Next).run Try.prog w = .ok (.enter 58 (xs.map a.eval)) w := by
  simp [go_sem]
theorem fc32 (xs : Array Operand) (ts : Array TypeId) (a : Act) (ty : TypeId) (w : World) : (do let d ← resolve a.eval { callee := .value (.func 32), args := xs, argTypes := ts } ty; invoke d.target d.args : Sem Next).run Try.prog w = .ok (.enter 32 (xs.map a.eval)) w := by
  simp [go_sem]
theorem fc35 (xs : Array Operand) (ts : Array TypeId) (a : Act) (ty : TypeId) (w : World) : (do let d ← resolve a.eval { callee := .value (.func 35), args := xs, argTypes := ts } ty; invoke d.target d.args : Sem Next).run Try.prog w = .ok (.enter 35 (xs.map a.eval)) w := by
  simp [go_sem]
theorem fc38 (xs : Array Operand) (ts : Array TypeId) (a : Act) (ty : TypeId) (w : World) : (do let d ← resolve a.eval { callee := .value (.func 38), args := xs, argTypes := ts } ty; invoke d.target d.args : Sem Next).run Try.prog w = .ok (.enter 38 (xs.map a.eval)) w := by
  simp [go_sem]
theorem fa58_2 (g off : Nat) (w : World) : (Instr.fieldAt 58 (.pointer (some ⟨g, off, none⟩)) 2).run Try.prog w = .ok (.pointer (some ⟨g, off + 8, none⟩)) w := by simp [go_sem]
theorem bd58_  (w : World) : (Instr.build 58 #[]).run Try.prog w = .ok (A3 0 0 0) w := by simp [go_sem, l0, l1, l2, l3]
theorem fa58_1 (g off : Nat) (w : World) : (Instr.fieldAt 58 (.pointer (some ⟨g, off, none⟩)) 1).run Try.prog w = .ok (.pointer (some ⟨g, off + 4, none⟩)) w := by simp [go_sem]
theorem fa58_0 (g off : Nat) (w : World) : (Instr.fieldAt 58 (.pointer (some ⟨g, off, none⟩)) 0).run Try.prog w = .ok (.pointer (some ⟨g, off + 0, none⟩)) w := by simp [go_sem]
theorem bd58_0U_1U_2U (x0 : Nat) (x1 : Nat) (x2 : Nat) (w : World) : (Instr.build 58 #[(0, U x0), (1, U x1), (2, U x2)]).run Try.prog w = .ok (A3 x0 x1 x2) w := by simp [go_sem]
theorem bdk1 (w : World) : (Instr.build 24 #[(0, .int .u64 1), (1, .int .u64 0), (2, .int .u64 0), (3, .int .u64 0)]).run Try.prog w = .ok (U 1) w := by simp [go_sem, l0, l1, l2, l3, M]
theorem fc48 (xs : Array Operand) (ts : Array TypeId) (a : Act) (ty : TypeId) (w : World) : (do let d ← resolve a.eval { callee := .value (.func 48), args := xs, argTypes := ts } ty; invoke d.target d.args : Sem Next).run Try.prog w = .ok (.enter 48 (xs.map a.eval)) w := by
  simp [go_sem]
theorem bdk2 (w : World) : (Instr.build 24 #[(0, .int .u64 2), (1, .int .u64 0), (2, .int .u64 0), (3, .int .u64 0)]).run Try.prog w = .ok (U 2) w := by simp [go_sem, l0, l1, l2, l3, M]
theorem fc34 (xs : Array Operand) (ts : Array TypeId) (a : Act) (ty : TypeId) (w : World) : (do let d ← resolve a.eval { callee := .value (.func 34), args := xs, argTypes := ts } ty; invoke d.target d.args : Sem Next).run Try.prog w = .ok (.enter 34 (xs.map a.eval)) w := by
  simp [go_sem]
theorem fc45 (xs : Array Operand) (ts : Array TypeId) (a : Act) (ty : TypeId) (w : World) : (do let d ← resolve a.eval { callee := .value (.func 45), args := xs, argTypes := ts } ty; invoke d.target d.args : Sem Next).run Try.prog w = .ok (.enter 45 (xs.map a.eval)) w := by
  simp [go_sem]
theorem fc44 (xs : Array Operand) (ts : Array TypeId) (a : Act) (ty : TypeId) (w : World) : (do let d ← resolve a.eval { callee := .value (.func 44), args := xs, argTypes := ts } ty; invoke d.target d.args : Sem Next).run Try.prog w = .ok (.enter 44 (xs.map a.eval)) w := by
  simp [go_sem]
theorem fc36 (xs : Array Operand) (ts : Array TypeId) (a : Act) (ty : TypeId) (w : World) : (do let d ← resolve a.eval { callee := .value (.func 36), args := xs, argTypes := ts } ty; invoke d.target d.args : Sem Next).run Try.prog w = .ok (.enter 36 (xs.map a.eval)) w := by
  simp [go_sem]
end Go.Proofs.Ythbindnkichimaa
