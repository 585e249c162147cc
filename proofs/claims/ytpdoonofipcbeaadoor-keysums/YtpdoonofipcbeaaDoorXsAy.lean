/- Small facts on single operations of this program. -/
import Derived.Test.YtpdoonofipcbeaaDoorXsAv
import Derived.WalkSmall
import Derived.Deep.Light
namespace Go.Proofs.YtpdoonofipcbeaaDoor
open Go.RowKit Go.Sort
set_option linter.unusedVariables false
theorem fc57 (xs : Array Operand) (ts : Array TypeId) (a : Act) (ty : TypeId) (w : World) : (do let d ← resolve a.eval { callee := .value (.func 57), args := xs, argTypes := ts } ty; invoke d.target d.args : Sem Next).run Tryd.prog w = .ok (.enter 57 (xs.map a.eval)) w := by
  simp [go_sem]
theorem xc44 (xs : Array Operand) (ts : Array TypeId) (a : Act) (ty : TypeId) (w : World) : (do let d ← resolve a.eval { callee := .value (.func 44), args := xs, argTypes := ts } ty; invoke d.target d.args : Sem Next).run Tryd.prog w = (callFunc 44 (xs.map a.eval)).run Tryd.prog w := by
  simp [go_sem]
theorem bd24_0i_1i_2i_3i (x0 : Int) (x1 : Int) (x2 : Int) (x3 : Int) (w : World) : (Instr.build 24 #[(0, .int .u64 x0), (1, .int .u64 x1), (2, .int .u64 x2), (3, .int .u64 x3)]).run Tryd.prog w = .ok (.agg #[.int .u64 x0, .int .u64 x1, .int .u64 x2, .int .u64 x3]) w := by simp [go_sem]
theorem ix24_0 (g off : Nat) (w : World) : (Instr.indexAt 24 (.pointer (some ⟨g, off, none⟩)) (.int .i64 0)).run Tryd.prog w = .ok (.pointer (some ⟨g, off + 0, none⟩)) w := by simp [go_sem]
theorem ix24_1 (g off : Nat) (w : World) : (Instr.indexAt 24 (.pointer (some ⟨g, off, none⟩)) (.int .i64 1)).run Tryd.prog w = .ok (.pointer (some ⟨g, off + 1, none⟩)) w := by simp [go_sem]
theorem ix24_2 (g off : Nat) (w : World) : (Instr.indexAt 24 (.pointer (some ⟨g, off, none⟩)) (.int .i64 2)).run Tryd.prog w = .ok (.pointer (some ⟨g, off + 2, none⟩)) w := by simp [go_sem]
theorem ix24_3 (g off : Nat) (w : World) : (Instr.indexAt 24 (.pointer (some ⟨g, off, none⟩)) (.int .i64 3)).run Tryd.prog w = .ok (.pointer (some ⟨g, off + 3, none⟩)) w := by simp [go_sem]
theorem fc92 (xs : Array Operand) (ts : Array TypeId) (a : Act) (ty : TypeId) (w : World) : (do let d ← resolve a.eval { callee := .value (.func 92), args := xs, argTypes := ts } ty; invoke d.target d.args : Sem Next).run Tryd.prog w = .ok (.enter 92 (xs.map a.eval)) w := by
  simp [go_sem]
theorem xc42 (xs : Array Operand) (ts : Array TypeId) (a : Act) (ty : TypeId) (w : World) : (do let d ← resolve a.eval { callee := .value (.func 42), args := xs, argTypes := ts } ty; invoke d.target d.args : Sem Next).run Tryd.prog w = (callFunc 42 (xs.map a.eval)).run Tryd.prog w := by
  simp [go_sem]
theorem fc85 (xs : Array Operand) (ts : Array TypeId) (a : Act) (ty : TypeId) (w : World) : (do let d ← resolve a.eval { callee := .value (.func 85), args := xs, argTypes := ts } ty; invoke d.target d.args : Sem Next).run Tryd.prog w = .ok (.enter 85 (xs.map a.eval)) w := by
  simp [go_sem]
theorem id24_0 (a b c d : Int) (w : World) : (Instr.index 24 (I4 a b c d) (.int .i64 0)).run Tryd.prog w = .ok (.int .u64 a) w := by simp [Instr.index, asIntOf, run_underlying Tryd.underlying24, part, isAgg, run_underlying Tryd.underlying22, go_sem]
theorem id24_1 (a b c d : Int) (w : World) : (Instr.index 24 (I4 a b c d) (.int .i64 1)).run Tryd.prog w = .ok (.int .u64 b) w := by simp [Instr.index, asIntOf, run_underlying Tryd.underlying24, part, isAgg, run_underlying Tryd.underlying22, go_sem]
theorem id24_2 (a b c d : Int) (w : World) : (Instr.index 24 (I4 a b c d) (.int .i64 2)).run Tryd.prog w = .ok (.int .u64 c) w := by simp [Instr.index, asIntOf, run_underlying Tryd.underlying24, part, isAgg, run_underlying Tryd.underlying22, go_sem]
theorem id24_3 (a b c d : Int) (w : World) : (Instr.index 24 (I4 a b c d) (.int .i64 3)).run Tryd.prog w = .ok (.int .u64 d) w := by simp [Instr.index, asIntOf, run_underlying Tryd.underlying24, part, isAgg, run_underlying Tryd.underlying22, go_sem]
theorem fc86 (xs : Array Operand) (ts : Array TypeId) (a : Act) (ty : TypeId) (w : World) : (do let d ← resolve a.eval { callee := .value (.func 86), args := xs, argTypes := ts } ty; invoke d.target d.args : Sem Next).run Tryd.prog w = .ok (.enter 86 (xs.map a.eval)) w := by
  simp [go_sem]
end Go.Proofs.YtpdoonofipcbeaaDoor
