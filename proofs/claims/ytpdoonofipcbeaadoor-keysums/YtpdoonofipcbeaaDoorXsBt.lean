/- Contracts of Bit, and of the loops of the document's shifts, of layer 1: over letters for the parts that stand so far. -/
import Derived.Test.YtpdoonofipcbeaaDoorXsWt
import Derived.Test.YtpdoonofipcbeaaDoorXsOl
import Derived.Test.YtpdoonofipcbeaaDoorXsMB
import Derived.BigQuiet
import Derived.Deep.Light
namespace Go.Proofs.YtpdoonofipcbeaaDoor
open Go.RowKit Go.Sort
set_option linter.unusedVariables false

set_option maxRecDepth 100000 in
set_option maxHeartbeats 1000000 in
theorem bit_0_raw (a0 a1 a2 a3 i : Nat) (hi : i ≤ 255) (hq : (i : Int) / 64 = 0) (w : World) : Calls Tryd.prog 52 #[U4 a0 a1 a2 a3, .int .i64 i] w fun e w' => e = .returned (.int .u64 (bits .and .u64 ((a0 : Int) / 2 ^ (i % 64)) 1)) ∧ Below w.heap.size w w' := by
  go_enter Tryd.func52, Tryd.ntmps52
  go_wp2
  go_ret
  exact ⟨rfl, (by repeat (first | exact Below.refl _ _ | apply Below.drew | refine bel_alloc ?_ _))⟩
set_option maxRecDepth 100000 in
set_option maxHeartbeats 1000000 in
theorem bit_1_raw (a0 a1 a2 a3 i : Nat) (hi : i ≤ 255) (hq : (i : Int) / 64 = 1) (w : World) : Calls Tryd.prog 52 #[U4 a0 a1 a2 a3, .int .i64 i] w fun e w' => e = .returned (.int .u64 (bits .and .u64 ((a1 : Int) / 2 ^ (i % 64)) 1)) ∧ Below w.heap.size w w' := by
  go_enter Tryd.func52, Tryd.ntmps52
  go_wp2
  go_ret
  exact ⟨rfl, (by repeat (first | exact Below.refl _ _ | apply Below.drew | refine bel_alloc ?_ _))⟩
set_option maxRecDepth 100000 in
set_option maxHeartbeats 1000000 in
theorem bit_2_raw (a0 a1 a2 a3 i : Nat) (hi : i ≤ 255) (hq : (i : Int) / 64 = 2) (w : World) : Calls Tryd.prog 52 #[U4 a0 a1 a2 a3, .int .i64 i] w fun e w' => e = .returned (.int .u64 (bits .and .u64 ((a2 : Int) / 2 ^ (i % 64)) 1)) ∧ Below w.heap.size w w' := by
  go_enter Tryd.func52, Tryd.ntmps52
  go_wp2
  go_ret
  exact ⟨rfl, (by repeat (first | exact Below.refl _ _ | apply Below.drew | refine bel_alloc ?_ _))⟩
set_option maxRecDepth 100000 in
set_option maxHeartbeats 1000000 in
theorem bit_3_raw (a0 a1 a2 a3 i : Nat) (hi : i ≤ 255) (hq : (i : Int) / 64 = 3) (w : World) : Calls Tryd.prog 52 #[U4 a0 a1 a2 a3, .int .i64 i] w fun e w' => e = .returned (.int .u64 (bits .and .u64 ((a3 : Int) / 2 ^ (i % 64)) 1)) ∧ Below w.heap.size w w' := by
  go_enter Tryd.func52, Tryd.ntmps52
  go_wp2
  go_ret
  exact ⟨rfl, (by repeat (first | exact Below.refl _ _ | apply Below.drew | refine bel_alloc ?_ _))⟩
end Go.Proofs.YtpdoonofipcbeaaDoor
