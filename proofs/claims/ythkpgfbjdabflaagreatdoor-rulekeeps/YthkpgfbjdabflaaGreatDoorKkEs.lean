/- Out of Et. -/
import Derived.Test.YthkpgfbjdabflaaGreatDoorKkEh
namespace Go.Proofs.YthkpgfbjdabflaaGreatDoor
open Go.RowKit Go.Sort Go.Proofs.Tryz
set_option linter.unusedVariables false
set_option maxRecDepth 100000
set_option maxHeartbeats 4000000
structure TT (w : World) : Prop where
  tb : Tb w
  ts : Tabs w ki
theorem TT.below {w w' : World} (h : TT w) (hb : Below w.heap.size w w') : TT w' := ⟨h.tb.below hb, h.ts.below hb⟩
theorem runs_A6 (i : List UInt8) : runN 6 (beg exC i 20000) = ⟨exC, i, [], wb 1, 8, 19984, 1, 0, wb 1⟩ := by kernel_rfl
theorem runs_B1 (i : List UInt8) : runN 1 (beg [] i 20000) = ⟨[], i, [], [], 1, 20000, 1, 0, []⟩ := by kernel_rfl
theorem one_ne : ¬ (1 : Int) = 0 := by decide
theorem al_1 (i : List UInt8) : alE ⟨exC, i, [], wb 1, 8, 19984, 1, 0, wb 1⟩ = 0 := by
  unfold alE
  rw [decide_eq_true (show (1 : Int) = 1 from rfl), decide_eq_true (show wb 1 = wb 1 from rfl)]
  rfl
theorem al_2 (i : List UInt8) : alE ⟨[], i, [], [], 1, 20000, 1, 0, []⟩ = 12 := by
  unfold alE
  rw [decide_eq_false (show ¬ ([] : List UInt8) = wb 1 by decide +kernel), Bool.and_false]
  rfl
end Go.Proofs.YthkpgfbjdabflaaGreatDoor
