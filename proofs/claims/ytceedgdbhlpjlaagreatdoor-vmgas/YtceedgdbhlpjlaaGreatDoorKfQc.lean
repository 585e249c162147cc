/- Out of Qc. -/
import Derived.Test.YtceedgdbhlpjlaaGreatDoorKfQb
namespace Go.Proofs.YtceedgdbhlpjlaaGreatDoor
open Go.RowKit Go.Sort
set_option linter.unusedVariables false
def dm (a i : Nat) : Nat := a / M ^ i % M
theorem dm_parts (a : Nat) : dm a 0 = l0 a ∧ dm a 1 = l1 a ∧ dm a 2 = l2 a ∧ dm a 3 = l3 a := by
  unfold dm l0 l1 l2 l3
  rw [Nat.pow_zero, Nat.div_one, Nat.pow_one, show M ^ 2 = M * M from by decide +kernel, show M ^ 3 = M * M * M from by decide +kernel]
  exact ⟨rfl, rfl, rfl, rfl⟩
end Go.Proofs.YtceedgdbhlpjlaaGreatDoor
