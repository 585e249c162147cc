/- Out of Qb. -/
import Derived.Test.YtceedgdbhlpjlaaGreatDoorKfQa
import Derived.Test.YtceedgdbhlpjlaaGreatDoorKfLa
namespace Go.Proofs.YtceedgdbhlpjlaaGreatDoor
open Go.RowKit Go.Sort
set_option linter.unusedVariables false
attribute [local go_sem] setCell_drewN
abbrev A4 (X : Nat → Nat) : Value := .agg (ag .u64 4 X)
end Go.Proofs.YtceedgdbhlpjlaaGreatDoor
