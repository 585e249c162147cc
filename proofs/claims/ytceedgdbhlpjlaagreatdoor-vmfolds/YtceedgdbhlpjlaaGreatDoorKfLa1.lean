/- Out of La1. -/
import Derived.Test.YtceedgdbhlpjlaaGreatDoorKfQa
import Derived.Test.YtceedgdbhlpjlaaGreatDoorKfLa
namespace Go.Proofs.YtceedgdbhlpjlaaGreatDoor
open Go.RowKit Go.Sort
set_option linter.unusedVariables false
attribute [local go_sem] setCell_drewN
abbrev A8 (f : Nat → Nat) : Value := .agg (ag .u64 8 f)
abbrev A16 (f : Nat → Nat) : Value := .agg (ag .u64 16 f)
end Go.Proofs.YtceedgdbhlpjlaaGreatDoor
