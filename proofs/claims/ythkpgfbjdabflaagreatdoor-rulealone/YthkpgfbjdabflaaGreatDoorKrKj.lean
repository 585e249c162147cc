/- Out of Kj. -/
import Derived.Test.YthkpgfbjdabflaaGreatDoorKrKg
namespace Go.Proofs.YthkpgfbjdabflaaGreatDoor
open Go.RowKit Go.Sort Go.Shelf
set_option linter.unusedVariables false
set_option maxRecDepth 100000
/-- Rows of bools. -/
def blC (l : List Bool) : Array Value := (l.map Value.bool).toArray
/-- Where one can jump, out of the operations. -/
def dsS (acc : List Bool) (m : Nat × List UInt8) : List Bool := acc.set m.1 (decide (m.2.head? = some 91))
def dsN (c : List UInt8) : List Bool := (pc 0 c).foldl dsS (List.replicate c.length false)
theorem dsS_len (acc : List Bool) (m : Nat × List UInt8) : (dsS acc m).length = acc.length := by simp [dsS]
theorem dsF_len : ∀ (l : List (Nat × List UInt8)) (acc : List Bool), (l.foldl dsS acc).length = acc.length
  | [], acc => rfl
  | m :: l, acc => by rw [List.foldl_cons, dsF_len l, dsS_len]
theorem dsN_len (c : List UInt8) : (dsN c).length = c.length := by unfold dsN; rw [dsF_len]; simp
end Go.Proofs.YthkpgfbjdabflaaGreatDoor
