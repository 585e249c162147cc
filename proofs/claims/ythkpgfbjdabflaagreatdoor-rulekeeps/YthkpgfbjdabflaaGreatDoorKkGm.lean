/- Out of Gm. -/
import Derived.Test.YthkpgfbjdabflaaGreatDoorKkXs
namespace Go.Proofs.YthkpgfbjdabflaaGreatDoor
open Go.RowKit Go.Sort Tryz
set_option linter.unusedVariables false
set_option maxRecDepth 100000
set_option maxHeartbeats 4000000
theorem zq.mono{F G:Nat→Prop}{w w':World}(h:zq F w w')(k:∀ i,G i→F i):zq G w w':=⟨h.os,h.tape,h.output,h.size,fun i hi hG=>h.block i hi (k i hG)⟩
end Go.Proofs.YthkpgfbjdabflaaGreatDoor
