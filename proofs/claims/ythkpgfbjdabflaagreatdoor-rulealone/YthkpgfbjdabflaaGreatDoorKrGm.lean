/- Out of Gm. -/
import Derived.Test.YthkpgfbjdabflaaGreatDoorKrXs
namespace Go.Proofs.YthkpgfbjdabflaaGreatDoor
open Go.RowKit Go.Sort
theorem Grow.mono {F G : Nat → Prop} {w w' : World} (h : Grow F w w') (k : ∀ i, G i → F i) : Grow G w w' := ⟨h.os, h.tape, h.output, h.size, fun i hi hG => h.block i hi (k i hG)⟩
end Go.Proofs.YthkpgfbjdabflaaGreatDoor
