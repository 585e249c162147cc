/- Small facts on memory: all blocks that stood at the start are as they were, behind calls, new blocks and stores into new ones. -/
import Derived.WalkKit
import Derived.Deep.RegionHeld3
namespace Go.Proofs.YtpdoonofipcbeaaDoor
open Go.RowKit

theorem bel_alloc {w a : World} (h : Below w.heap.size w a) (o : Obj) : Below w.heap.size w (a.alloc o) := h.alloc h.size o
end Go.Proofs.YtpdoonofipcbeaaDoor
