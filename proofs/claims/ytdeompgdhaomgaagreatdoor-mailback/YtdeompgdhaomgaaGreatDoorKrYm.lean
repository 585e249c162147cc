/- Out of Ym. -/
import Derived.Test.YtdeompgdhaomgaaGreatDoorKrYh
import Derived.Test.YtdeompgdhaomgaaGreatDoorKrTm
import Derived.Test.YtdeompgdhaomgaaGreatDoorKrTq
import Derived.Test.YtdeompgdhaomgaaGreatDoorKrTv
import Derived.Test.YtdeompgdhaomgaaGreatDoorKrUf
import Derived.Test.YtdeompgdhaomgaaGreatDoorKrVg
namespace Go.Proofs.YtdeompgdhaomgaaGreatDoor
open Go.RowKit Go.Sort
set_option linter.unusedVariables false
set_option maxRecDepth 100000
/-- Blocks that stay as they are. -/
structure KP (K : Nat → Prop) (lo : Nat) (w2 w : World) : Prop where
  kb : ∀ k, K k → lo ≤ k ∧ k < w.heap.size
  eq : ∀ k, K k → w.heap[k]? = w2.heap[k]?
theorem KP.rs (K : Nat → Prop) (lo : Nat) (w2 : World) : Rsrc (KP K lo w2) K :=
  ⟨fun w w' h gr => ⟨fun k hk => ⟨(h.kb k hk).1, Nat.lt_of_lt_of_le (h.kb k hk).2 gr.size⟩, fun k hk => (gr.block k (h.kb k hk).2 hk).trans (h.eq k hk)⟩, fun w k h hk => (h.kb k hk).2⟩
end Go.Proofs.YtdeompgdhaomgaaGreatDoor
