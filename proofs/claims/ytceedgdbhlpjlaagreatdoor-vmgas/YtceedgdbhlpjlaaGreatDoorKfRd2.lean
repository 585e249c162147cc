/- Out of Rd2. -/
import Derived.Test.YtceedgdbhlpjlaaGreatDoorKfRr
import Derived.Test.YtceedgdbhlpjlaaGreatDoorKfLg
import Derived.Test.YtceedgdbhlpjlaaGreatDoorKfDm
import Derived.Test.YtceedgdbhlpjlaaGreatDoorKfLa
import Derived.WalkMore
namespace Go.Proofs.YtceedgdbhlpjlaaGreatDoor
open Go.RowKit Go.Sort
set_option linter.unusedVariables false
structure DR (w w' : World) (b b1 : Nat) (fa dd : Nat → Nat) : Prop where
  m : HasRow w' (w.heap.size + 1) #[B (l0 b), B (l1 b), B (l2 b), B (l3 b)]
  r : HasRow w' (w.heap.size + 1 + 1) #[.int .u64 0, .int .u64 0, .int .u64 0, .int .u64 0]
  s : HasRow w' (w.heap.size + 1 + 1 + 1) #[.int .u64 0, .int .u64 0, .int .u64 0, .int .u64 0]
  d : HasRow w' (w.heap.size + 1 + 1 + 1 + 1) (ag .u64 16 dd)
  h : HasRow w' b1 (ag .u64 8 fa)
  bw : Below w.heap.size w w'
  g1 : w.heap.size + 1 + 1 + 1 + 1 < b1
theorem DR.put {w w' : World} {b b1 : Nat} {fa dd : Nat → Nat} (h : DR w w' b b1 fa dd) (i x : Nat) : DR w (w'.setCell ⟨w.heap.size + 1 + 1 + 1 + 1, i, none⟩ (.int .u64 (x : Nat))) b b1 fa (upd dd i x) := by
  have hg := h.g1
  rw [h.d.setCell, ag_set]
  exact ⟨h.m.set_other _ (by omega), h.r.set_other _ (by omega), h.s.set_other _ (by omega), h.d.set_same _, h.h.set_other _ (by omega), below_setRow h.bw (by omega) _, hg⟩
end Go.Proofs.YtceedgdbhlpjlaaGreatDoor
