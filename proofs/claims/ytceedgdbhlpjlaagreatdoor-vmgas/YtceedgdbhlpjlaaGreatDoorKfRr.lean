/- Out of Rr. -/
import Derived.Test.YtceedgdbhlpjlaaGreatDoorKfLo
import Derived.Test.YtceedgdbhlpjlaaGreatDoorKfLg
import Derived.Test.YtceedgdbhlpjlaaGreatDoorKfDm
import Derived.Test.YtceedgdbhlpjlaaGreatDoorKfLa
import Derived.WalkMore
namespace Go.Proofs.YtceedgdbhlpjlaaGreatDoor
open Go.RowKit Go.Sort
set_option linter.unusedVariables false
structure RR (w w' : World) (hi lo m b1 b2 : Nat) (fh fl dd : Nat → Nat) : Prop where
  m : HasRow w' (w.heap.size + 1 + 1) #[B (l0 m), B (l1 m), B (l2 m), B (l3 m)]
  r : HasRow w' (w.heap.size + 1 + 1 + 1) #[.int .u64 0, .int .u64 0, .int .u64 0, .int .u64 0]
  d : HasRow w' (w.heap.size + 1 + 1 + 1 + 1) (ag .u64 16 dd)
  h : HasRow w' b1 (ag .u64 8 fh)
  l : HasRow w' b2 (ag .u64 8 fl)
  b : Below w.heap.size w w'
  g1 : w.heap.size + 1 + 1 + 1 + 1 < b1
  g2 : b1 < b2
theorem RR.put {w w' : World} {hi lo m b1 b2 : Nat} {fh fl dd : Nat → Nat} (h : RR w w' hi lo m b1 b2 fh fl dd) (i x : Nat) : RR w (w'.setCell ⟨w.heap.size + 1 + 1 + 1 + 1, i, none⟩ (.int .u64 (x : Nat))) hi lo m b1 b2 fh fl (upd dd i x) := by
  have hg := h.g1
  have hv := h.g2
  rw [h.d.setCell, ag_set]
  exact ⟨h.m.set_other _ (by omega), h.r.set_other _ (by omega), h.d.set_same _, h.h.set_other _ (by omega), h.l.set_other _ (by omega), below_setRow h.b (by omega) _, hg, hv⟩
end Go.Proofs.YtceedgdbhlpjlaaGreatDoor
