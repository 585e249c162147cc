/- Out of Lo. -/
import Derived.Test.YtceedgdbhlpjlaaGreatDoorKfLm
import Derived.Test.YtceedgdbhlpjlaaGreatDoorKfMo
namespace Go.Proofs.YtceedgdbhlpjlaaGreatDoor
open Go.RowKit Go.Sort
set_option linter.unusedVariables false
theorem ag_cong {k : IntKind} {n : Nat} {f g : Nat → Nat} (h : ∀ i, i < n → f i = g i) : ag k n f = ag k n g := by
  apply Array.ext_getElem?
  intro i
  rw [ag_get, ag_get]
  by_cases hi : i < n
  · rw [if_pos hi, if_pos hi, h i hi]
  · rw [if_neg hi, if_neg hi]
theorem LR.same {X V : Nat} {q o : Nat → Nat} (h : LR X V q o) : Value.tuple #[A16 q, A8 o] = Value.tuple #[A16 (dg (X / V)), A8 (dg (rm X V))] := by
  have e1 : ag .u64 16 q = ag .u64 16 (dg (X / V)) := ag_cong fun i hi => by rw [← h.vq, dg_vl h.hq hi]
  have e2 : ag .u64 8 o = ag .u64 8 (dg (rm X V)) := ag_cong fun i hi => by unfold rm; rw [← h.vo, dg_vl h.ho hi]
  unfold A16 A8
  rw [e1, e2]
end Go.Proofs.YtceedgdbhlpjlaaGreatDoor
