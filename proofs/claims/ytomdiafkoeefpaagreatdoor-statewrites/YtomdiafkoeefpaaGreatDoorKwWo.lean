/- Out of Wo. -/
import Derived.Test.YtomdiafkoeefpaaGreatDoorKwWk
namespace Go.Proofs.YtomdiafkoeefpaaGreatDoor
open Go.RowKit Go.Sort
set_option linter.unusedVariables false
set_option maxRecDepth 100000
theorem SI.free {J J' : World → Prop} {F F' : Nat → Prop} {ds : List Deferred} {β : Nat → Nat} {c : Cf} {a : Act} {w w' : World} (I : SI J F ds β c a w) (hJ : J' w') (v : Value) (hr : c.rows = [] := by kernel_rfl) : SI J' F' ds β (nxtQ c v) (a.put (dstQ c) v) w' := by
  have h0 : ∀ p, ¬ p ∈ (nxtQ c v).rows := fun p hp => by
    have : (nxtQ c v).rows = c.rows := rfl
    rw [this, hr] at hp
    cases hp
  refine ⟨putQ_fr I.fr (dstQ c) (some (Sum.inl v)), ?_, hJ, fun p hp => absurd hp (h0 p), fun p hp => absurd hp (h0 p), fun p hp => absurd hp (h0 p), fun p hp => absurd hp (h0 p), idsB_put I.ids (dstQ c) (by intro i o h; cases h)⟩
  cases dstQ c <;> exact I.df
end Go.Proofs.YtomdiafkoeefpaaGreatDoor
