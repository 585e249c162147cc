/- Out of Yn. -/
import Derived.Test.YtomdiafkoeefpaaGreatDoorKrYl
namespace Go.Proofs.YtomdiafkoeefpaaGreatDoor
open Go.RowKit Go.Sort
set_option linter.unusedVariables false
set_option maxRecDepth 100000
def iP {T : World → Prop} (t : Nat) {g off d : Nat} {i : Int} (hv : ioV Tryz.prog t i = some d) : Fa Tryz.prog T := Sum.inr (Sum.inr
  { ok := fun | .indexAddr t' _ _ => t' == t | _ => false
    xs := #[.pointer (some ⟨g, off, none⟩), Z i]
    v := .pointer (some ⟨g, off + d, none⟩)
    fr := true
    h := by
      intro a w oo _ hok hx
      cases hop : oo.op with
      | indexAddr t' x y =>
        rw [hop] at hok hx
        simp only [beq_iff_eq] at hok
        subst hok
        simp only [opnds, List.map_cons, List.map_nil] at hx
        have hx' : a.eval x = .pointer (some ⟨g, off, none⟩) ∧ a.eval y = Z i := by simpa using hx
        unfold execOp
        simp only [hop, hx'.1, hx'.2]
        have := (ty_ok (P := Tryz.prog) (by kernel_rfl)).hio t' i d hv g off w
        simp only [Sem.run_bind, this, Result.andThen_ok, Sem.run_pure]
      | _ => rw [hop] at hok; simp at hok })
end Go.Proofs.YtomdiafkoeefpaaGreatDoor
