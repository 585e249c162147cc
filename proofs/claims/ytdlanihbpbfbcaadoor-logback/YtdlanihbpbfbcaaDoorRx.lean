/- Rows of memory behind calls, behind stores of whole rows and of one place. -/
import Derived.Test.YtdlanihbpbfbcaaDoorRw
namespace Go.Proofs.YtdlanihbpbfbcaaDoor
open Go.RowKit
set_option linter.unusedVariables false
variable {P : Program}
theorem name_world {c : Code} {Q : Exit → Act → World → Prop} {a : Act} (w : World) (h : ∀ w', w' = w → c.wp P Q a w') : c.wp P Q a w := h w rfl
theorem HasRow.lt {w : World} {g : Nat} {c : Array Value} (h : HasRow w g c) : g < w.heap.size := by
  obtain ⟨t, h⟩ := h
  exact (Array.getElem?_eq_some_iff.1 h).1
theorem HasRow.below {w w' : World} {g : Nat} {c : Array Value} (h : HasRow w g c) (hb : Below w.heap.size w w') : HasRow w' g c := by
  have hlt := h.lt
  obtain ⟨t, h⟩ := h
  exact ⟨t, by rw [hb.block g hlt]; exact h⟩
theorem HasRow.cell {w : World} {g : Nat} {c : Array Value} (h : HasRow w g c) (i : Nat) : w.cell? ⟨g, i, none⟩ = c[i]? := by
  obtain ⟨t, h⟩ := h
  exact cell_of_row w g i c t (0, 0) h
theorem size_setRow (w : World) (g : Nat) (c : Array Value) : (w.setRow g c).heap.size = w.heap.size := by simp [World.setRow]
theorem HasRow.set_same {w : World} {g : Nat} {c : Array Value} (h : HasRow w g c) (c' : Array Value) : HasRow (w.setRow g c') g c' := by
  obtain ⟨t, h⟩ := h
  refine ⟨t, ?_⟩
  simp only [World.setRow, Array.getElem?_modify, h]
  simp
theorem HasRow.set_other {w : World} {g g' : Nat} {c : Array Value} (h : HasRow w g c) (c' : Array Value) (hne : g' ≠ g) : HasRow (w.setRow g' c') g c := by
  obtain ⟨t, h⟩ := h
  refine ⟨t, ?_⟩
  simp only [World.setRow, Array.getElem?_modify, h]
  simp [hne]
theorem StoreTo.row {w : World} {g m : Nat} {c c' : Array Value} (h : HasRow w g c) (hm : c.size = m) : StoreTo w g m c' (w.setRow g c') := by
  obtain ⟨t, h⟩ := h
  exact ⟨c, t, h, hm, rfl⟩
theorem below_setRow {B : Nat} {a w : World} (h : Below B a w) {g : Nat} (hg : B ≤ g) (c : Array Value) : Below B a (w.setRow g c) :=
  ⟨h.os, h.tape, h.output, by rw [size_setRow]; exact h.size, fun b hb => by
    rw [← h.block b hb]
    simp only [World.setRow, Array.getElem?_modify]
    have : ¬ g = b := by omega
    simp [this]⟩
theorem HasRow.setCell {w : World} {g : Nat} {c : Array Value} (h : HasRow w g c) (i : Nat) (v : Value) : w.setCell ⟨g, i, none⟩ v = w.setRow g (c.setIfInBounds i v) := by
  obtain ⟨t, h⟩ := h
  unfold World.setCell World.setRow
  congr 1
  apply Array.ext_getElem?
  intro j
  simp only [Array.getElem?_modify]
  by_cases hj : g = j
  · subst hj; simp [h]
  · simp [hj]
end Go.Proofs.YtdlanihbpbfbcaaDoor
