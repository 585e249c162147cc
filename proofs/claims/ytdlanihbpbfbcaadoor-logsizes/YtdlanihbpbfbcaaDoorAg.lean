/- Arrays in memory as functions of their places. -/
import Derived.Test.YtdlanihbpbfbcaaDoorDg
import Derived.Test.YtdlanihbpbfbcaaDoorWt
import Derived.Test.YtdlanihbpbfbcaaDoorOl
namespace Go.Proofs.YtdlanihbpbfbcaaDoor
open Go.RowKit
set_option linter.unusedVariables false

/-- The cells of an array of n integers of a kind. -/
def ag (k : IntKind) (n : Nat) (f : Nat → Nat) : Array Value := Array.ofFn (n := n) fun i => Value.int k ((f i.val : Nat) : Int)
theorem ag_size (k : IntKind) (n : Nat) (f : Nat → Nat) : (ag k n f).size = n := by simp [ag]
theorem ag_get (k : IntKind) (n : Nat) (f : Nat → Nat) (i : Nat) : (ag k n f)[i]? = if i < n then some (Value.int k ((f i : Nat) : Int)) else none := by
  unfold ag
  rw [Array.getElem?_ofFn]
  split <;> rfl
theorem ag_set (k : IntKind) (n : Nat) (f : Nat → Nat) (i x : Nat) : (ag k n f).setIfInBounds i (Value.int k ((x : Nat) : Int)) = ag k n (upd f i x) := by
  apply Array.ext_getElem?
  intro j
  rw [ag_get, Array.getElem?_setIfInBounds, ag_get, ag_size]
  unfold upd
  by_cases h : i = j
  · subst h; by_cases h2 : i < n <;> simp [h2]
  · have h' : ¬ j = i := fun e => h e.symm
    simp [h, h']
theorem ag_congr (k : IntKind) (n : Nat) {f g : Nat → Nat} (h : ∀ i, i < n → f i = g i) : ag k n f = ag k n g := by
  unfold ag
  congr 1
  funext i
  rw [h i.val i.isLt]
theorem ag_one (k : IntKind) (n : Nat) (f : Nat → Nat) : (ag k n f).all (·.oneCell') = true := by
  unfold ag
  rw [Array.all_eq_true]
  intro i hi
  simp [Value.oneCell']
end Go.Proofs.YtdlanihbpbfbcaaDoor
