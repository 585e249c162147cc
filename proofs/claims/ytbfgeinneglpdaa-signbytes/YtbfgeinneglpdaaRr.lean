/- The document's Rest and Div, told by numbers. -/
import Derived.Test.YtbfgeinneglpdaaLo
import Derived.Test.YtbfgeinneglpdaaPt
import Derived.Test.YtbfgeinneglpdaaDc
import Derived.Test.YtbfgeinneglpdaaRz
import Derived.Test.YtbfgeinneglpdaaLa
import Derived.WalkMore
namespace Go.Proofs.Ytbfgeinneglpdaa
open Go.RowKit Go.Sort
set_option linter.unusedVariables false
structure CRR (w : World) (N0 : Nat) (m : Nat) (dd fm q o : Nat → Nat) (listed : Array Bool) (vs : Nat → Value) (w' : World) : Prop where
  bw : Below w.heap.size w w'
  ms : N0 ≤ w'.heap.size
  R0 : HasRow w' (w.heap.size + 1 + 1 + 1 + 1) (ag .u64 16 dd)
  R1 : HasRow w' (w.heap.size + 1 + 1) #[B (l0 m), B (l1 m), B (l2 m), B (l3 m)]
  R2 : HasRow w' (w.heap.size + 1 + 1 + 1) #[.int .u64 0, .int .u64 0, .int .u64 0, .int .u64 0]
  c0 : listed.getD 0 false = true → vs 0 = A16 dd
  c1 : listed.getD 1 false = true → vs 1 = U m
  c2 : listed.getD 2 false = true → vs 2 = A8 fm
  c3 : listed.getD 3 false = true → vs 3 = .tuple #[A16 q, A8 o]
  c4 : listed.getD 4 false = true → vs 4 = .tuple #[A16 q, A8 o]
  c5 : listed.getD 5 false = true → vs 5 = A16 q
  c6 : listed.getD 6 false = true → vs 6 = A8 o
  c7 : listed.getD 7 false = true → ∃ g c, vs 7 = .pointer (some ⟨g, 0, none⟩) ∧ N0 ≤ g ∧ HasRow w' g c ∧ c.size = 16 ∧ (listed.getD 9 false = true → c = (ag .u64 16 q))
  c8 : listed.getD 8 false = true → ∃ g c, vs 8 = .pointer (some ⟨g, 0, none⟩) ∧ N0 ≤ g ∧ HasRow w' g c ∧ c.size = 8 ∧ (listed.getD 10 false = true → c = (ag .u64 8 o))
  c9 : listed.getD 9 false = true → listed.getD 7 false = true
  c10 : listed.getD 10 false = true → listed.getD 8 false = true
  ne7_8 : listed.getD 7 false = true → listed.getD 8 false = true → vs 7 ≠ vs 8

structure RR (w w' : World) (hi lo m b1 b2 : Nat) (fh fl dd : Nat → Nat) : Prop where
  m : HasRow w' (w.heap.size + 1 + 1) #[B (l0 m), B (l1 m), B (l2 m), B (l3 m)]
  r : HasRow w' (w.heap.size + 1 + 1 + 1) #[.int .u64 0, .int .u64 0, .int .u64 0, .int .u64 0]
  d : HasRow w' (w.heap.size + 1 + 1 + 1 + 1) (ag .u64 16 dd)
  h : HasRow w' b1 (ag .u64 8 fh)
  l : HasRow w' b2 (ag .u64 8 fl)
  b : Below w.heap.size w w'
  g1 : w.heap.size + 1 + 1 + 1 + 1 < b1
  g2 : b1 < b2
theorem RR.put {w w' : World} {hi lo m b1 b2 : Nat} {fh fl dd : Nat → Nat} (h : RR w w' hi lo m b1 b2 fh fl dd) (i x : Nat) : RR w (w'.setCell ⟨w.heap.size + 1 + 1 + 1 + 1, i, none⟩ (.int .u64 (x : Nat))) hi lo m b1 b2 fh fl (upd dd i x) := by
  have hg := h.g1
  have hv := h.g2
  rw [h.d.setCell, ag_set]
  exact ⟨h.m.set_other _ (by omega), h.r.set_other _ (by omega), h.d.set_same _, h.h.set_other _ (by omega), h.l.set_other _ (by omega), below_setRow h.b (by omega) _, hg, hv⟩

end Go.Proofs.Ytbfgeinneglpdaa
