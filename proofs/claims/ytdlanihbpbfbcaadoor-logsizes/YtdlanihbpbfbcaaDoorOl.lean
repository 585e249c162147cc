/- Small facts on memory: all blocks that stood at the start are as they were, behind calls, new blocks and stores into new ones. -/
import Derived.WalkKit
import Derived.Deep.RegionHeld3
namespace Go.Proofs.YtdlanihbpbfbcaaDoor
open Go.RowKit

def Old (w0 w' : World) : Prop := (∀ b o, b < w0.heap.size → w'.cell? ⟨b, o, none⟩ = w0.cell? ⟨b, o, none⟩) ∧ Below w0.heap.size w0 w'
theorem old_of {w0 w' : World} (h : Below w0.heap.size w0 w') : Old w0 w' := ⟨fun b o hb => h.cell (p := ⟨b, o, none⟩) hb, h⟩
theorem old_refl (w : World) : Old w w := old_of (Below.refl _ _)
theorem old_drew0 (w : World) : Old w w.drew := old_of (Below.refl _ _).drew
theorem old_drew {w0 w1 : World} (h : Old w0 w1) : Old w0 w1.drew := old_of h.2.drew
theorem old_call {w0 w1 w2 : World} (h : Old w0 w1) (hb : Below w1.heap.size w1 w2) : Old w0 w2 := old_of (h.2.trans (hb.mono h.2.size))
theorem old_alloc {w0 w1 : World} (h : Old w0 w1) (o : Obj) : Old w0 (w1.alloc o) := old_of (h.2.alloc h.2.size o)
theorem old_setCell {w0 w1 : World} (h : Old w0 w1) {p : Addr} (hp : w0.heap.size ≤ p.block) (u : Value) : Old w0 (w1.setCell p u) := old_of (h.2.setCell hp u)
theorem bel_call {w a b : World} (h : Below w.heap.size w a) (k : Below a.heap.size a b) : Below w.heap.size w b := h.trans (k.mono h.size)
theorem bel_alloc {w a : World} (h : Below w.heap.size w a) (o : Obj) : Below w.heap.size w (a.alloc o) := h.alloc h.size o
theorem bel_set {w a : World} (h : Below w.heap.size w a) {p : Addr} (hp : w.heap.size ≤ p.block) (u : Value) : Below w.heap.size w (a.setCell p u) := h.setCell hp u
theorem bcell {W1 w1 : World} (hb : Below W1.heap.size W1 w1) : (∀ b o, b < W1.heap.size → w1.cell? ⟨b, o, none⟩ = W1.cell? ⟨b, o, none⟩) ∧ (∀ b o, b < W1.heap.size → w1.frozen? ⟨b, o, none⟩ = W1.frozen? ⟨b, o, none⟩) ∧ W1.heap.size ≤ w1.heap.size :=
  ⟨fun b o h => hb.cell (p := ⟨b, o, none⟩) h, fun b o h => hb.frozen (p := ⟨b, o, none⟩) h, hb.size⟩
end Go.Proofs.YtdlanihbpbfbcaaDoor
