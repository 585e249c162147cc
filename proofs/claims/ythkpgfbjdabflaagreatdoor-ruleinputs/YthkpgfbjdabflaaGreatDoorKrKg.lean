/- Laid one behind the other: Kg, Kh, Ki. -/
import Derived.Test.YthkpgfbjdabflaaGreatDoorKrXe
import Derived.Test.YthkpgfbjdabflaaGreatDoorKrKb
import Derived.Scope
namespace Go.Proofs.YthkpgfbjdabflaaGreatDoor
open Go.RowKit Go.Sort Go.Shelf
set_option linter.unusedVariables false
/-- Blocks below a number lie as they lay, and so do all cells. -/
structure Sf (N : Nat) (A B : World) : Prop where
  bl : RowKit.Below N A B
  ce : ∀ (k : Nat) (o : Obj), A.heap[k]? = some o → o.isCells = true → B.heap[k]? = some o
theorem Sf.grow {N : Nat} {A B : World} (h : RowKit.Below A.heap.size A B) (hN : N ≤ A.heap.size) : Sf N A B := ⟨h.mono hN, fun k o hk _ => (h.block k (Array.getElem?_eq_some_iff.1 hk).1).trans hk⟩
theorem Sf.put {N l : Nat} {A : World} {o o' : Obj} (h : N ≤ l) (hl : A.heap[l]? = some o) (ho : o.isCells = false) : Sf N A (A.putObj l o') :=
  ⟨belowPut A o' h, fun k q hk hq => by
    refine (World.putObj_heap_other ?_).trans hk
    rintro rfl
    rw [hl] at hk; cases hk; rw [ho] at hq; cases hq⟩
theorem Sf.row {N : Nat} {A B : World} (h : Sf N A B) {g : Nat} {c : Array Value} (hr : HasRow A g c) : HasRow B g c := by
  obtain ⟨t, hr⟩ := hr
  exact ⟨t, h.ce g _ hr rfl⟩
section
variable {P : Program} {ops : Array Oper} {Q : Exit → Act → World → Prop} {l n : Nat}
end
end Go.Proofs.YthkpgfbjdabflaaGreatDoor
namespace Go.Proofs.YthkpgfbjdabflaaGreatDoor
open Go.RowKit Go.Sort Go.Shelf
set_option linter.unusedVariables false
set_option maxRecDepth 100000
/-- A code's operations, each with its place and those of its own bytes that are there. -/
def pcF : Nat → Nat → List UInt8 → List (Nat × List UInt8)
  | 0, _, _ => []
  | _ + 1, _, [] => []
  | f + 1, p, b :: r => (p, b :: r.take (min (ownN b.toNat) r.length)) :: pcF f (p + 1 + min (ownN b.toNat) r.length) (r.drop (min (ownN b.toNat) r.length))
def pc (p : Nat) (l : List UInt8) : List (Nat × List UInt8) := pcF l.length p l
section
variable {P : Program} {J : World → Prop} {F : Nat → Prop} {ds : List Deferred} {β : Nat → Nat} {c : Cf} {a : Act} {w : World} {Q : Exit → Act → World → Prop} {n : Nat}
end
/-- The text that an iterator holds. -/
abbrev XT (b : Nat) (c : List UInt8) (w : World) : Prop := HasRow w b #[str c]
theorem XT.load {b : Nat} {c : List UInt8} {w : World} (h : XT b c w) : (loadVar 9 ⟨b, 0, none⟩).run Tryz.prog w = .ok (str c) w := load1 (cells_row h 0 1 (by simp)) 0 rfl 9 Tryz.underlying9 rfl
theorem XT.below {b : Nat} {c : List UInt8} {w w' : World} (h : XT b c w) (hb : RowKit.Below w.heap.size w w') : XT b c w' := HasRow.below h hb
end Go.Proofs.YthkpgfbjdabflaaGreatDoor
namespace Go.Proofs.YthkpgfbjdabflaaGreatDoor
open Go.RowKit Go.Sort Go.Shelf
set_option linter.unusedVariables false
set_option maxRecDepth 100000
section
variable {P : Program} {J : World → Prop} {F : Nat → Prop} {ds : List Deferred} {β : Nat → Nat} {c : Cf} {a : Act} {w : World} {Q : Exit → Act → World → Prop}
def mkQ (c : Cf) : Option (TypeId × SV × SV) := match opAtQ c with
  | some o => match o.op with
    | .makeSlice t l k => (evQ c.tm l).bind fun x => (evQ c.tm k).map fun y => (t, x, y)
    | _ => none
  | none => none
theorem mksQ {t : TypeId} {x y : SV} {v : Value} {w' : World} (I : SI J F ds β c a w) (hr : (Instr.makeSlice t (up β x) (up β y)).run P w = .ok v w') (k : At P Q (nxtQ c v) (a.put (dstQ c) v) w') (hc : mkQ c = some (t, x, y) := by kernel_rfl) : At P Q c a w := by
  unfold mkQ at hc
  split at hc
  · next o ho =>
    split at hc
    · next t' l k' hop =>
      simp only [Option.bind_eq_some_iff, Option.map_eq_some_iff, Prod.mk.injEq] at hc
      obtain ⟨x', hx, y', hy, rfl, rfl, rfl⟩ := hc
      refine vstep ho I (v := v) (w' := w') ?_ k
      unfold execOp
      simp only [hop, evQ_ok I.fr hx, evQ_ok I.fr hy, Sem.run_bind, hr, Result.andThen_ok, Sem.run_pure]
    · cases hc
  · cases hc
end
end Go.Proofs.YthkpgfbjdabflaaGreatDoor
