/- Whole arrays out of and into blocks of memory, in worlds that are written out. -/
import Derived.Test.YtdlanihbpbfbcaaDoorAg
import Derived.Laws.Rows
import Derived.Laws.Tables
import Derived.Deep.WholeRow
import Derived.Deep.Draws
namespace Go.Proofs.YtdlanihbpbfbcaaDoor
open Go.RowKit
set_option linter.unusedVariables false
variable {P : Program}

/-- The block n holds the row c; with another row there the world is F of it. -/
def RowAt (w : World) (n : Nat) (c : Array Value) (t : TypeId) (F : Array Value → World) : Prop :=
  w.heap[n]? = some (.cells c t (0, 0)) ∧ ∀ c', w.setRow n c' = F c'
theorem RowAt.last {w : World} {n : Nat} {c : Array Value} {t : TypeId} (h : n = w.heap.size) : RowAt (w.alloc (.cells c t)) n c t (fun c' => w.alloc (.cells c' t)) := by
  subst h
  exact ⟨heap_alloc_last w _, fun c' => World.setRow_alloc_new w c c' t⟩
theorem RowAt.old {w : World} {n : Nat} {c : Array Value} {t : TypeId} {F : Array Value → World} {o : Obj} (h : RowAt w n c t F) : RowAt (w.alloc o) n c t (fun c' => (F c').alloc o) := by
  obtain ⟨h1, h2⟩ := h
  have hlt : n < w.heap.size := (Array.getElem?_eq_some_iff.1 h1).1
  refine ⟨by rw [heap_alloc_old w o hlt]; exact h1, fun c' => ?_⟩
  show (w.alloc o).setRow n c' = (F c').alloc o
  rw [← h2 c']
  simp only [World.setRow, World.alloc]
  congr 1
  apply Array.ext_getElem?
  intro i
  rw [Array.getElem?_modify, Array.getElem?_push, Array.getElem?_push, Array.size_modify, Array.getElem?_modify]
  by_cases hi : i = w.heap.size
  · have hn : ¬ n = i := by omega
    simp [hi]
    intro hh; omega
  · simp [hi]
theorem RowAt.of {w : World} {n : Nat} {c : Array Value} {t : TypeId} (h : w.heap[n]? = some (.cells c t (0, 0))) : RowAt w n c t (fun c' => w.setRow n c') := ⟨h, fun _ => rfl⟩

theorem wpList_rload {ops : Array Oper} {rest : List Oper} {o : Oper} {a : Act} {w : World} {Q : Exit → Act → World → Prop} (hgd : o.guard = none) (ty : TypeId) (x : Operand) (ho : o.op = .load ty x)
    (g : Nat) (hx : a.eval x = .pointer (some ⟨g, 0, none⟩)) {k : IntKind} {n : Nat} {f : Nat → Nat} {t e : TypeId} {F : Array Value → World} (hr : RowAt w g (ag k n f) t F)
    (hu : P.underlying ty = some (.array n e)) (hi : (P.info? ty).map (·.size) = some n)
    (h : wpList P ops Q rest (a.put o.dst (.agg (ag k n f))) w) : wpList P ops Q (o :: rest) a w :=
  wpList_load_row hgd ty x ho g hx t (ag k n f) (0, 0) _ hr.1 hu rfl (by rw [ag_size]; exact hi) h

theorem wpList_rstore {ops : Array Oper} {rest : List Oper} {o : Oper} {a : Act} {w : World} {Q : Exit → Act → World → Prop} (hgd : o.guard = none) (ty : TypeId) (x y : Operand) (ho : o.op = .store ty x y)
    (g : Nat) {k : IntKind} {n : Nat} {f : Nat → Nat} (hx : a.eval x = .pointer (some ⟨g, 0, none⟩)) (hy : a.eval y = .agg (ag k n f))
    {t : TypeId} {old : Array Value} {F : Array Value → World} (hr : RowAt w g old t F) (hi : (P.info? ty).map (·.size) = some n)
    (hold : old.size = n)
    (h : wpList P ops Q rest (a.put o.dst undef) (F (ag k n f))) : wpList P ops Q (o :: rest) a w :=
  wpList_store_row hgd ty x y ho g (ag k n f) hx hy t old hr.1 (by rw [ag_size]; exact hi) (by rw [ag_size]; exact hold) (ag_one k n f) (by rw [hr.2]; exact h)

/-- The block g holds the row c, whatever its mark. -/
def HasRow (w : World) (g : Nat) (c : Array Value) : Prop := ∃ t, w.heap[g]? = some (.cells c t (0, 0))
theorem HasRow.last {w : World} {n : Nat} {c : Array Value} {t : TypeId} (h : n = w.heap.size) : HasRow (w.alloc (.cells c t)) n c := ⟨t, by subst h; exact heap_alloc_last w _⟩
theorem HasRow.old {w : World} {n : Nat} {c : Array Value} {o : Obj} (h : HasRow w n c) : HasRow (w.alloc o) n c := by
  obtain ⟨t, h⟩ := h
  have hlt : n < w.heap.size := (Array.getElem?_eq_some_iff.1 h).1
  exact ⟨t, by rw [heap_alloc_old w o hlt]; exact h⟩
/-- A row of m cells stored into block g makes of w the world W'. -/
def StoreTo (w : World) (g m : Nat) (c' : Array Value) (W' : World) : Prop := ∃ old t, w.heap[g]? = some (.cells old t (0, 0)) ∧ old.size = m ∧ w.setRow g c' = W'
theorem StoreTo.last {w : World} {n m : Nat} {c c' : Array Value} {t : TypeId} (h : n = w.heap.size) (hm : c.size = m) : StoreTo (w.alloc (.cells c t)) n m c' (w.alloc (.cells c' t)) :=
  ⟨c, t, by subst h; exact heap_alloc_last w _, hm, by subst h; exact World.setRow_alloc_new w c c' t⟩
theorem StoreTo.old {w W' : World} {n m : Nat} {c' : Array Value} {o : Obj} (h : StoreTo w n m c' W') : StoreTo (w.alloc o) n m c' (W'.alloc o) := by
  obtain ⟨old, t, h1, h2, h3⟩ := h
  obtain ⟨k1, k2⟩ := RowAt.old (o := o) (RowAt.of h1)
  exact ⟨old, t, k1, h2, by rw [k2 c', ← h3]⟩

theorem wpList_rload' {ops : Array Oper} {rest : List Oper} {o : Oper} {a : Act} {w : World} {Q : Exit → Act → World → Prop} (hgd : o.guard = none) (ty : TypeId) (x : Operand) (ho : o.op = .load ty x)
    (g : Nat) (hx : a.eval x = .pointer (some ⟨g, 0, none⟩)) (k : IntKind) (n : Nat) (f : Nat → Nat) {e : TypeId} (hr : HasRow w g (ag k n f))
    (hu : P.underlying ty = some (.array n e)) (hi : (P.info? ty).map (·.size) = some n)
    (h : wpList P ops Q rest (a.put o.dst (.agg (ag k n f))) w) : wpList P ops Q (o :: rest) a w := by
  obtain ⟨t, hr⟩ := hr
  exact wpList_load_row hgd ty x ho g hx t (ag k n f) (0, 0) _ hr hu rfl (by rw [ag_size]; exact hi) h
/-- The array c is the row of n integers. -/
structure IsRow (c : Array Value) (k : IntKind) (n : Nat) (f : Nat → Nat) : Prop where
  eq : c = ag k n f
theorem IsRow.size {c : Array Value} {k : IntKind} {n : Nat} {f : Nat → Nat} (h : IsRow c k n f) : c.size = n := by rw [h.eq]; exact ag_size k n f
theorem wpList_vload {ops : Array Oper} {rest : List Oper} {o : Oper} {a : Act} {w : World} {Q : Exit → Act → World → Prop} (hgd : o.guard = none) (ty : TypeId) (x : Operand) (ho : o.op = .load ty x)
    (g : Nat) (hx : a.eval x = .pointer (some ⟨g, 0, none⟩)) (k : IntKind) (n : Nat) (f : Nat → Nat) {e : TypeId} (hr : HasRow w g (ag k n f))
    (hu : P.underlying ty = some (.array n e)) (hi : (P.info? ty).map (·.size) = some n)
    (h : ∀ c, IsRow c k n f → wpList P ops Q rest (a.put o.dst (.agg c)) w) : wpList P ops Q (o :: rest) a w :=
  wpList_rload' hgd ty x ho g hx k n f hr hu hi (h _ ⟨rfl⟩)
theorem run_storeCells_to {w W' : World} {g n : Nat} {k : IntKind} {f : Nat → Nat} (ty : TypeId) (hi : (P.info? ty).map (·.size) = some n) (h : StoreTo w g n (ag k n f) W') :
    (storeCells ⟨g, 0, none⟩ (ag k n f).toList 0).run P w = .ok () W' := by
  obtain ⟨old, t, h1, h2, h3⟩ := h
  have hz : (ag k n f).size = n := ag_size k n f
  have := run_storeVar_row (P := P) w g t ty old (ag k n f) h1 (by rw [hz]; exact hi) (by rw [hz]; exact h2) (ag_one k n f)
  rw [h3] at this
  cases hq : P.info? ty with
  | none => simp [hq] at hi
  | some i =>
    have hs : (ag k n f).size = i.size := by simp [hq] at hi; omega
    simpa [storeVar, sizeOf, typeInfo, hq, Value.cells, hs] using this
theorem run_storeCells_v {w W' : World} {g n : Nat} {k : IntKind} {f : Nat → Nat} {c : Array Value} (hv : IsRow c k n f) (ty : TypeId) (hi : (P.info? ty).map (·.size) = some n) (h : StoreTo w g n (ag k n f) W') :
    (storeCells ⟨g, 0, none⟩ c.toList 0).run P w = .ok () W' := by
  rw [hv.eq]; exact run_storeCells_to ty hi h
theorem run_load_to {w : World} {g n : Nat} {k : IntKind} {f : Nat → Nat} (ty : TypeId) {e : TypeId} (hu : P.underlying ty = some (.array n e)) (hi : (P.info? ty).map (·.size) = some n) (h : HasRow w g (ag k n f)) :
    (loadVar ty ⟨g, 0, none⟩).run P w = .ok (.agg (ag k n f)) w := by
  obtain ⟨t, h⟩ := h
  exact run_loadVar_row w g t ty (ag k n f) (0, 0) _ h hu rfl (by rw [ag_size]; exact hi)
theorem HasRow.drewN {w : World} {n : Nat} {c : Array Value} (h : HasRow w n c) (q : Nat) : HasRow (w.drewN q) n c := h
theorem StoreTo.drewN {w W' : World} {n m : Nat} {c' : Array Value} (h : StoreTo w n m c' W') (q : Nat) : StoreTo (w.drewN q) n m c' (W'.drewN q) := by
  obtain ⟨old, t, h1, h2, h3⟩ := h
  exact ⟨old, t, h1, h2, by rw [← h3]; rfl⟩
theorem setCell_drewN (w : World) (n : Nat) (a : Addr) (v : Value) : (w.drewN n).setCell a v = (w.setCell a v).drewN n := by
  unfold World.drewN World.setCell
  split <;> rfl
theorem below_drewN {B : Nat} {a w : World} (h : Below B a w) (n : Nat) : Below B a (w.drewN n) := ⟨h.os, h.tape, h.output, h.size, h.block⟩
end Go.Proofs.YtdlanihbpbfbcaaDoor
