/- Operations on rows in memory, told one by one: loads and stores of parts, of single cells, of rows that are structs. No function of the program is named here. -/
import Derived.Test.YtdlanihbpbfbcaaDoorRg
import Derived.Laws.Rows
import Derived.Laws.CopyRow
namespace Go.Proofs.YtdlanihbpbfbcaaDoor
open Go.RowKit Go.Sort
set_option linter.unusedVariables false
section
variable {P : Program} {Q : Exit → Act → World → Prop} {o : Oper} {a' : Act} {w' : World}
/-- A type whose values are rows of cells. -/
def aggB : TypeDesc → Bool
  | .struct _ | .array _ _ => true
  | _ => false
theorem ob_loada (ty : TypeId) (x : Operand) (ho : o.op = .load ty x) {g off : Nat} (hx : a'.eval x = .pointer (some ⟨g, off, none⟩)) {c cs : Array Value} {d : TypeDesc} (hr : HasRow w' g c)
    (hu : P.underlying ty = some d) (hd : aggB d = true) (hi : (P.info? ty).map (·.size) = some cs.size) (hc : c.extract off (off + cs.size) = cs) : o.wp P a' w' (fun a'' w'' => a'' = a'.put o.dst (.agg cs) ∧ Below w'.heap.size w' w'') Q := by
  have hl : (loadCells ⟨g, off, none⟩ cs.toList.length).run P w' = .ok cs.toList.toArray w' :=
    run_loadCells_list (P := P) w' ⟨g, off, none⟩ cs.toList (fun j v hv => by
      have hadd : (⟨g, off, none⟩ : Addr).add j = ⟨g, off + j, none⟩ := by unfold Addr.add; split <;> simp_all
      rw [hadd, hr.cell]
      have hj : j < cs.size := by simpa using (List.getElem?_eq_some_iff.1 hv).1
      have h2 : cs[j]? = some v := by simpa using hv
      rw [← h2, ← hc, Array.getElem?_extract, if_pos]
      · have h3 := congrArg Array.size hc
        rw [Array.size_extract] at h3
        omega)
  have hA : (isAgg ty).run P w' = .ok true w' := by
    unfold isAgg
    simp only [Sem.run_bind, run_underlying hu, Result.andThen_ok]
    cases d <;> first | rfl | simp [aggB] at hd
  have hS : (sizeOf ty).run P w' = .ok cs.toList.length w' := by
    cases hq : P.info? ty with
    | none => simp [hq] at hi
    | some i => simp [sizeOf, typeInfo, hq]; simp [hq] at hi; exact hi
  have hL : (loadVar ty ⟨g, off, none⟩).run P w' = .ok (.agg cs) w' := by
    unfold loadVar
    simp only [Sem.run_bind, hA, Result.andThen_ok, if_true, hS, hl, Sem.run_pure, Array.toArray_toList]
  refine wp_valF (v := .agg cs) (w1 := w') ?_ ⟨rfl, Below.refl _ _⟩
  unfold execOp
  simp only [ho, hx, Instr.loadAt, Instr.sureAddr, Sem.run_bind, Sem.run_pure, Result.andThen_ok, hL]
theorem ob_load1 (ty : TypeId) (x : Operand) (ho : o.op = .load ty x) {g off : Nat} (hx : a'.eval x = .pointer (some ⟨g, off, none⟩)) {c : Array Value} {v : Value} {d : TypeDesc} (hr : HasRow w' g c)
    (hu : P.underlying ty = some d) (hd : aggB d = false) (hc : c[off]? = some v) : o.wp P a' w' (fun a'' w'' => a'' = a'.put o.dst v ∧ Below w'.heap.size w' w'') Q := by
  have hA : (isAgg ty).run P w' = .ok false w' := by
    unfold isAgg
    simp only [Sem.run_bind, run_underlying hu, Result.andThen_ok]
    cases d <;> first | rfl | simp [aggB] at hd
  have hcell : w'.cell? ⟨g, off, none⟩ = some v := by rw [hr.cell]; exact hc
  have hL : (loadVar ty ⟨g, off, none⟩).run P w' = .ok v w' := by
    unfold loadVar
    simp only [Sem.run_bind, hA, Result.andThen_ok, Bool.false_eq_true, if_false]
    rw [run_load, hcell]
  refine wp_valF (v := v) (w1 := w') ?_ ⟨rfl, Below.refl _ _⟩
  unfold execOp
  simp only [ho, hx, Instr.loadAt, Instr.sureAddr, Sem.run_bind, Sem.run_pure, Result.andThen_ok, hL]
/-- A row with other cells from a place on. -/
def over (c : Array Value) (off : Nat) (cs : Array Value) : Array Value := (c.toList.take off ++ cs.toList ++ c.toList.drop (off + cs.size)).toArray
theorem ob_storea (ty : TypeId) (x y : Operand) (ho : o.op = .store ty x y) {g off : Nat} (hx : a'.eval x = .pointer (some ⟨g, off, none⟩)) {v : Value} (hy : a'.eval y = v) {c cs : Array Value} (hv : v.cells = cs) (hr : HasRow w' g c)
    (hi : (P.info? ty).map (·.size) = some cs.size) (hn : off + cs.size ≤ c.size) (h1 : cs.all (·.oneCell') = true) {e : Array Value} (he : over c off cs = e) : o.wp P a' w' (fun a'' w'' => a'' = a'.put o.dst undef ∧ w'' = w'.setRow g e) Q := by
  obtain ⟨t, hg⟩ := hr
  have hs := run_storeCells_at P g off t cs.toList 0 c w' hg (by simpa using hn) (fun v hv => by
    have h2 := Array.all_eq_true_iff_forall_mem.1 h1 v (by simpa using hv)
    exact h2)
  have hV : (storeVar ty ⟨g, off, none⟩ v).run P w' = .ok () (w'.setRow g e) := by
    cases hq : P.info? ty with
    | none => simp [hq] at hi
    | some i =>
      have hz : cs.size = i.size := by simp [hq] at hi; omega
      have h3 : (c.toList.take (off + 0) ++ cs.toList ++ c.toList.drop (off + 0 + cs.toList.length)).toArray = e := by rw [← he]; simp [over]
      rw [h3] at hs
      simpa [storeVar, sizeOf, typeInfo, hq, hv, hz] using hs
  unfold Oper.wp execOp
  simp only [ho, hx, hy, Instr.storeAt, Instr.sureAddr, Sem.run_bind, Sem.run_pure, Result.andThen_ok, hV]
  exact ⟨rfl, rfl⟩
theorem resA {fn : Func} {p : Tmp} {ty : TypeId} (h : fn.results = #[.cell p ty]) {tmps : Array Value} {w : World} {g : Nat} {c : Array Value} {d : TypeDesc}
    (h1 : tmps.getD p undef = .pointer (some ⟨g, 0, none⟩)) (r1 : HasRow w g c) (hu : P.underlying ty = some d) (hd : aggB d = true) (hi : (P.info? ty).map (·.size) = some c.size) : (results fn tmps).run P w = .ok (.agg c) w := by
  obtain ⟨t, r1⟩ := r1
  have h1' : tmps[p]?.getD undef = .pointer (some ⟨g, 0, none⟩) := by rw [← h1]; simp
  have k1 := run_loadVar_row (P := P) w g t ty c (0, 0) d r1 hu (by cases d <;> simp_all [aggB]) hi
  simp only [results, h]
  simp [h1', asAddr, k1]
end
/-- Three numbers in a row; two and a truth value. -/
abbrev T3 (x y z : Nat) : Array Value := #[B (l0 x), B (l1 x), B (l2 x), B (l3 x), B (l0 y), B (l1 y), B (l2 y), B (l3 y), B (l0 z), B (l1 z), B (l2 z), B (l3 z)]
abbrev P9 (x y : Nat) (n : Bool) : Array Value := #[B (l0 x), B (l1 x), B (l2 x), B (l3 x), B (l0 y), B (l1 y), B (l2 y), B (l3 y), .bool n]
abbrev A3 (x y z : Nat) : Value := .agg (T3 x y z)
abbrev A9 (x y : Nat) (n : Bool) : Value := .agg (P9 x y n)
abbrev PT (g : Nat) : Value := .pointer (some ⟨g, 0, none⟩)
abbrev PO (g k : Nat) : Value := .pointer (some ⟨g, k, none⟩)
abbrev Z12 : Array Value := #[.int .u64 0, .int .u64 0, .int .u64 0, .int .u64 0, .int .u64 0, .int .u64 0, .int .u64 0, .int .u64 0, .int .u64 0, .int .u64 0, .int .u64 0, .int .u64 0]
abbrev Z9 : Array Value := #[.int .u64 0, .int .u64 0, .int .u64 0, .int .u64 0, .int .u64 0, .int .u64 0, .int .u64 0, .int .u64 0, .bool false]
end Go.Proofs.YtdlanihbpbfbcaaDoor
