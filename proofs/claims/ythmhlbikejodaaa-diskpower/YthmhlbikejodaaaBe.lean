/- Devices that are handed in; arguments read again behind a call that changes nothing. -/
import Derived.Test.YthmhlbikejodaaaBa
import Derived.Test.YthmhlbikejodaaaOp
import Derived.ReadAgain
import Derived.ChangeShapes
namespace Go.Proofs.Ythmhlbikejodaaa
open Go.RowKit Go.Sort Go.ChangeShapes Go.WideShapes Go.ChangeAt
set_option linter.unusedVariables false
set_option maxRecDepth 100000
section
variable {H : Type} {enc : TypeId × Value → H} {w : World} {base : Nat} {spare : Nat → Bool} {held : Bool}
theorem c9 : Try.prog.cellsOf 9 = 1 := by kernel_rfl
theorem c3 : Try.prog.cellsOf 3 = 1 := by kernel_rfl
theorem c4 : Try.prog.cellsOf 4 = 1 := by kernel_rfl
theorem c23 : Try.prog.cellsOf 23 = 4 := by kernel_rfl
theorem open_disk {r : Reach} {b0 : Nat} {v : Value} {d : DataW H} {p : List MemPlace} (hv : Value.okWide Try.prog w r b0 23 v) (h : DataW.Trod enc Try.prog w base spare held 23 v d p) : ∃ (x y : By) (f : Int) (o : Bool), v = dk x y f o := by
  obtain ⟨cs, rfl, hsz⟩ := okWide_struct Try.underlying23 hv
  obtain ⟨fuel, hf⟩ := h
  obtain ⟨xs, n, _, hx, hl, hlen, hfl⟩ := DataW.trod_struct Try.underlying23 hf
  rw [c23] at hsz
  obtain ⟨cs⟩ := cs
  match cs, hsz with
  | [a0, a1, a2, a3], _ =>
    have h4 : (Value.agg #[a0, a1, a2, a3]).cells.toList = [a0, a1, a2, a3] := rfl
    match xs, hlen with
    | [y0, y1, y2, y3], _ =>
      have f0 : DataW.trod enc Try.prog w base spare held n 9 [a0] = some y0 := by have q : DataW.trod enc Try.prog w base spare held n 9 (([a0, a1, a2, a3].drop 0).take (Try.prog.cellsOf 9)) = some y0 := hfl 0 _ rfl; rw [c9] at q; exact q
      have f1 : DataW.trod enc Try.prog w base spare held n 9 [a1] = some y1 := by have q : DataW.trod enc Try.prog w base spare held n 9 (([a0, a1, a2, a3].drop 1).take (Try.prog.cellsOf 9)) = some y1 := hfl 1 _ rfl; rw [c9] at q; exact q
      have f2 : DataW.trod enc Try.prog w base spare held n 3 [a2] = some y2 := by have q : DataW.trod enc Try.prog w base spare held n 3 (([a0, a1, a2, a3].drop 2).take (Try.prog.cellsOf 3)) = some y2 := hfl 2 _ rfl; rw [c3] at q; exact q
      have f3 : DataW.trod enc Try.prog w base spare held n 4 [a3] = some y3 := by have q : DataW.trod enc Try.prog w base spare held n 4 (([a0, a1, a2, a3].drop 3).take (Try.prog.cellsOf 4)) = some y3 := hfl 3 _ rfl; rw [c4] at q; exact q
      obtain ⟨s0, e0, _, _⟩ := DataW.trod_string Try.underlying9 f0
      obtain ⟨s1, e1, _, _⟩ := DataW.trod_string Try.underlying9 f1
      obtain ⟨k, e2, _, _⟩ := DataW.trod_int Try.underlying3 f2
      obtain ⟨b, e3, _⟩ := DataW.trod_bool Try.underlying4 f3
      simp only [List.cons.injEq, and_true] at e0 e1 e2 e3
      subst e0 e1 e2 e3
      exact ⟨s0.data.toList, s1.data.toList, k, b, rfl⟩
end
section
variable {H : Type} {enc : TypeId × Value → H} {w : World}
theorem reread {W' : World} {ts : List TypeId} {vs : List Value} {ds : List (DataW H)} {p : List MemPlace} (hts : (ts.all fun t => decide (t < Try.prog.types.size)) = true) (h : DataW.TrodAll enc Try.prog w 0 (fun _ => true) true ts vs ds p) (hb : Below w.heap.size w W') : DataW.TrodAll enc Try.prog W' 0 (fun b => decide (b < w.heap.size)) true ts vs ds p := by
  have hlt := DataW.TrodAll.lt h
  have h1 : DataW.TrodAll enc Try.prog w 0 (fun b => decide (b < w.heap.size)) true ts vs ds p := DataW.TrodAll.respare (kids_rows (by kernel_rfl) (by kernel_rfl)) (slices_full_of _ (by kernel_rfl)) (fun t ht => by simpa using List.all_eq_true.1 hts t ht) h (fun q hq => by simpa using hlt q hq)
  have carry : ∀ {ts : List TypeId} {vs : List Value} {ds : List (DataW H)} {p : List MemPlace}, (∀ q ∈ p, q.block < w.heap.size) → DataW.TrodAll enc Try.prog w 0 (fun b => decide (b < w.heap.size)) true ts vs ds p → DataW.TrodAll enc Try.prog W' 0 (fun b => decide (b < w.heap.size)) true ts vs ds p := by
    intro ts
    induction ts with
    | nil => intro vs ds p _ h; cases vs <;> cases ds <;> first | exact h | exact h.elim
    | cons t ts ih =>
      intro vs ds p hp h
      cases vs with
      | nil => cases ds <;> exact h.elim
      | cons v vs =>
        cases ds with
        | nil => exact h.elim
        | cons d ds =>
          obtain ⟨p1, q1, ⟨n, hn⟩, h2, rfl⟩ := h
          refine ⟨p1, q1, ⟨n, DataW.trod_carry n t _ _ hn fun q hq => ?_⟩, ih (fun q hq => hp q (List.mem_append_right _ hq)) h2, rfl⟩
          have hql := hp q (List.mem_append_left _ hq)
          cases q with
          | cell b off => simp only [World.sameAt, World.cell?, hb.block b hql]
          | map b => exact hb.block b hql
  exact carry hlt h1
end
end Go.Proofs.Ythmhlbikejodaaa
