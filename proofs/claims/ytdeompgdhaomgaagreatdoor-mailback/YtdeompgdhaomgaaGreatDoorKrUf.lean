/- Laid one behind the other: Uf, Ug, Uh, Ui. -/
import Derived.Test.YtdeompgdhaomgaaGreatDoorKrUa
namespace Go.Proofs.YtdeompgdhaomgaaGreatDoor
open Go.RowKit Go.Sort
set_option linter.unusedVariables false
set_option maxRecDepth 100000
def eachM (q : List UInt8) (n : Nat) : List (List UInt8) := if q.head? = some 40 then inr_ q else List.replicate n ((inr_ q).headD [])
/-- One term. -/
def tk1 {α : Type} (nil : α) (sub : List (List UInt8) → List UInt8 → Nat → Option (α × Nat)) (s : List UInt8) (q : List UInt8) (i lf : Nat) : Option ((Int × Nat × ByteArray × α) × Nat) :=
  if 32 * i + 32 ≤ s.length then
    (if q = [110] then some ((0, nm ((s.drop (32 * i)).take 32), ⟨#[]⟩, nil), lf)
    else (rdC s (32 * i) s.length).bind fun p => (rdC s p 16384).bind fun n =>
      if q = [116] then (if n ≤ (s.drop (p + 32)).length then some ((1, 0, ⟨((s.drop (p + 32)).take n).toArray⟩, nil), lf) else none)
      else if 64 < n ∨ (q.head? = some 40 ∧ n ≠ (inr_ q).length) then none
      else (sub (eachM q n) (s.drop (p + 32)) lf).map fun x => ((2, 0, ⟨#[]⟩, x.1), x.2))
  else none
def tkG {α : Type} (nil : α) (sub : List (List UInt8) → List UInt8 → Nat → Option (α × Nat)) (s : List UInt8) : List (List UInt8) → Nat → Nat → Option (List (Int × Nat × ByteArray × α) × Nat)
  | [], _, lf => some ([], lf)
  | q :: ps, i, lf => (tk1 nil sub s q i lf).bind fun x => (tkG nil sub s ps (i + 1) x.2).map fun y => (x.1 :: y.1, y.2)
def tk : (n : Nat) → List (List UInt8) → List UInt8 → Nat → Option (List (TT n) × Nat)
  | 0, ps, s, lf => if lf < ps.length then none else tkG (nilT 0) (fun _ _ _ => none) s ps 0 (lf - ps.length)
  | n + 1, ps, s, lf => if lf < ps.length then none else tkG (nilT (n + 1)) (tk n) s ps 0 (lf - ps.length)
end Go.Proofs.YtdeompgdhaomgaaGreatDoor
namespace Go.Proofs.YtdeompgdhaomgaaGreatDoor
open Go.RowKit Go.Sort
set_option linter.unusedVariables false
set_option maxRecDepth 100000
theorem neqB64 {x y : Nat} {q : Bool} (h : decide (x ≠ y) = q) (o1 o2 : Operand) (w : World) : (do eqGuard .neq 23 o1 o2 (B x) (B y); binOp .neq 23 (B x) (B y) : Sem Value).run Tryz.prog w = .ok (.bool q) w := by
  by_cases hx : x = y
  · subst hx; subst h; simp [go_sem]
  · have hx' : ¬ ((x : Int) = (y : Int)) := by omega
    subst h; simp [go_sem, hx, hx']
end Go.Proofs.YtdeompgdhaomgaaGreatDoor
namespace Go.Proofs.YtdeompgdhaomgaaGreatDoor
open Go.RowKit Go.Sort
set_option linter.unusedVariables false
set_option maxRecDepth 100000
/-- A row of texts in memory, in blocks of K. -/
def SR (K : Nat → Prop) (w : World) (v : Value) (ps : List (List UInt8)) : Prop :=
  ∃ ad cap, v = .slice ad ps.length cap ∧ ∀ (i : Nat) (q : List UInt8), ps[i]? = some q → ∃ g off, ad = some ⟨g, off, none⟩ ∧ K g ∧ CellsAt w g (off + i * 1) [str q]
theorem SR.keep {K : Nat → Prop} {w w' : World} {v : Value} {ps : List (List UInt8)} (h : ∀ k, K k → w'.heap[k]? = w.heap[k]?) (H : SR K w v ps) : SR K w' v ps := by
  obtain ⟨ad, cap, hv, hm⟩ := H
  refine ⟨ad, cap, hv, fun i q hi => ?_⟩
  obtain ⟨g, off, h1, h2, h3⟩ := hm i q hi
  exact ⟨g, off, h1, h2, h3.keep (h g h2)⟩
theorem SR.own {w : World} {b : Nat} {v : Value} {ps : List (List UInt8)} (h : w.ownsRow b 9 1 v ps.length (ps.map str)) : SR (fun k => v.ownBlock = some k) w v ps := by
  obtain ⟨ad, cap, rfl⟩ := owns_slice h
  refine ⟨ad, cap, rfl, fun i q hi => ?_⟩
  have hil : i < ps.length := (List.getElem?_eq_some_iff.1 hi).1
  rcases h.2 with ⟨hv, hn⟩ | ⟨g, cap', cur, hv, hb, hg, hnc, hcm, hcs, hct⟩
  · omega
  · cases hv
    refine ⟨g, 0, rfl, rfl, fun j c hc => ?_⟩
    have hj : j = 0 := by
      have := (List.getElem?_eq_some_iff.1 hc).1
      simpa using this
    subst hj
    simp only [List.getElem?_cons_zero, Option.some.injEq] at hc
    subst hc
    have := h.cells (g := g) rfl i (str q) (by rw [List.getElem?_map, hi]; rfl)
    rw [add_off] at this
    rw [Nat.mul_one, Nat.add_zero]
    exact this
structure SJ (K : Nat → Prop) (v : Value) (ps : List (List UInt8)) (w : World) : Prop where
  kb : ∀ k, K k → k < w.heap.size
  sr : SR K w v ps
theorem SJ.rs (K : Nat → Prop) (v : Value) (ps : List (List UInt8)) : Rsrc (SJ K v ps) K :=
  ⟨fun w w' h gr => ⟨fun k hk => Nat.lt_of_lt_of_le (h.kb k hk) gr.size, h.sr.keep fun k hk => gr.block k (h.kb k hk) hk⟩, fun w k h hk => h.kb k hk⟩
theorem SI.also {J J' : World → Prop} {F F' : Nat → Prop} {ds : List Deferred} {β : Nat → Nat} {c : Cf} {a : Act} {w : World} (I : SI J F ds β c a w) (hJ : J' w) (hF : ∀ p ∈ c.rows, ¬ F' (β p.1)) : SI (fun w' => J w' ∧ J' w') (fun k => F k ∨ F' k) ds β c a w :=
  ⟨I.fr, I.df, ⟨I.hJ, hJ⟩, I.row, fun p hp h => h.elim (I.dis p hp) (hF p hp), I.lt, I.inj, I.ids⟩
theorem SI.less {J J' : World → Prop} {F F' : Nat → Prop} {ds : List Deferred} {β : Nat → Nat} {c : Cf} {a : Act} {w : World} (I : SI J F ds β c a w) (hJ : J' w) (hF : ∀ k, F' k → F k) : SI J' F' ds β c a w :=
  ⟨I.fr, I.df, hJ, I.row, fun p hp h => I.dis p hp (hF _ h), I.lt, I.inj, I.ids⟩
end Go.Proofs.YtdeompgdhaomgaaGreatDoor
namespace Go.Proofs.YtdeompgdhaomgaaGreatDoor
open Go.RowKit Go.Sort
set_option linter.unusedVariables false
set_option maxRecDepth 100000
def bodyL2 (fn : Func) : Code := (loopOf (bodyL fn)).getD .skip
theorem bd_lst2 (ad : Option Addr) (n cap : Nat) (w : World) : (Instr.build 59 (([0, 3] : List Nat).zip [Z 2, .slice ad n cap]).toArray).run Tryz.prog w = .ok (.agg (tx (2, 0, ⟨#[]⟩, .slice ad n cap)).toArray) w := by kernel_rfl
def SRn (lo : Nat) (inn : List (List UInt8)) (v : Value) (w : World) : Prop := ∃ Ki : Nat → Prop, (∀ k, Ki k → lo ≤ k ∧ k < w.heap.size) ∧ SR Ki w v inn
theorem SRn.below {lo : Nat} {inn : List (List UInt8)} {v : Value} {w w' : World} (h : SRn lo inn v w) (hb : Below w.heap.size w w') : SRn lo inn v w' := by
  obtain ⟨Ki, h1, h2⟩ := h
  exact ⟨Ki, fun k hk => ⟨(h1 k hk).1, Nat.lt_of_lt_of_le (h1 k hk).2 hb.size⟩, h2.keep fun k hk => hb.block k (h1 k hk).2⟩
section
variable {P : Program} {ops : Array Oper} {Q : Exit → Act → World → Prop} {o : Oper} {a : Act} {w : World}
theorem asgnG {x : Operand} {v : Value} (hop : o.op = .assign x) (hg : o.guard = none) (hx : a.eval x = v) : wpG ops o P a w (fun a'' w'' => a'' = a.put o.dst v ∧ w'' = w) Q := by
  refine wpG_plain hg (wp_valF (v := v) (w1 := w) ?_ ⟨rfl, rfl⟩)
  unfold execOp
  simp only [hop, hx, Sem.run_pure]
end
structure OJ (b e sz : Nat) (v : Value) (n : Nat) (xs : List Value) (w : World) : Prop where
  own : w.ownsRow b e sz v n xs
  le : b ≤ w.heap.size
theorem OJ.rs (b e sz : Nat) (v : Value) (n : Nat) (xs : List Value) : Rsrc (OJ b e sz v n xs) (fun k => v.ownBlock = some k) :=
  ⟨fun w w' h g => ⟨owns_grow h.own g fun k hk => hk, Nat.le_trans h.le g.size⟩, fun w k h hk => (h.own.lt k hk).2⟩
end Go.Proofs.YtdeompgdhaomgaaGreatDoor
