/- Laid one behind the other: Vg, Wq, Wr, Vb, Vc, Vd, Vf. -/
import Derived.Test.YtdeompgdhaomgaaGreatDoorKrVa
import Derived.Test.YtdeompgdhaomgaaGreatDoorKrWg
import Derived.Test.YtdeompgdhaomgaaGreatDoorKrOp
namespace Go.Proofs.YtdeompgdhaomgaaGreatDoor
set_option linter.unusedVariables false
set_option maxRecDepth 100000
def tailOf {α : Type} (E : α → List UInt8) (cnt : α → Nat) (t : Int × Nat × ByteArray × α) : List UInt8 :=
  if t.1 = 0 then [] else if t.1 = 1 then txt t.2.2.1 else if t.1 = 2 then wb (cnt t.2.2.2) ++ E t.2.2.2 else []
section
variable {α : Type} {E : α → List UInt8} {cnt : α → Nat} {H : Nat}
theorem fold_tail : ∀ (l : List (Int × Nat × ByteArray × α)) (acc : List UInt8 × List UInt8), (l.foldl (stepE E cnt H) acc).2 = acc.2 ++ l.flatMap (tailOf E cnt)
  | [], acc => by simp
  | t :: l, acc => by
    rw [List.foldl_cons, fold_tail l, List.flatMap_cons, ← List.append_assoc]
    congr 1
    unfold stepE tailOf
    split
    · simp
    · split
      · rfl
      · split
        · rfl
        · simp
end
theorem enc_succ (n : Nat) (l : List (TT n)) : enc (n + 1) l = (l.foldl (stepE (enc n) (cntL n) (32 * l.length)) ([], [])).1 ++ (l.foldl (stepE (enc n) (cntL n) (32 * l.length)) ([], [])).2 := rfl
end Go.Proofs.YtdeompgdhaomgaaGreatDoor
namespace Go.Proofs.YtdeompgdhaomgaaGreatDoor
open Go.RowKit Go.Sort
set_option linter.unusedVariables false
set_option maxRecDepth 100000
theorem LR.below {w w' : World} (hb : Below w.heap.size w w') : ∀ {n : Nat} {v : Value}, LR w n v → LR w' n v
  | 0, v, h => h
  | n + 1, v, h => by
    obtain ⟨ad, len, cap, hv, hl, ht⟩ := h
    refine ⟨ad, len, cap, hv, hl, fun i hi => ?_⟩
    obtain ⟨g, off, k, u, s, lv, h1, h2, h3, h4, h5⟩ := ht i hi
    exact ⟨g, off, k, u, s, lv, h1, h2.keep (hb.block g h2.lt), h3, h4, LR.below hb h5⟩
theorem enc_ge (n : Nat) (l : TL (n + 1)) : 32 * List.length (α := TT n) l ≤ (enc (n + 1) l).length := by
  have h2 := hd_len (E := enc n) (cnt := cntL n) (l := l) (i := List.length (α := TT n) l) (Nat.le_refl _)
  have e : List.take (List.length (α := TT n) l) l = l := List.take_length
  rw [e] at h2
  simp only [enc, List.length_append]
  omega
end Go.Proofs.YtdeompgdhaomgaaGreatDoor
namespace Go.Proofs.YtdeompgdhaomgaaGreatDoor
open Go.RowKit Go.Sort
set_option linter.unusedVariables false
set_option maxRecDepth 100000
theorem load4 {w : World} {g o u : Nat} (h : CellsAt w g o [B (l0 u), B (l1 u), B (l2 u), B (l3 u)]) : (loadVar 57 ⟨g, o, none⟩).run Tryz.prog w = .ok (U u) w := by
  have hl : (loadCells ⟨g, o, none⟩ 4).run Tryz.prog w = .ok #[B (l0 u), B (l1 u), B (l2 u), B (l3 u)] w := by
    have := run_loadCells_list (P := Tryz.prog) w ⟨g, o, none⟩ [B (l0 u), B (l1 u), B (l2 u), B (l3 u)] (fun j c hc => by
      rw [add_off]
      exact h j c hc)
    exact this
  have hA : (isAgg 57).run Tryz.prog w = .ok true w := by
    unfold isAgg
    simp only [Sem.run_bind, run_underlying Tryz.underlying57, Result.andThen_ok]
    rfl
  have hS : (sizeOf 57).run Tryz.prog w = .ok 4 w := by kernel_rfl
  unfold loadVar
  simp only [Sem.run_bind, hA, Result.andThen_ok, if_true, hS, hl, Sem.run_pure]
theorem EO.grown {W0 : World} {e sz : Nat} {v v' : Value} {n n' : Nat} {xs xs' : List Value} {w w' : World} (h : EO W0 e sz v n xs w) (ho : w'.ownsRow W0.heap.size e sz v' n' xs') (hg : Grw v v' w w') : EO W0 e sz v' n' xs' w' :=
  ⟨⟨hg.gr.os.trans h.bw.os, hg.gr.tape.trans h.bw.tape, hg.gr.output.trans h.bw.output, Nat.le_trans h.bw.size hg.gr.size, fun k hk => (hg.gr.block k (Nat.lt_of_lt_of_le hk h.bw.size) fun e => by have := (h.own.lt k e.symm).1; omega).trans (h.bw.block k hk)⟩, ho⟩
theorem SI.grownE {W0 : World} {e sz : Nat} {v v' : Value} {n n' : Nat} {xs xs' : List Value} {w w' : World} {ds : List Deferred} {β : Nat → Nat} {c : Cf} {a : Act} (I : SI (EO W0 e sz v n xs) (EF W0 v) ds β c a w) (ho : w'.ownsRow W0.heap.size e sz v' n' xs') (hg : Grw v v' w w') (r : Value) :
    SI (EO W0 e sz v' n' xs') (EF W0 v') ds β (nxtQ c r) (a.put (dstQ c) r) w' := by
  refine I.moved ⟨hg.gr.os, hg.gr.tape, hg.gr.output, hg.gr.size, fun k hk hn => hg.gr.block k hk fun e => hn (.inr e.symm)⟩ (I.hJ.grown ho hg) (fun k hk h => ?_) r
  rcases h with h | h
  · exact .inl h
  · rcases hg.nb k h with h1 | h1
    · exact .inr h1
    · omega
abbrev N0 : Unit → Nat := fun _ => 0
theorem addB_run (x y : Nat) (h : x + y < M) (o1 o2 : Operand) (w : World) : (do eqGuard .add 23 o1 o2 (B x) (B y); binOp .add 23 (B x) (B y) : Sem Value).run Tryz.prog w = .ok (B (x + y)) w := by
  have hw : IntKind.u64.wrap ((x : Int) + (y : Int)) = ((x + y : Nat) : Int) := by
    unfold M at h
    have := IntKind.wrap_u64 ((x : Int) + (y : Int))
    omega
  simp [go_sem, hw]
theorem cnvB (n : Nat) (hn : n < 1000000000000) (w : World) : (convert 3 23 (Z n)).run Tryz.prog w = .ok (B n) w := by
  have := IntKind.wrap_u64 (n : Int); simp [go_sem]; omega
end Go.Proofs.YtdeompgdhaomgaaGreatDoor
namespace Go.Proofs.YtdeompgdhaomgaaGreatDoor
open Go.RowKit Go.Sort
set_option linter.unusedVariables false
set_option maxRecDepth 100000
theorem neqB_run {x y : UInt8} {q : Bool} (h : decide (x ≠ y) = q) (o1 o2 : Operand) (w : World) : (do eqGuard .neq 5 o1 o2 (.int .u8 x.toNat) (.int .u8 y.toNat); binOp .neq 5 (.int .u8 x.toNat) (.int .u8 y.toNat) : Sem Value).run Tryz.prog w = .ok (.bool q) w := by
  have h2 : (x.toNat = y.toNat) = (x = y) := propext ⟨fun h => UInt8.toNat_inj.1 h, fun h => by rw [h]⟩
  subst h
  by_cases hx : x = y
  · subst hx; simp [go_sem]
  · have h3 : ¬ ((x.toNat : Int) = (y.toNat : Int)) := fun e => hx (UInt8.toNat_inj.1 (by omega))
    simp [go_sem, hx, h3]
end Go.Proofs.YtdeompgdhaomgaaGreatDoor
namespace Go.Proofs.YtdeompgdhaomgaaGreatDoor
open Go.RowKit Go.Sort
set_option linter.unusedVariables false
set_option maxRecDepth 100000
theorem hI9 : ∃ i, Tryz.prog.info? 9 = some i ∧ i.zero = some (.string ⟨#[]⟩) ∧ i.size = 1 ∧ i.bytes = 16 := info_of (by kernel_rfl)
theorem neqS_run {a b : List UInt8} {q : Bool} (h : decide (a ≠ b) = q) (x y : Operand) (w : World) : (do eqGuard .neq 9 x y (str a) (str b); binOp .neq 9 (str a) (str b) : Sem Value).run Tryz.prog w = .ok (.bool q) w :=
  neqT_run (by rw [← h]; exact decide_eq_decide.2 (not_congr ⟨fun e => by simpa using congrArg (fun b : ByteArray => b.data.toList) e, fun e => by rw [e]⟩)) x y w
end Go.Proofs.YtdeompgdhaomgaaGreatDoor
namespace Go.Proofs.YtdeompgdhaomgaaGreatDoor
open Go.RowKit Go.Sort
set_option linter.unusedVariables false
set_option maxRecDepth 100000
set_option linter.unusedSectionVars false
theorem eqU_run {n m : Nat} (hn : n < W) (hm : m < W) {q : Bool} (h : decide (n = m) = q) (x y : Operand) (w : World) : (do eqGuard .eql 57 x y (U n) (U m); binOp .eql 57 (U n) (U m) : Sem Value).run Tryz.prog w = .ok (.bool q) w := by
  have e := run_eqU n m hn hm w
  rw [← h]
  by_cases hx : n = m
  · subst hx
    have e2 := run_eqU_same n w
    simp [go_sem, e2]
  · rw [decide_eq_false hx] at e
    simp [go_sem, e, hx]
theorem eqT_run {a b : ByteArray} {q : Bool} (h : decide (a = b) = q) (x y : Operand) (w : World) : (do eqGuard .eql 9 x y (.string a) (.string b); binOp .eql 9 (.string a) (.string b) : Sem Value).run Tryz.prog w = .ok (.bool q) w := by
  obtain ⟨la, rfl⟩ : ∃ l : List UInt8, a = ⟨l.toArray⟩ := ⟨a.data.toList, by simp⟩
  obtain ⟨lb, rfl⟩ : ∃ l : List UInt8, b = ⟨l.toArray⟩ := ⟨b.data.toList, by simp⟩
  have e : ((⟨la.toArray⟩ : ByteArray) = ⟨lb.toArray⟩) ↔ la = lb := ⟨fun e => by have := congrArg ByteArray.data e; simpa using this, fun e => by rw [e]⟩
  rw [← h]
  by_cases hx : la = lb
  · simp [go_sem, hx]
  · have h2 : ¬ ((⟨la.toArray⟩ : ByteArray) = ⟨lb.toArray⟩) := fun q => hx (e.1 q)
    simp [go_sem, hx]
end Go.Proofs.YtdeompgdhaomgaaGreatDoor
namespace Go.Proofs.YtdeompgdhaomgaaGreatDoor
open Go.RowKit Go.Sort
set_option linter.unusedVariables false
set_option maxRecDepth 100000
theorem CellsAt.num {w : World} {g o : Nat} {k : Int} {u : Nat} {s : ByteArray} {lv : Value} (h : CellsAt w g o (cells7 k u s lv)) : CellsAt w g (o + 1) [B (l0 u), B (l1 u), B (l2 u), B (l3 u)] := fun j c hc => by
  have hj : j < 4 := (List.getElem?_eq_some_iff.1 hc).1
  have := h (j + 1) c (by
    match j, hj with
    | 0, _ => exact hc
    | 1, _ => exact hc
    | 2, _ => exact hc
    | 3, _ => exact hc)
  rw [show o + 1 + j = o + (j + 1) by omega]
  exact this
end Go.Proofs.YtdeompgdhaomgaaGreatDoor
