/- Ground for codes: bytes, numbers, texts, parts of rows. -/
import Derived.Test.YtdlanihbpbfbcaaDoorKa
namespace Go.Proofs.YtdlanihbpbfbcaaDoor
open Go.RowKit Go.Sort
set_option linter.unusedVariables false
set_option maxRecDepth 100000
abbrev b8 (n : Nat) : Value := .int .u8 (n : Int)
theorem run_leq8 {x y : Int} {b : Bool} (h : decide (x ≤ y) = b) (o1 o2 : Operand) (w : World) : (do eqGuard .leq 5 o1 o2 (.int .u8 x) (.int .u8 y); binOp .leq 5 (.int .u8 x) (.int .u8 y) : Sem Value).run Tryd.prog w = .ok (.bool b) w := by simp [go_sem, h]
theorem run_lss8 {x y : Int} {b : Bool} (h : decide (x < y) = b) (o1 o2 : Operand) (w : World) : (do eqGuard .lss 5 o1 o2 (.int .u8 x) (.int .u8 y); binOp .lss 5 (.int .u8 x) (.int .u8 y) : Sem Value).run Tryd.prog w = .ok (.bool b) w := by simp [go_sem, h]
theorem run_geq8 {x y : Int} {b : Bool} (h : decide (y ≤ x) = b) (o1 o2 : Operand) (w : World) : (do eqGuard .geq 5 o1 o2 (.int .u8 x) (.int .u8 y); binOp .geq 5 (.int .u8 x) (.int .u8 y) : Sem Value).run Tryd.prog w = .ok (.bool b) w := by simp [go_sem, h]
theorem run_eql8 {x y : Int} {b : Bool} (h : decide (x = y) = b) (o1 o2 : Operand) (w : World) : (do eqGuard .eql 5 o1 o2 (.int .u8 x) (.int .u8 y); binOp .eql 5 (.int .u8 x) (.int .u8 y) : Sem Value).run Tryd.prog w = .ok (.bool b) w := by
  subst h
  by_cases hx : x = y
  · simp [go_sem, hx]
  · simp [go_sem, hx]
theorem wrap8 {n : Int} (h0 : 0 ≤ n) (h : n < 256) : IntKind.u8.wrap n = n := by unfold IntKind.wrap; simp [IntKind.signed, IntKind.bits]; omega
theorem run_sub8 {x y z : Int} (h : IntKind.u8.wrap (x - y) = z) (o1 o2 : Operand) (w : World) : (do eqGuard .sub 5 o1 o2 (.int .u8 x) (.int .u8 y); binOp .sub 5 (.int .u8 x) (.int .u8 y) : Sem Value).run Tryd.prog w = .ok (.int .u8 z) w := by simp [go_sem, h]
theorem cnv8Z (n : Nat) (h : n < 256) (w : World) : (convert 5 3 (b8 n)).run Tryd.prog w = .ok (Z n) w := by
  have : IntKind.i64.wrap (n : Int) = n := wz (by omega) (by omega)
  simp [go_sem, this]
theorem cnvZ8 (n : Nat) (h : n < 256) (w : World) : (convert 3 5 (Z n)).run Tryd.prog w = .ok (b8 n) w := by
  have : IntKind.u8.wrap (n : Int) = n := wrap8 (by omega) (by omega)
  simp [go_sem, this]
theorem run_not {b : Bool} (w : World) : (Op.unary .not (.bool b)).run Tryd.prog w = .ok (.bool !b) w := by simp [go_sem]
def mnO {T : World → Prop} {x y z : Int} (h : (if y < x then y else x) = z) : Fa Tryd.prog T := Sum.inr (Sum.inr
  ⟨fun o => match o with | .call { callee := .builtin .min, .. } => true | _ => false, #[Z x, Z y], Z z, true, by
    intro a w oo _ hok hx
    cases hop : oo.op with
    | call cc =>
      rw [hop] at hok hx
      obtain ⟨callee, xs, ts⟩ := cc
      cases callee with
      | builtin bb =>
        cases bb with
        | min =>
          have hx' : xs.map a.eval = #[Z x, Z y] := by
            rw [← hx]
            apply Array.ext'
            simp [opnds]
          unfold execOp
          simp [hop, go_sem, hx', Builtin.min_, Builtin.min2, h]
        | _ => simp at hok
      | _ => simp at hok
    | _ => rw [hop] at hok; simp at hok⟩)
theorem str_len (l : List UInt8) : ((⟨l.toArray⟩ : ByteArray).size : Int) = l.length := by rw [str_size]
abbrev lnO {T : World → Prop} (l : List UInt8) : Fa Tryd.prog T := lO Tryd.underlying9 (b := ⟨l.toArray⟩) (n := l.length) (str_len l)
theorem cells_row {w : World} {g : Nat} {c : Array Value} (h : HasRow w g c) (o n : Nat) (h2 : o + n ≤ c.size) : CellsAt w g o (c.extract o (o + n)).toList := by
  intro j v hv
  rw [h.cell]
  rw [Array.getElem?_toList, Array.getElem?_extract] at hv
  split at hv
  · exact hv
  · cases hv
theorem SI.lay {J : World → Prop} {F : Nat → Prop} {ds : List Deferred} {β : Nat → Nat} {c : Cf} {a : Act} {w : World} (I : SI J F ds β c a w) (R : Rsrc J F) (o : Obj) (r : Value) : SI (fun w' => J w' ∧ w'.heap[w.heap.size]? = some o) (fun k => F k ∨ k = w.heap.size) ds β (nxtQ c r) (a.put (dstQ c) r) (w.alloc o) :=
  I.moved (Grow.of_below (below_alloc w o)) ⟨R.loc w _ I.hJ (Grow.of_below (below_alloc w o)), Array.getElem?_push_size⟩ (fun k hk h => h.elim id fun e => by omega) r
theorem Rsrc.lay {J : World → Prop} {F : Nat → Prop} (R : Rsrc J F) (g : Nat) (o : Obj) : Rsrc (fun w' => J w' ∧ w'.heap[g]? = some o) (fun k => F k ∨ k = g) := by
  refine ⟨fun w w' h gr => ⟨R.loc w w' h.1 ⟨gr.os, gr.tape, gr.output, gr.size, fun k hk hF => gr.block k hk (.inl hF)⟩, ?_⟩, fun w k h hk => ?_⟩
  · rw [gr.block g (Array.getElem?_eq_some_iff.1 h.2).1 (.inr rfl)]; exact h.2
  · rcases hk with hk | rfl
    · exact R.lt w k h.1 hk
    · exact (Array.getElem?_eq_some_iff.1 h.2).1
/-- A byte's number. -/
theorem u8_lt (b : UInt8) : b.toNat < 256 := b.toNat_lt
end Go.Proofs.YtdlanihbpbfbcaaDoor
