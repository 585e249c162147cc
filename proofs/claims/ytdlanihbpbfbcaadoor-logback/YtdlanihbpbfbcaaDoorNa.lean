/- Ground for mem: calls of function values, slices made, numbers. -/
import Derived.Test.YtdlanihbpbfbcaaDoorKb
import Derived.Test.YtdlanihbpbfbcaaDoorWt
namespace Go.Proofs.YtdlanihbpbfbcaaDoor
open Go.RowKit Go.Sort
set_option linter.unusedVariables false
set_option maxRecDepth 100000
section
variable {P : Program} {J : World → Prop} {F : Nat → Prop} {ds : List Deferred} {β : Nat → Nat} {c : Cf} {a : Act} {w : World} {Q : Exit → Act → World → Prop}
/-- Operands, functions among them. -/
def evF (tm : Vs) : Operand → Option SV
  | .func f => some (Sum.inl (.func (.func f) #[] #[]))
  | x => evQ tm x
def calF (tm : Vs) : Operand → Option (Nat × List Value)
  | .func f => some (f, [])
  | x => match evQ tm x with
    | some (Sum.inl (.func (.func f) fs cs)) => if fs = #[] then some (f, cs.toList) else none
    | _ => none
/-- The call that is next, by a value. -/
def callX (c : Cf) : Option (Nat × List SV) := match opAtQ c with
  | some o => match o.op with
    | .call { callee := .value x, args := xs, argTypes := _ } => match calF c.tm x with
      | some (f, cs) => (xs.toList.mapM (evF c.tm)).map fun ss => (f, ss ++ cs.map Sum.inl)
      | none => none
    | _ => none
  | none => none
theorem evF_eval {tm : Vs} (ha : a.tmps = (tm.map (upO β)).toArray) {x : Operand} {s : SV} (h : evF tm x = some s) : a.eval x = up β s := by
  cases x with
  | func f => simp only [evF, Option.some.injEq] at h; subst h; rfl
  | const v => exact evQ_ok ha h
  | tmp t => exact evQ_ok ha h
  | global g => exact evQ_ok ha h
theorem calF_eval {tm : Vs} (ha : a.tmps = (tm.map (upO β)).toArray) {x : Operand} {f : Nat} {cs : List Value} (h : calF tm x = some (f, cs)) : a.eval x = .func (.func f) #[] cs.toArray := by
  have key : ∀ x, (match evQ tm x with | some (Sum.inl (.func (.func f) fs cs)) => if fs = #[] then some (f, cs.toList) else none | _ => none) = some (f, cs) → a.eval x = .func (.func f) #[] cs.toArray := by
    intro x h
    split at h
    · next f' fs cs' hx =>
      split at h
      · next hfs =>
        cases h
        subst hfs
        rw [evQ_ok ha hx]
        rfl
      · cases h
    · cases h
  cases x with
  | func f' => simp only [calF, Option.some.injEq, Prod.mk.injEq] at h; obtain ⟨rfl, rfl⟩ := h; rfl
  | const v => exact key _ h
  | tmp t => exact key _ h
  | global g => exact key _ h
theorem mapF_ok {tm : Vs} (ha : a.tmps = (tm.map (upO β)).toArray) : ∀ {xs : List Operand} {ss : List SV}, xs.mapM (evF tm) = some ss → xs.map a.eval = ss.map (up β)
  | [], vs, h => by simp at h; subst h; rfl
  | x :: xs, vs, h => by
    rw [List.mapM_cons] at h
    cases h1 : evF tm x with
    | none => rw [h1] at h; simp at h
    | some v =>
      cases h2 : xs.mapM (evF tm) with
      | none => rw [h1, h2] at h; simp at h
      | some us =>
        rw [h1, h2] at h
        simp at h
        subst h
        rw [List.map_cons, mapF_ok ha h2, evF_eval ha h1]
        rfl
theorem fv_any {f : Nat} {fn : Func} (hf : P.funcs[f]? = some fn) (hb : fn.body.isNone = false) (hn : (fn.name == "runtime.NumGoroutine") = false) {x : Operand} {cs : Array Value} (hx : a.eval x = .func (.func f) #[] cs) (xs : Array Operand) (ts : Array TypeId) (ty : TypeId) (w : World) : (do let d ← resolve a.eval { callee := .value x, args := xs, argTypes := ts } ty; invoke d.target d.args : Sem Next).run P w = .ok (.enter f (xs.map a.eval ++ cs)) w := by
  have h : (callFunc f (xs.map a.eval ++ cs)).run P w = .ok (.enter f (xs.map a.eval ++ cs)) w := by
    have h1 : ¬ fn.name = "runtime.NumGoroutine" := by simpa using hn
    have h2 : ¬ fn.body = none := by intro h; rw [h] at hb; cases hb
    unfold callFunc
    simp [go_sem, hf, h1, h2]
  have h3 : (resolve a.eval { callee := .value x, args := xs, argTypes := ts } ty).run P w = .ok { target := .fn (.func f) cs, args := xs.map a.eval } w := by
    unfold resolve
    simp only [hx, Deferred.ofValue, Sem.run_pure, Array.empty_append]
  rw [Sem.run_bind, h3, Result.andThen_ok]
  unfold invoke
  exact h
theorem mcallX {f : Nat} {fn : Func} (ss : List SV) (hf : P.funcs[f]? = some fn) (I : SI J F ds β c a w) (h : Calls P f (ss.map (up β)).toArray w (CallE P Q c a)) (hc : callX c = some (f, ss) := by kernel_rfl)
    (hb : fn.body.isNone = false := by kernel_rfl) (hn : (fn.name == "runtime.NumGoroutine") = false := by kernel_rfl) : At P Q c a w := by
  unfold callX at hc
  split at hc
  · next o ho =>
    obtain ⟨hd, ⟨rest, hr⟩, hw⟩ := opAtQ_some ho
    refine at_cons hd hr (wantQ_ok I hw) ?_
    split at hc
    · next x xs ts hop =>
      split at hc
      · next g cs hg =>
        simp only [Option.map_eq_some_iff, Prod.mk.injEq] at hc
        obtain ⟨ss', hm, rfl, rfl⟩ := hc
        have hx := mapF_ok I.fr hm
        have he : (execOp a.eval o).run P w = .ok (.enter g (xs.map a.eval ++ cs.toArray)) w := by
          unfold execOp
          simp only [hop]
          exact fv_any hf hb hn (calF_eval I.fr hg) xs ts o.type w
        have hxa : xs.map a.eval ++ cs.toArray = ((ss' ++ cs.map Sum.inl).map (up β)).toArray := by
          apply Array.ext'
          simp only [Array.toList_append, Array.toList_map, hx, List.map_append, List.map_map]
          congr 1
          exact (List.map_id cs).symm
        unfold Oper.wp
        rw [he, hxa, Oper.upon_enter]
        refine h.mono fun e w' he => ?_
        cases e with
        | returned v =>
          have he' : At P Q (nxtQ c v) (a.put (dstQ c) v) w' := he
          replace he' := he'.out
          unfold AtD at he'
          simp only [nxtQ, nextQ, hd, dstQ, hr, List.tail_cons, List.head?_cons, Option.bind_some] at he'
          exact he'
        | panicked ch => exact panQ_ok he
        | outgrown => exact he.elim
      · cases hc
    · cases hc
  · cases hc
/-- A call by a value that leaves what there is. -/
theorem bcallX {f : Nat} {fn : Func} (ss : List SV) (hf : P.funcs[f]? = some fn) (R : Rsrc J F) (I : SI J F ds β c a w) (post : Value → Prop) (hcall : Calls P f (ss.map (up β)).toArray w fun e w' => Below w.heap.size w w' ∧ ∃ v, e = .returned v ∧ post v)
    (k : ∀ v w', post v → SI J F ds β (nxtQ c v) (a.put (dstQ c) v) w' → At P Q (nxtQ c v) (a.put (dstQ c) v) w') (hc : callX c = some (f, ss) := by kernel_rfl)
    (hb : fn.body.isNone = false := by kernel_rfl) (hn : (fn.name == "runtime.NumGoroutine") = false := by kernel_rfl) : At P Q c a w := by
  refine mcallX ss hf I (hcall.mono fun e w' he => ?_) hc hb hn
  obtain ⟨hbl, v, rfl, hv⟩ := he
  exact k v w' hv (I.moved (Grow.of_below hbl) (R.loc w w' I.hJ (Grow.of_below hbl)) (fun _ _ h => h) v)
/-- A value that is a function, with what it has caught. -/
def mfX (c : Cf) : Option (Fn × List SV) := match opAtQ c with
  | some o => match o.op with
    | .makeFunc fn fs cs => if fs = #[] then (cs.toList.mapM (evQ c.tm)).map fun ss => (fn, ss) else none
    | .assign (.func f) => some (.func f, [])
    | _ => none
  | none => none
theorem mkfX {fn : Fn} {ss : List SV} (I : SI J F ds β c a w) (k : At P Q (nxtQ c (.func fn #[] (ss.map (up β)).toArray)) (a.put (dstQ c) (.func fn #[] (ss.map (up β)).toArray)) w) (hc : mfX c = some (fn, ss) := by kernel_rfl) : At P Q c a w := by
  unfold mfX at hc
  split at hc
  · next o ho =>
    split at hc
    · next fn' fs cs hop =>
      split at hc
      · next hfs =>
        simp only [Option.map_eq_some_iff, Prod.mk.injEq] at hc
        obtain ⟨ss', hm, rfl, rfl⟩ := hc
        refine vstep ho I (w' := w) ?_ k
        have hx := mapS_ok I.fr hm
        have hxa : cs.map a.eval = (ss'.map (up β)).toArray := by rw [← hx]; apply Array.ext'; simp
        subst hfs
        unfold execOp
        simp [hop, Instr.makeFunc, hxa, Sem.run_pure]
      · cases hc
    · next f hop =>
      cases hc
      refine vstep ho I (w' := w) ?_ k
      unfold execOp
      simp only [hop, Sem.run_pure]
      rfl
    · cases hc
  · cases hc
end
section
variable {P : Program} {J : World → Prop} {F : Nat → Prop} {ds : List Deferred} {β : Nat → Nat} {c : Cf} {a : Act} {w : World} {Q : Exit → Act → World → Prop}
def mkQ (c : Cf) : Option (TypeId × SV × SV) := match opAtQ c with
  | some o => match o.op with
    | .makeSlice t l k => (evQ c.tm l).bind fun x => (evQ c.tm k).map fun y => (t, x, y)
    | _ => none
  | none => none
theorem mksQ {t : TypeId} {x y : SV} {v : Value} {w' : World} (I : SI J F ds β c a w) (hr : (Instr.makeSlice t (up β x) (up β y)).run P w = .ok v w') (k : At P Q (nxtQ c v) (a.put (dstQ c) v) w') (hc : mkQ c = some (t, x, y) := by kernel_rfl) : At P Q c a w := by
  unfold mkQ at hc
  split at hc
  · next o ho =>
    split at hc
    · next t' l k' hop =>
      simp only [Option.bind_eq_some_iff, Option.map_eq_some_iff, Prod.mk.injEq] at hc
      obtain ⟨x', hx, y', hy, rfl, rfl, rfl⟩ := hc
      refine vstep ho I (v := v) (w' := w') ?_ k
      unfold execOp
      simp only [hop, evQ_ok I.fr hx, evQ_ok I.fr hy, Sem.run_bind, hr, Result.andThen_ok, Sem.run_pure]
    · cases hc
  · cases hc
/-- A region in the order of its text that calls a value. -/
def yldQ (c : Cf) : Option (Array Oper × List Ki) := match c.dn, c.rest, c.ks with
  | none, [], Sum.inl (.region _ ops false) :: ks => some (ops, ks)
  | _, _, _ => none
def inYc (c : Cf) : Cf := match yldQ c with
  | some (ops, ks) => { c with ops := ops, rest := ops.toList, ks := ks }
  | none => c
theorem inY (I : SI J F ds β c a w) (k : SI J F ds β (inYc c) a w → At P Q (inYc c) a w) (hc : (yldQ c).isSome = true := by kernel_rfl) : At P Q c a w := by
  cases hy : yldQ c with
  | none => rw [hy] at hc; cases hc
  | some r =>
    obtain ⟨ops, ks⟩ := r
    have e : inYc c = { c with ops := ops, rest := ops.toList, ks := ks } := by unfold inYc; rw [hy]
    rw [e] at k
    have h := (k (I.cf rfl rfl rfl)).out
    unfold yldQ at hy
    split at hy
    · next rid ops' ks' hd hr hk =>
      cases hy
      refine ⟨?_⟩
      unfold AtD at h ⊢
      simp only [hd] at h
      rw [hd, hr, hk]
      have h2 : wpL P ops.toList.toArray (QK P Q ks) ops.toList a w := by simpa using h
      have h3 := wp_region_lit (id := rid) (wpL_list h2)
      have h4 : (Code.region rid ops false).wp P (QK P Q ks) a w := by simpa using h3
      exact h4
    · cases hy
end
theorem run_quoZ {x y z : Int} (hy : y ≠ 0) (h : IntKind.i64.wrap (x.tdiv y) = z) (o1 o2 : Operand) (w : World) : (do eqGuard .quo 3 o1 o2 (Z x) (Z y); binOp .quo 3 (Z x) (Z y) : Sem Value).run Tryd.prog w = .ok (Z z) w := by simp [go_sem, h, hy]
def mxO {T : World → Prop} {k : IntKind} {x y z : Int} (h : (if x < y then y else x) = z) : Fa Tryd.prog T := Sum.inr (Sum.inr
  ⟨fun o => match o with | .call { callee := .builtin .max, .. } => true | _ => false, #[.int k x, .int k y], .int k z, true, by
    intro a w oo _ hok hx
    cases hop : oo.op with
    | call cc =>
      rw [hop] at hok hx
      obtain ⟨callee, xs, ts⟩ := cc
      cases callee with
      | builtin bb =>
        cases bb with
        | max =>
          have hx' : xs.map a.eval = #[.int k x, .int k y] := by
            rw [← hx]
            apply Array.ext'
            simp [opnds]
          unfold execOp
          simp [hop, go_sem, hx', Builtin.max_, Builtin.max2, h]
        | _ => simp at hok
      | _ => simp at hok
    | _ => rw [hop] at hok; simp at hok⟩)
end Go.Proofs.YtdlanihbpbfbcaaDoor
