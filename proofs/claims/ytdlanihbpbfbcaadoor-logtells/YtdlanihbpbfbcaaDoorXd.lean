/- A walk by reckoning, fifth part: facts, and places of parts. -/
import Derived.Test.YtdlanihbpbfbcaaDoorXc
namespace Go.Proofs.YtdlanihbpbfbcaaDoor
open Go.RowKit Go.Sort
set_option linter.unusedVariables false
theorem fc_any {P : Program} {f : Nat} {fn : Func} (hf : P.funcs[f]? = some fn) (hb : fn.body.isNone = false) (hn : (fn.name == "runtime.NumGoroutine") = false) (xs : Array Operand) (ts : Array TypeId) (a : Act) (ty : TypeId) (w : World) : (do let d ← resolve a.eval { callee := .value (.func f), args := xs, argTypes := ts } ty; invoke d.target d.args : Sem Next).run P w = .ok (.enter f (xs.map a.eval)) w := by
  have h : (callFunc f (xs.map a.eval)).run P w = .ok (.enter f (xs.map a.eval)) w := by
    have h1 : ¬ fn.name = "runtime.NumGoroutine" := by simpa using hn
    have h2 : ¬ fn.body = none := by intro h; rw [h] at hb; cases hb
    unfold callFunc
    simp [go_sem, hf, h1, h2]
  simp [go_sem, h]
theorem xc_any {P : Program} {f : Nat} (xs : Array Operand) (ts : Array TypeId) (a : Act) (ty : TypeId) (w : World) : (do let d ← resolve a.eval { callee := .value (.func f), args := xs, argTypes := ts } ty; invoke d.target d.args : Sem Next).run P w = (callFunc f (xs.map a.eval)).run P w := by
  simp [go_sem]
/-- How far a field lies; a member; what is laid first. -/
def foV (P : Program) (t f : Nat) : Option Nat := match P.underlying t with
  | some (.struct fields) => match fields[f]? with
    | some d => match P.info? d.type with
      | some i => if i.size = 0 then none else some d.offset
      | none => none
    | none => none
  | _ => none
def ioV (P : Program) (t : Nat) (i : Int) : Option Nat := match P.underlying t with
  | some (.array len elem) => match P.info? elem with
    | some s => if 0 ≤ i ∧ i < len then some (i.toNat * s.size) else none
    | none => none
  | _ => none
def zeV (P : Program) (t : Nat) : Option (Array Value) := match P.info? t with
  | some i => i.zero.map (·.cells)
  | none => none
theorem add_off (g off d : Nat) : (⟨g, off, none⟩ : Addr).add d = ⟨g, off + d, none⟩ := by
  unfold Addr.add
  split
  · next h => subst h; rfl
  · rfl
theorem run_info {P : Program} {t : Nat} {i : TypeInfo} (h : P.info? t = some i) (w : World) : (typeInfo t).run P w = .ok i w := by
  simp [typeInfo, go_sem, h]
theorem ty_ok {P : Program} (hm : P.follows .mixedOrders = true) : Ty P (foV P) (ioV P) (zeV P) := by
  refine ⟨hm, ?_, ?_, ?_⟩
  · intro t f d h g off w
    unfold foV at h
    split at h
    · next fields hu =>
      split at h
      · next fd hf =>
        split at h
        · next i hi =>
          split at h
          · cases h
          · next hz =>
            cases h
            simp [Instr.fieldAt, Sem.run_bind, run_underlying hu, hf, Instr.sureAddr, fieldPlace, sizeOf, run_info hi, hz, add_off]
        · cases h
      · cases h
    · cases h
  · intro t i d h g off w
    unfold ioV at h
    split at h
    · next len elem hu =>
      split at h
      · next s hs =>
        split at h
        · next hb =>
          cases h
          simp [Instr.indexAt, Sem.run_bind, run_underlying hu, asIntOf, Instr.sureAddr, hb, sizeOf, run_info hs, add_off]
        · cases h
      · cases h
    · cases h
  · intro t z h ρ o w ho
    unfold zeV at h
    split at h
    · next i hi =>
      cases hz : i.zero with
      | none => rw [hz] at h; cases h
      | some v =>
        rw [hz] at h
        cases h
        refine ⟨t, ?_⟩
        unfold execOp
        simp [ho, Instr.alloc, zeroValue, run_info hi, hz, newVar, newRow]
    · cases h
section
variable {P : Program} {T : World → Prop}
/-- A call. -/
def cA {f : Nat} {fn : Func} {args : Array Value} {v : Value} (hf : P.funcs[f]? = some fn) (c : ∀ w, T w → Calls P f args w fun e w' => e = .returned v ∧ Below w.heap.size w w') (hb : fn.body.isNone = false := by kernel_rfl) (hn : (fn.name == "runtime.NumGoroutine") = false := by kernel_rfl) : Fa P T :=
  Sum.inr (Sum.inl ⟨f, args, v, fc_any hf hb hn, c⟩)
/-- A plain operation. -/
def nO : Fa P T := Sum.inl ()
def bO (b : BinOp) (t : Nat) {p q v : Value} (h : ∀ x y w, (do eqGuard b t x y p q; binOp b t p q : Sem Value).run P w = .ok v w) : Fa P T :=
  Sum.inr (Sum.inr ⟨fun o => match o with | .binOp b' t' _ _ _ => decide (b' = b) && t' == t | _ => false, #[p, q], v, true, by
    intro a w oo _ hok hx
    cases hop : oo.op <;> rw [hop] at hok hx <;> simp at hok
    next b' t' x y t2 =>
    obtain ⟨rfl, rfl⟩ := hok
    simp [opnds] at hx
    unfold execOp
    simp only [hop, hx.1, hx.2]
    rw [Sem.run_bind, h, Result.andThen_ok, Sem.run_pure]⟩)
def uO (u : UnOp) {p v : Value} (h : ∀ w, (Op.unary u p).run P w = .ok v w) : Fa P T :=
  Sum.inr (Sum.inr ⟨fun o => match o with | .unOp u' _ _ => decide (u' = u) | _ => false, #[p], v, true, by
    intro a w oo _ hok hx
    cases hop : oo.op <;> rw [hop] at hok hx <;> simp at hok
    next u' t x =>
    subst hok
    simp [opnds] at hx
    unfold execOp
    simp only [hop, hx]
    rw [Sem.run_bind, h, Result.andThen_ok, Sem.run_pure]⟩)
def fO (t f : Nat) {p v : Value} (h : ∀ w, (Instr.field t p f).run P w = .ok v w) : Fa P T :=
  Sum.inr (Sum.inr ⟨fun o => match o with | .field t' _ f' => t' == t && f' == f | _ => false, #[p], v, true, by
    intro a w oo _ hok hx
    cases hop : oo.op <;> rw [hop] at hok hx <;> simp at hok
    next t' x f' =>
    obtain ⟨rfl, rfl⟩ := hok
    simp [opnds] at hx
    unfold execOp
    simp only [hop, hx]
    rw [Sem.run_bind, h, Result.andThen_ok, Sem.run_pure]⟩)
def iO (t : Nat) {p i v : Value} (h : ∀ w, (Instr.index t p i).run P w = .ok v w) : Fa P T :=
  Sum.inr (Sum.inr ⟨fun o => match o with | .index t' _ _ => t' == t | _ => false, #[p, i], v, true, by
    intro a w oo _ hok hx
    cases hop : oo.op <;> rw [hop] at hok hx <;> simp at hok
    next t' x y =>
    subst hok
    simp [opnds] at hx
    unfold execOp
    simp only [hop, hx]
    rw [Sem.run_bind, h, Result.andThen_ok, Sem.run_pure]⟩)
def vO (s t : Nat) {p v : Value} (h : ∀ w, (convert s t p).run P w = .ok v w) : Fa P T :=
  Sum.inr (Sum.inr ⟨fun o => match o with | .convert s' t' _ => s' == s && t' == t | _ => false, #[p], v, true, by
    intro a w oo _ hok hx
    cases hop : oo.op <;> rw [hop] at hok hx <;> simp at hok
    next s' t' x =>
    obtain ⟨rfl, rfl⟩ := hok
    simp [opnds] at hx
    unfold execOp
    simp only [hop, hx]
    rw [Sem.run_bind, h, Result.andThen_ok, Sem.run_pure]⟩)
def eO {f : Nat} {args : Array Value} {v : Value} (c : ∀ w, (callFunc f args).run P w = .ok (.value v) w) : Fa P T :=
  Sum.inr (Sum.inr ⟨fun o => match o with | .call { callee := .value (.func f'), .. } => f' == f | _ => false, args, v, true, by
    intro a w oo _ hok hx
    cases hop : oo.op with
    | call cc =>
      rw [hop] at hok hx
      obtain ⟨callee, xs, ts⟩ := cc
      cases callee with
      | value x =>
        cases x with
        | func f' =>
          simp at hok
          subst hok
          have hx' : xs.map a.eval = args := by
            rw [← hx]
            apply Array.ext'
            simp [opnds]
          unfold execOp
          simp only [hop]
          rw [xc_any, hx', c]
        | _ => simp at hok
      | _ => simp at hok
    | _ => rw [hop] at hok; simp at hok⟩)
/-- The length of a text. -/
def lO {t : Nat} (hu : P.underlying t = some .string) {b : ByteArray} {n : Int} (h : (b.size : Int) = n) : Fa P T :=
  Sum.inr (Sum.inr ⟨fun o => match o with | .call { callee := .builtin .len, argTypes := ts, .. } => ts[0]? == some t | _ => false, #[.string b], .int .i64 n, true, by
    intro a w oo _ hok hx
    cases hop : oo.op with
    | call cc =>
      rw [hop] at hok hx
      obtain ⟨callee, xs, ts⟩ := cc
      cases callee with
      | builtin bb =>
        cases bb with
        | len =>
          have hx' : xs.map a.eval = #[.string b] := by
            rw [← hx]
            apply Array.ext'
            simp [opnds]
          simp at hok
          unfold execOp
          simp [hop, go_sem, hx', Builtin.len_, hok, run_underlying hu, goInt, h]
        | _ => simp at hok
      | _ => simp at hok
    | _ => rw [hop] at hok; simp at hok⟩)
/-- A part of a text from a place on. -/
def sO (t : Nat) {p l v : Value} (h : ∀ w, (Instr.sliceAt t p (some l) none none).run P w = .ok v w) : Fa P T :=
  Sum.inr (Sum.inr ⟨fun o => match o with | .slice t' _ (some _) none none => t' == t | _ => false, #[p, l], v, true, by
    intro a w oo _ hok hx
    cases hop : oo.op with
    | slice t' x lo hi mx =>
      rw [hop] at hok hx
      cases lo with
      | none => simp at hok
      | some y =>
        cases hi with
        | some z => simp at hok
        | none =>
          cases mx with
          | some z => simp at hok
          | none =>
            simp at hok
            subst hok
            simp [opnds] at hx
            unfold execOp
            simp only [hop, Option.map_some, Option.map_none, hx]
            rw [Sem.run_bind, h, Result.andThen_ok, Sem.run_pure]
    | _ => rw [hop] at hok; simp at hok⟩)
theorem zip_map {a : Act} : ∀ {ps : List (Nat × Operand)}, ps.map (fun x => (x.1, a.eval x.2)) = (ps.map (·.1)).zip ((ps.map (·.2)).map a.eval)
  | [] => rfl
  | p :: ps => by simp only [List.map_cons, List.zip_cons_cons, zip_map (ps := ps)]
def dO (t : Nat) (idx : List Nat) {xs : List Value} {v : Value} (h : ∀ w, (Instr.build t (idx.zip xs).toArray).run P w = .ok v w) : Fa P T :=
  Sum.inr (Sum.inr ⟨fun o => match o with | .build t' ps => t' == t && ps.toList.map (·.1) == idx | _ => false, xs.toArray, v, true, by
    intro a w oo _ hok hx
    cases hop : oo.op <;> rw [hop] at hok hx <;> simp at hok
    next t' ps =>
    obtain ⟨rfl, hi⟩ := hok
    have hx' : (ps.toList.map (·.2)).map a.eval = xs := by
      have := congrArg Array.toList hx
      simpa [opnds] using this
    have hp : (ps.map fun x => (x.1, a.eval x.2)) = (idx.zip xs).toArray := by
      apply Array.ext'
      rw [Array.toList_map, zip_map, hx', ← hi]
    unfold execOp
    simp only [hop]
    rw [Sem.run_bind, show (ps.map fun (i, x) => (i, a.eval x)) = (idx.zip xs).toArray from hp, h, Result.andThen_ok, Sem.run_pure]⟩)
end
theorem eqs_of {l : List (Value × Value)} (h : l.map (·.1) = l.map (·.2)) : ∀ p ∈ l, p.1 = p.2 := by
  induction l with
  | nil => intro p hp; cases hp
  | cons q l ih =>
    simp only [List.map_cons, List.cons.injEq] at h
    intro p hp
    rcases List.mem_cons.1 hp with rfl | hp
    · exact h.1
    · exact ih h.2 p hp
/-- A call, by reckoning. -/
theorem run_ok {P : Program} {T : World → Prop} (fs : Fq P T) {f : Nat} {fn : Func} (hf : P.funcs[f]? = some fn) {args : Array Value} {v : Value} {w : World} (hT : ∀ w', Below w.heap.size w w' → T w') (hm : P.follows .mixedOrders = true)
    (hs : (runF P T (foV P) (ioV P) (zeV P) fs fn args).isSome = true)
    (h : (runF P T (foV P) (ioV P) (zeV P) fs fn args).map (fun r => (r.1, r.2.1.map (·.1), r.2.2.isEmpty)) = (runF P T (foV P) (ioV P) (zeV P) fs fn args).map fun r => (v, r.2.1.map (·.2), true)) :
    Calls P f args w fun e w' => e = .returned v ∧ Below w.heap.size w w' := by
  cases hr : runF P T (foV P) (ioV P) (zeV P) fs fn args with
  | none => rw [hr] at hs; cases hs
  | some r =>
    rw [hr] at h
    simp only [Option.map_some, Option.some.injEq, Prod.mk.injEq, List.isEmpty_iff] at h
    refine runF_ok (ty_ok hm) hf hT (by rw [hr]; simp [h.1]) ?_
    rw [hr]
    simp only [Option.map_some, Option.getD_some]
    exact ⟨eqs_of h.2.1, fun p hp => by rw [h.2.2] at hp; cases hp⟩
section
variable {P : Program}
/-- The same where the world need hold nothing. -/
def kC {T : World → Prop} {f : Nat} {fn : Func} {args : Array Value} {v : Value} (hf : P.funcs[f]? = some fn) (c : ∀ w, Calls P f args w fun e w' => e = .returned v ∧ Below w.heap.size w w') (hb : fn.body.isNone = false := by kernel_rfl) (hn : (fn.name == "runtime.NumGoroutine") = false := by kernel_rfl) : Fa P T := cA hf (fun w _ => c w) hb hn
/-- Where the world holds what stays. -/
theorem roT {T : World → Prop} (fs : Fq P T) {f : Nat} {fn : Func} (hf : P.funcs[f]? = some fn) {args : Array Value} {v : Value} {w : World} (hT : ∀ w', Below w.heap.size w w' → T w') (hm : P.follows .mixedOrders = true := by kernel_rfl)
    (hs : (runF P T (foV P) (ioV P) (zeV P) fs fn args).isSome = true := by kernel_rfl)
    (h : (runF P T (foV P) (ioV P) (zeV P) fs fn args).map (fun r => (r.1, r.2.1.map (·.1), r.2.2.isEmpty)) = (runF P T (foV P) (ioV P) (zeV P) fs fn args).map (fun r => (v, r.2.1.map (·.2), true)) := by kernel_rfl) :
    Calls P f args w fun e w' => e = .returned v ∧ Below w.heap.size w w' := run_ok fs hf hT hm hs h
theorem ro (fs : Fq P (fun _ => True)) {f : Nat} {fn : Func} (hf : P.funcs[f]? = some fn) {args : Array Value} {v : Value} {w : World} (hm : P.follows .mixedOrders = true := by kernel_rfl)
    (hs : (runF P (fun _ => True) (foV P) (ioV P) (zeV P) fs fn args).isSome = true := by kernel_rfl)
    (h : (runF P (fun _ => True) (foV P) (ioV P) (zeV P) fs fn args).map (fun r => (r.1, r.2.1.map (·.1), r.2.2.isEmpty)) = (runF P (fun _ => True) (foV P) (ioV P) (zeV P) fs fn args).map (fun r => (v, r.2.1.map (·.2), true)) := by kernel_rfl) :
    Calls P f args w fun e w' => e = .returned v ∧ Below w.heap.size w w' := run_ok fs hf (fun _ _ => trivial) hm hs h
end
end Go.Proofs.YtdlanihbpbfbcaaDoor
