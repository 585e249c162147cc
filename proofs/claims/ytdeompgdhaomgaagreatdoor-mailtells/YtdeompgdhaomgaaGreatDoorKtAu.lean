/- Laid one behind the other: Au, Av, Sx, Sy, Sz, Xc, Xd. -/
import Derived.Test.YtdeompgdhaomgaaGreatDoorKtLa
import Derived.Laws.CopyRow
import Derived.WalkSmall
import Derived.Deep.Light
import Derived.LoopN
namespace Go.Proofs.YtdeompgdhaomgaaGreatDoor
open Go.RowKit Go.Sort Tryz
set_option linter.unusedVariables false
set_option maxRecDepth 100000
set_option maxHeartbeats 4000000
section
variable {P : Program} {Q : Exit → Act → World → Prop} {o : Oper} {a' : Act} {w' : World}
/-- A type whose values are rows of cells. -/
def aggB : TypeDesc → Bool
  | .struct _ | .array _ _ => true
  | _ => false
theorem ob_loada (ty : TypeId) (x : Operand) (ho : o.op = .load ty x) {g off : Nat} (hx : a'.eval x = .pointer (some ⟨g, off, none⟩)) {c cs : Array Value} {d : TypeDesc} (hr : zb w' g c)
    (hu : P.underlying ty = some d) (hd : aggB d = true) (hi : (P.info? ty).map (·.size) = some cs.size) (hc : c.extract off (off + cs.size) = cs) : o.wp P a' w' (fun a'' w'' => a'' = a'.put o.dst (.agg cs) ∧ Below w'.heap.size w' w'') Q := by
  have hl : (loadCells ⟨g, off, none⟩ cs.toList.length).run P w' = .ok cs.toList.toArray w' :=
    run_loadCells_list (P := P) w' ⟨g, off, none⟩ cs.toList (fun j v hv => by
      have hadd : (⟨g, off, none⟩ : Addr).add j = ⟨g, off + j, none⟩ := by unfold Addr.add; split <;> simp_all
      rw [hadd, hr.cell]
      have hj : j < cs.size := by simpa using (List.getElem?_eq_some_iff.1 hv).1
      have h2 : cs[j]? = some v := by simpa using hv
      rw [← h2, ← hc, Array.getElem?_extract, if_pos]
      · have h3 := congrArg Array.size hc
        rw [Array.size_extract] at h3
        omega)
  have hA : (isAgg ty).run P w' = .ok true w' := by
    unfold isAgg
    simp only [Sem.run_bind, run_underlying hu, Result.andThen_ok]
    cases d <;> first | rfl | simp [aggB] at hd
  have hS : (sizeOf ty).run P w' = .ok cs.toList.length w' := by
    cases hq : P.info? ty with
    | none => simp [hq] at hi
    | some i => simp [sizeOf, typeInfo, hq]; simp [hq] at hi; exact hi
  have hL : (loadVar ty ⟨g, off, none⟩).run P w' = .ok (.agg cs) w' := by
    unfold loadVar
    simp only [Sem.run_bind, hA, Result.andThen_ok, if_true, hS, hl, Sem.run_pure, Array.toArray_toList]
  refine xy (v := .agg cs) (w1 := w') ?_ ⟨rfl, Below.refl _ _⟩
  unfold execOp
  simp only [ho, hx, Instr.loadAt, Instr.sureAddr, Sem.run_bind, Sem.run_pure, Result.andThen_ok, hL]
theorem ob_load1 (ty : TypeId) (x : Operand) (ho : o.op = .load ty x) {g off : Nat} (hx : a'.eval x = .pointer (some ⟨g, off, none⟩)) {c : Array Value} {v : Value} {d : TypeDesc} (hr : zb w' g c)
    (hu : P.underlying ty = some d) (hd : aggB d = false) (hc : c[off]? = some v) : o.wp P a' w' (fun a'' w'' => a'' = a'.put o.dst v ∧ Below w'.heap.size w' w'') Q := by
  have hA : (isAgg ty).run P w' = .ok false w' := by
    unfold isAgg
    simp only [Sem.run_bind, run_underlying hu, Result.andThen_ok]
    cases d <;> first | rfl | simp [aggB] at hd
  have hcell : w'.cell? ⟨g, off, none⟩ = some v := by rw [hr.cell]; exact hc
  have hL : (loadVar ty ⟨g, off, none⟩).run P w' = .ok v w' := by
    unfold loadVar
    simp only [Sem.run_bind, hA, Result.andThen_ok, Bool.false_eq_true, if_false]
    rw [run_load, hcell]
  refine xy (v := v) (w1 := w') ?_ ⟨rfl, Below.refl _ _⟩
  unfold execOp
  simp only [ho, hx, Instr.loadAt, Instr.sureAddr, Sem.run_bind, Sem.run_pure, Result.andThen_ok, hL]
/-- A row with other cells from a place on. -/
def over (c : Array Value) (off : Nat) (cs : Array Value) : Array Value := (c.toList.take off ++ cs.toList ++ c.toList.drop (off + cs.size)).toArray
theorem v5 (ty : TypeId) (x y : Operand) (ho : o.op = .store ty x y) {g off : Nat} (hx : a'.eval x = .pointer (some ⟨g, off, none⟩)) {v : Value} (hy : a'.eval y = v) {c cs : Array Value} (hv : v.cells = cs) (hr : zb w' g c)
    (hi : (P.info? ty).map (·.size) = some cs.size) (hn : off + cs.size ≤ c.size) (h1 : cs.all (·.oneCell') = true) {e : Array Value} (he : over c off cs = e) : o.wp P a' w' (fun a'' w'' => a'' = a'.put o.dst undef ∧ w'' = w'.setRow g e) Q := by
  obtain ⟨t, hg⟩ := hr
  have hs := run_storeCells_at P g off t cs.toList 0 c w' hg (by simpa using hn) (fun v hv => by
    have h2 := Array.all_eq_true_iff_forall_mem.1 h1 v (by simpa using hv)
    exact h2)
  have hV : (storeVar ty ⟨g, off, none⟩ v).run P w' = .ok () (w'.setRow g e) := by
    cases hq : P.info? ty with
    | none => simp [hq] at hi
    | some i =>
      have hz : cs.size = i.size := by simp [hq] at hi; omega
      have h3 : (c.toList.take (off + 0) ++ cs.toList ++ c.toList.drop (off + 0 + cs.toList.length)).toArray = e := by rw [← he]; simp [over]
      rw [h3] at hs
      simpa [storeVar, sizeOf, typeInfo, hq, hv, hz] using hs
  unfold Oper.wp execOp
  simp only [ho, hx, hy, Instr.storeAt, Instr.sureAddr, Sem.run_bind, Sem.run_pure, Result.andThen_ok, hV]
  exact ⟨rfl, rfl⟩
end
section
variable {P : Program} {Q : Exit → Act → World → Prop} {o : Oper} {a' : Act} {w' : World}
theorem ob_move (x : Operand) (ho : o.op = .move x) {v : Value} (hx : a'.eval x = v) : o.wp P a' w' (fun a'' w'' => a'' = a'.put o.dst v ∧ Below w'.heap.size w' w'') Q := by
  refine xy (v := v) (w1 := w') ?_ ⟨rfl, Below.refl _ _⟩
  unfold execOp; simp only [ho, hx, Sem.run_pure]
theorem ob_assign (x : Operand) (ho : o.op = .assign x) {v : Value} (hx : a'.eval x = v) : o.wp P a' w' (fun a'' w'' => a'' = a'.put o.dst v ∧ Below w'.heap.size w' w'') Q := by
  refine xy (v := v) (w1 := w') ?_ ⟨rfl, Below.refl _ _⟩
  unfold execOp; simp only [ho, hx, Sem.run_pure]
theorem ob_pick (c x y : Operand) (ho : o.op = .pick c x y) {q : Bool} (hc : a'.eval c = .bool q) {v : Value} (hv : (if q = true then a'.eval x else a'.eval y) = v) : o.wp P a' w' (fun a'' w'' => a'' = a'.put o.dst v ∧ Below w'.heap.size w' w'') Q := by
  refine xy (v := v) (w1 := w') ?_ ⟨rfl, Below.refl _ _⟩
  unfold execOp; simp only [ho, hc, Sem.run_bind, Sem.run_pure, asBool, Result.andThen_ok, hv]
theorem ob_extract (x : Operand) (i : Nat) (ho : o.op = .extract x i) {vs : Array Value} (hx : a'.eval x = .tuple vs) {v : Value} (hv : vs[i]? = some v) : o.wp P a' w' (fun a'' w'' => a'' = a'.put o.dst v ∧ Below w'.heap.size w' w'') Q := by
  refine xy (v := v) (w1 := w') ?_ ⟨rfl, Below.refl _ _⟩
  unfold execOp; simp [ho, hx, Instr.extract, hv]
theorem zb6 (t : TypeId) (x : Operand) (f : Nat) (ho : o.op = .fieldAddr t x f) {p v : Value} (hx : a'.eval x = p) (h : (Instr.fieldAt t p f).run P w' = .ok v w') : o.wp P a' w' (fun a'' w'' => a'' = a'.put o.dst v ∧ Below w'.heap.size w' w'') Q := by
  refine xy (v := v) (w1 := w') ?_ ⟨rfl, Below.refl _ _⟩
  unfold execOp; simp only [ho, hx, Sem.run_bind, Sem.run_pure, h, Result.andThen_ok]
theorem ob_indexAddr (t : TypeId) (x y : Operand) (ho : o.op = .indexAddr t x y) {p i v : Value} (hx : a'.eval x = p) (hy : a'.eval y = i) (h : (Instr.indexAt t p i).run P w' = .ok v w') : o.wp P a' w' (fun a'' w'' => a'' = a'.put o.dst v ∧ Below w'.heap.size w' w'') Q := by
  refine xy (v := v) (w1 := w') ?_ ⟨rfl, Below.refl _ _⟩
  unfold execOp; simp only [ho, hx, hy, Sem.run_bind, Sem.run_pure, h, Result.andThen_ok]
theorem zae (f : FuncId) (xs : Array Operand) (ts : Array TypeId) (ho : o.op = .call { callee := .value (.func f), args := xs, argTypes := ts }) {vs : Array Value} (hx : xs.map a'.eval = vs) {v : Value}
    (hr : ∀ (a : Act) (ty : TypeId) (w : World), (do let d ← resolve a.eval { callee := .value (.func f), args := xs, argTypes := ts } ty; invoke d.target d.args : Sem Next).run P w = .ok (.enter f (xs.map a.eval)) w)
    (hc : Calls P f vs w' fun e w'' => e = .returned v ∧ Below w'.heap.size w' w'') : o.wp P a' w' (fun a'' w'' => a'' = a'.put o.dst v ∧ Below w'.heap.size w' w'') Q := by
  refine ob_call (f := f) (args := vs) ?_ hc
  unfold execOp
  simp only [ho]
  rw [hr, hx]
variable {ρ : Operand → Value}
end
/-- A value, or a pointer into a block that is known by its number. -/
abbrev SV : Type := Value ⊕ (Nat × Nat)
def up (β : Nat → Nat) : SV → Value
  | Sum.inl v => v
  | Sum.inr (i, o) => .pointer (some ⟨β i, o, none⟩)
/-- What is laid into a slot; none: nothing. -/
def upO (β : Nat → Nat) : Option SV → Value
  | none => undef
  | some s => up β s
abbrev Vs : Type := List (Option SV)
/-- What an operation comes to: a value; a new block (its store's place, what it holds first and last); a store into a new block; a store into an old one. -/
abbrev Rs : Type := Option SV ⊕ (Nat × Array Value × Array Value) ⊕ Nat ⊕ (Nat × Array Value × Array Value)
abbrev rV (s : Option SV) : Rs := Sum.inl s
abbrev rA (st : Nat) (i e : Array Value) : Rs := Sum.inr (Sum.inl (st, i, e))
abbrev rS (al : Nat) : Rs := Sum.inr (Sum.inr (Sum.inl al))
abbrev rK (id : Nat) (i e : Array Value) : Rs := Sum.inr (Sum.inr (Sum.inr (id, i, e)))
abbrev ye (g : Nat) : Value := .pointer (some ⟨g, 0, none⟩)
def toSp (β : Nat → Nat) : Rs → Sp
  | Sum.inl s => sV (upO β s)
  | Sum.inr (Sum.inl (st, i, e)) => sA ye st i e
  | Sum.inr (Sum.inr (Sum.inl al)) => sS al
  | Sum.inr (Sum.inr (Sum.inr (id, i, e))) => sK (β id) i e
/-- An operand's value where operation k is run. -/
def evS (ops : Array Oper) (tm vals : Vs) (k : Nat) : Operand → Option SV
  | .const v => some (Sum.inl v)
  | .tmp t => match wr ops t with
    | none => (tm[t]?).join
    | some j => if newB ops tm.length k t j = true then (vals[j]?).join else if ya ops j k = true then (tm[t]?).join else none
  | _ => none
section
variable {ops : Array Oper} {a : Act} {w : World} {N0 : Nat} {G : List (Nat × Array Value)} {k : Nat} {a' : Act} {w' : World} {β : Nat → Nat} {tm vals : Vs} {L : List Sp}
theorem zbg (ha : a.tmps = (tm.map (upO β)).toArray) {t : Nat} {s : SV} (h : (tm[t]?).join = some s) : a.eval (.tmp t) = up β s := by
  have h1 : tm[t]? = some (some s) := by
    cases h2 : tm[t]? with
    | none => rw [h2] at h; cases h
    | some x => rw [h2] at h; simpa using h
  show a.tmps.getD t undef = up β s
  rw [ha, Array.getD_eq_getD_getElem?]
  simp [h1, upO]
theorem join_some {α : Type} {x : Option (Option α)} {s : α} (h : x.join = some s) : x = some (some s) := by
  cases x with
  | none => cases h
  | some y => simpa using h
theorem q8 (ha : a.tmps = (tm.map (upO β)).toArray) (E : RE ops a w N0 G L k a' w') (hL : ∀ (j : Nat) (s : SV), vals[j]? = some (some s) → L[j]? = some (sV (up β s))) {x : Operand} {s : SV} (h : evS ops tm vals k x = some s) : a'.eval x = up β s := by
  cases x with
  | const v => simp only [evS, Option.some.injEq] at h; subst h; rfl
  | tmp t =>
    simp only [evS] at h
    cases hw : wr ops t with
    | none =>
      rw [hw] at h
      rw [E.old t hw]
      exact zbg ha h
    | some j =>
      rw [hw] at h
      simp only [] at h
      by_cases hn : newB ops tm.length k t j = true
      · rw [if_pos hn] at h
        have hs : a.tmps.size = tm.length := by rw [ha]; simp
        exact E.new t j (by rw [hs]; exact hn) (hL j s (join_some h))
      · rw [if_neg hn] at h
        by_cases hq : ya ops j k = true
        · rw [if_pos hq] at h
          rw [E.olds t j hw hq]
          exact zbg ha h
        · rw [if_neg hq] at h; cases h
  | global g => simp [evS] at h
  | func f => simp [evS] at h
end
/-- A plain value's own. -/
def plain : Option SV → Option Value
  | some (Sum.inl v) => some v
  | _ => none
theorem zp {s : Option SV} {v : Value} (h : plain s = some v) : s = some (Sum.inl v) := by
  cases s with
  | none => cases h
  | some x =>
    cases x with
    | inl v' => simp only [plain, Option.some.injEq] at h; rw [h]
    | inr p => cases h
/-- What a call does, as a fact with its own words; T: what the world must hold. -/
structure CFa (P : Program) (T : World → Prop) where
  f : Nat
  args : Array Value
  v : Value
  hr : ∀ (xs : Array Operand) (ts : Array TypeId) (a : Act) (ty : TypeId) (w : World), (do let d ← resolve a.eval { callee := .value (.func f), args := xs, argTypes := ts } ty; invoke d.target d.args : Sem Next).run P w = .ok (.enter f (xs.map a.eval)) w
  hc : ∀ w, T w → Calls P f args w fun e w' => e = .returned v ∧ Below w.heap.size w w'
def vm : Op → List Operand
  | .binOp _ _ x y _ => [x, y]
  | .unOp _ _ x => [x]
  | .build _ ps => ps.toList.map (·.2)
  | .field _ x _ => [x]
  | .index _ x y => [x, y]
  | .convert _ _ x => [x]
  | .call c => c.args.toList
  | .slice _ x lo hi mx => x :: (lo.toList ++ (hi.toList ++ mx.toList))
  | .load _ x => [x]
  | .fieldAddr _ x _ => [x]
  | .indexAddr _ x y => [x, y]
  | .nilCheck x => [x]
  | .makeFunc _ x y => x.toList ++ y.toList
  | .makeInterface _ x => [x]
  | .typeAssert x _ _ _ => [x]
  | .panic x => [x]
  | _ => []
/-- What an operation on values comes to; ok: for which operations. -/
structure VFa (P : Program) (T : World → Prop) where
  ok : Op → Bool
  xs : Array Value
  v : Value
  fr : Bool
  h : ∀ (a : Act) (w : World) (oo : Oper), (fr = true ∨ T w) → ok oo.op = true → ((vm oo.op).map a.eval).toArray = xs → (execOp a.eval oo).run P w = .ok (.value v) w
abbrev Fa (P : Program) (T : World → Prop) : Type := Unit ⊕ CFa P T ⊕ VFa P T
abbrev Eqs : Type := List (Value × Value) × List (Op × Op)
/-- The pairs are alike. -/
def EqOk (e : Eqs) : Prop := (∀ p ∈ e.1, p.1 = p.2) ∧ (∀ p ∈ e.2, p.1 = p.2)
/-- A part of a row that is loaded. -/
def loadV (P : Program) (t : TypeId) (c : Array Value) (off : Nat) : Option Value :=
  match P.underlying t with
  | some d => if aggB d = true then (match P.info? t with | some i => if off + i.size ≤ c.size then some (.agg (c.extract off (off + i.size))) else none | none => none) else c[off]?
  | none => none
/-- What a plain operation comes to, by its own; look: the rows that can be read; fo, io: how far fields and members lie. -/
def natV (P : Program) (ops : Array Oper) (tm vals : Vs) (look : Nat → Option (Array Value)) (fo : Nat → Nat → Option Nat) (io : Nat → Int → Option Nat) (k : Nat) : Op → Option SV
  | .move x => evS ops tm vals k x
  | .assign x => evS ops tm vals k x
  | .pick c x y => match plain (evS ops tm vals k c) with
    | some (.bool true) => evS ops tm vals k x
    | some (.bool false) => evS ops tm vals k y
    | _ => none
  | .extract x i => match plain (evS ops tm vals k x) with
    | some (.tuple vs) => (vs[i]?).map Sum.inl
    | _ => none
  | .load t x => match evS ops tm vals k x with
    | some (Sum.inr (id, off)) => match look id with
      | some c => (loadV P t c off).map Sum.inl
      | none => none
    | _ => none
  | .fieldAddr t x f => match evS ops tm vals k x with
    | some (Sum.inr (id, off)) => (fo t f).map fun d => Sum.inr (id, off + d)
    | _ => none
  | .indexAddr t x y => match evS ops tm vals k x, plain (evS ops tm vals k y) with
    | some (Sum.inr (id, off)), some (.int .i64 i) => (io t i).map fun d => Sum.inr (id, off + d)
    | _, _ => none
  | _ => none
section
variable {P : Program} {T : World → Prop} {Q : Exit → Act → World → Prop} {ops : Array Oper} {a : Act} {w : World} {N0 : Nat} {G : List (Nat × Array Value)} {k : Nat} {a' : Act} {w' : World} {β : Nat → Nat} {tm vals : Vs} {L : List Sp} {o : Oper}
theorem run_loadV {t : TypeId} {x : Operand} (ho : o.op = .load t x) {g off : Nat} (hx : a'.eval x = .pointer (some ⟨g, off, none⟩)) {c : Array Value} {v : Value} (hr : zb w' g c) (h : loadV P t c off = some v) :
    o.wp P a' w' (fun a'' w'' => a'' = a'.put o.dst v ∧ Below w'.heap.size w' w'') Q := by
  unfold loadV at h
  cases hu : P.underlying t with
  | none => rw [hu] at h; cases h
  | some d =>
    rw [hu] at h
    simp only [] at h
    by_cases hd : aggB d = true
    · rw [if_pos hd] at h
      cases hi : P.info? t with
      | none => rw [hi] at h; cases h
      | some i =>
        rw [hi] at h
        simp only [] at h
        by_cases hs : off + i.size ≤ c.size
        · rw [if_pos hs] at h
          cases h
          have hz : (c.extract off (off + i.size)).size = i.size := by rw [Array.size_extract]; omega
          exact ob_loada t x ho hx hr hu hd (by rw [hi, hz]; rfl) (by rw [hz])
        · rw [if_neg hs] at h; cases h
    · rw [if_neg hd] at h
      exact ob_load1 t x ho hx hr hu (by simpa using hd) h
theorem natV_ok {look : Nat → Option (Array Value)} {fo : Nat → Nat → Option Nat} {io : Nat → Int → Option Nat}
    (hfo : ∀ t f d, fo t f = some d → ∀ g off w, (Instr.fieldAt t (.pointer (some ⟨g, off, none⟩)) f).run P w = .ok (.pointer (some ⟨g, off + d, none⟩)) w)
    (hio : ∀ t i d, io t i = some d → ∀ g off w, (Instr.indexAt t (.pointer (some ⟨g, off, none⟩)) (.int .i64 i)).run P w = .ok (.pointer (some ⟨g, off + d, none⟩)) w)
    (ha : a.tmps = (tm.map (upO β)).toArray) (E : RE ops a w N0 G L k a' w') (hL : ∀ (j : Nat) (s : SV), vals[j]? = some (some s) → L[j]? = some (sV (up β s))) (hl : ∀ id c, look id = some c → zb w' (β id) c) {s : SV}
    (h : natV P ops tm vals look fo io k o.op = some s) : o.wp P a' w' (fun a'' w'' => a'' = a'.put o.dst (up β s) ∧ Below w'.heap.size w' w'') Q := by
  cases hop : o.op with
  | move x => rw [hop] at h; exact ob_move x hop (q8 ha E hL h)
  | assign x => rw [hop] at h; exact ob_assign x hop (q8 ha E hL h)
  | pick c x y =>
    rw [hop] at h
    simp only [natV] at h
    split at h
    · next hc => exact ob_pick c x y hop (q8 ha E hL (zp hc)) (by simp only [if_true]; exact q8 ha E hL h)
    · next hc => exact ob_pick c x y hop (q8 ha E hL (zp hc)) (by simp only [Bool.false_eq_true, if_false]; exact q8 ha E hL h)
    · cases h
  | extract x i =>
    rw [hop] at h
    simp only [natV] at h
    split at h
    · next vs hx =>
      cases hv : vs[i]? with
      | none => rw [hv] at h; cases h
      | some v =>
        rw [hv] at h
        simp only [Option.map_some, Option.some.injEq] at h
        subst h
        exact ob_extract x i hop (q8 ha E hL (zp hx)) hv
    · cases h
  | load t x =>
    rw [hop] at h
    simp only [natV] at h
    split at h
    · next id off hx =>
      split at h
      · next c hc =>
        cases hv : loadV P t c off with
        | none => rw [hv] at h; cases h
        | some v =>
          rw [hv] at h
          simp only [Option.map_some, Option.some.injEq] at h
          subst h
          exact run_loadV hop (q8 ha E hL hx) (hl id c hc) hv
      · cases h
    · cases h
  | fieldAddr t x f =>
    rw [hop] at h
    simp only [natV] at h
    split at h
    · next id off hx =>
      cases hv : fo t f with
      | none => rw [hv] at h; cases h
      | some d =>
        rw [hv] at h
        simp only [Option.map_some, Option.some.injEq] at h
        subst h
        exact zb6 t x f hop (q8 ha E hL hx) (hfo t f d hv _ _ _)
    · cases h
  | indexAddr t x y =>
    rw [hop] at h
    simp only [natV] at h
    split at h
    · next id off i hx hy =>
      cases hv : io t i with
      | none => rw [hv] at h; cases h
      | some d =>
        rw [hv] at h
        simp only [Option.map_some, Option.some.injEq] at h
        subst h
        exact ob_indexAddr t x y hop (q8 ha E hL hx) (q8 ha E hL (zp hy)) (hio t i d hv _ _ _)
    · cases h
  | _ => rw [hop] at h; simp [natV] at h
end
/-- What the facts at hand make of an operation. -/
def calV (P : Program) (T : World → Prop) (ops : Array Oper) (tm vals : Vs) (look : Nat → Option (Array Value)) (fo : Nat → Nat → Option Nat) (io : Nat → Int → Option Nat) (k : Nat) (o : Op) : Fa P T → Option (SV × Eqs)
  | Sum.inl _ => (natV P ops tm vals look fo io k o).map fun s => (s, [], [])
  | Sum.inr (Sum.inl c) => match o with
    | .call { callee := .value (.func f), args := xs, argTypes := ts } => if f = c.f then (xs.toList.mapM fun x => plain (evS ops tm vals k x)).map fun vs => (Sum.inl c.v, [(.tuple vs.toArray, .tuple c.args)], []) else none
    | _ => none
  | Sum.inr (Sum.inr c) => if c.ok o = true then ((vm o).mapM fun x => plain (evS ops tm vals k x)).map fun vs => (Sum.inl c.v, [(.tuple vs.toArray, .tuple c.xs)], []) else none
section
variable {P : Program} {T : World → Prop} {Q : Exit → Act → World → Prop} {ops : Array Oper} {a : Act} {w : World} {N0 : Nat} {G : List (Nat × Array Value)} {k : Nat} {a' : Act} {w' : World} {β : Nat → Nat} {tm vals : Vs} {L : List Sp} {o : Oper}
theorem mapM_ok (ha : a.tmps = (tm.map (upO β)).toArray) (E : RE ops a w N0 G L k a' w') (hL : ∀ (j : Nat) (s : SV), vals[j]? = some (some s) → L[j]? = some (sV (up β s))) :
    ∀ {xs : List Operand} {vs : List Value}, (xs.mapM fun x => plain (evS ops tm vals k x)) = some vs → xs.map a'.eval = vs
  | [], vs, h => by simp at h; subst h; rfl
  | x :: xs, vs, h => by
    rw [List.mapM_cons] at h
    cases h1 : plain (evS ops tm vals k x) with
    | none => rw [h1] at h; simp at h
    | some v =>
      cases h2 : (xs.mapM fun x => plain (evS ops tm vals k x)) with
      | none => rw [h1, h2] at h; simp at h
      | some us =>
        rw [h1, h2] at h
        simp at h
        subst h
        rw [List.map_cons, mapM_ok ha E hL h2, q8 ha E hL (zp h1)]
        rfl
theorem calV_ok {look : Nat → Option (Array Value)} {fo : Nat → Nat → Option Nat} {io : Nat → Int → Option Nat}
    (hfo : ∀ t f d, fo t f = some d → ∀ g off w, (Instr.fieldAt t (.pointer (some ⟨g, off, none⟩)) f).run P w = .ok (.pointer (some ⟨g, off + d, none⟩)) w)
    (hio : ∀ t i d, io t i = some d → ∀ g off w, (Instr.indexAt t (.pointer (some ⟨g, off, none⟩)) (.int .i64 i)).run P w = .ok (.pointer (some ⟨g, off + d, none⟩)) w)
    (ha : a.tmps = (tm.map (upO β)).toArray) (E : RE ops a w N0 G L k a' w') (hL : ∀ (j : Nat) (s : SV), vals[j]? = some (some s) → L[j]? = some (sV (up β s))) (hl : ∀ id c, look id = some c → zb w' (β id) c) (hT : T w')
    {fa : Fa P T} {s : SV} {e : Eqs} (h : calV P T ops tm vals look fo io k o.op fa = some (s, e)) (he : EqOk e) : o.wp P a' w' (fun a'' w'' => a'' = a'.put o.dst (up β s) ∧ Below w'.heap.size w' w'') Q := by
  rcases fa with _ | c | c
  · simp only [calV] at h
    cases hn : natV P ops tm vals look fo io k o.op with
    | none => rw [hn] at h; cases h
    | some s' =>
      rw [hn] at h
      simp only [Option.map_some, Option.some.injEq, Prod.mk.injEq] at h
      obtain ⟨rfl, _⟩ := h
      exact natV_ok hfo hio ha E hL hl hn
  · cases hop : o.op with
    | call cc =>
      rw [hop] at h
      obtain ⟨callee, xs, ts⟩ := cc
      cases callee with
      | value x =>
        cases x with
        | func f =>
          simp only [calV] at h
          by_cases hf : f = c.f
          · rw [if_pos hf] at h
            subst hf
            cases hm : (xs.toList.mapM fun x => plain (evS ops tm vals k x)) with
            | none => rw [hm] at h; cases h
            | some vs =>
              rw [hm] at h
              simp only [Option.map_some, Option.some.injEq, Prod.mk.injEq] at h
              obtain ⟨rfl, rfl⟩ := h
              have h1 := mapM_ok ha E hL hm
              have h2 := he.1 _ (List.mem_singleton.2 rfl)
              simp only [Value.tuple.injEq] at h2
              refine zae c.f xs ts hop (vs := c.args) ?_ (c.hr xs ts) (c.hc w' hT)
              rw [← h2, ← h1]
              apply Array.ext'
              simp
          · rw [if_neg hf] at h; cases h
        | _ => simp [calV] at h
      | _ => simp [calV] at h
    | _ => rw [hop] at h; simp [calV] at h
  · simp only [calV] at h
    by_cases hok : c.ok o.op = true
    · rw [if_pos hok] at h
      cases hm : ((vm o.op).mapM fun x => plain (evS ops tm vals k x)) with
      | none => rw [hm] at h; cases h
      | some vs =>
        rw [hm] at h
        simp only [Option.map_some, Option.some.injEq, Prod.mk.injEq] at h
        obtain ⟨rfl, rfl⟩ := h
        have h1 := mapM_ok ha E hL hm
        have h2 := he.1 _ (List.mem_singleton.2 rfl)
        simp only [Value.tuple.injEq] at h2
        refine ob_val (c.h a' w' o (.inr hT) hok ?_)
        rw [← h2, ← h1]
    · rw [if_neg hok] at h; cases h
end
def isAlc : Op → Bool
  | .alloc _ => true
  | .box _ _ => true
  | _ => false
def isSto : Op → Bool
  | .store _ _ _ => true
  | _ => false
def isVal (o : Op) : Bool := !isAlc o && !isSto o
/-- The operation that makes the block that an operand points to, if it is made in this region. -/
def alOf (ops : Array Oper) (n k : Nat) : Operand → Option Nat
  | .tmp t => match wr ops t with
    | some j => if (isAlc (yx ops j).op && newB ops n k t j) = true then some j else none
    | none => none
  | _ => none
/-- The block that an operand points into. -/
def baseI (ops : Array Oper) (tm : Vs) : Nat → Operand → Option Nat
  | 0, _ => none
  | f + 1, .tmp t => match wr ops t with
    | none => match (tm[t]?).join with
      | some (Sum.inr (i, _)) => some i
      | _ => none
    | some j => match (yx ops j).op with
      | .fieldAddr _ x _ => baseI ops tm f x
      | .indexAddr _ x _ => baseI ops tm f x
      | _ => none
  | _, _ => none
/-- Which operation stores into which old block. -/
def slOf (ops : Array Oper) (tm : Vs) : List (Nat × Nat) :=
  (List.range ops.size).filterMap fun k => match (yx ops k).op with
    | .store _ x _ => match alOf ops tm.length k x with
      | some _ => none
      | none => (baseI ops tm 4 x).map fun i => (k, i)
    | _ => none
abbrev Rows : Type := List (Nat × Array Value)
def y9 (rows : Rows) (id : Nat) : Option (Array Value) := (rows.find? fun p => p.1 == id).map (·.2)
def lookK (ops : Array Oper) (rows : Rows) (sl : List (Nat × Nat)) (k id : Nat) : Option (Array Value) :=
  match sl.find? fun p => p.2 == id with
  | none => y9 rows id
  | some (m, _) => if ya ops m k = true then y9 rows id else none
section
variable (P : Program) (T : World → Prop) (ops : Array Oper) (tm : Vs) (rows : Rows) (sl : List (Nat × Nat)) (fo : Nat → Nat → Option Nat) (io : Nat → Int → Option Nat) (ze : Nat → Option (Array Value)) (fs : List (Fa P T))
def step1 (vals : Vs) (k : Nat) (o : Oper) : Option (Option SV × Eqs) :=
  if isVal o.op = true then
    match o.guard with
    | none => (calV P T ops tm vals (lookK ops rows sl k) fo io k o.op (fs[k]?.getD (Sum.inl ()))).map fun x => (some x.1, x.2)
    | some (j, b) => match vals[j]? with
      | some (some (Sum.inl (.bool b'))) => if b' = b then (calV P T ops tm vals (lookK ops rows sl k) fo io k o.op (fs[k]?.getD (Sum.inl ()))).map fun x => (some x.1, x.2) else some (none, [], [])
      | some none => if isVal (yx ops j).op = true then some (none, [], []) else none
      | _ => none
  else if o.guard.isNone = true then some (none, [], []) else none
def go1 : List Oper → Nat → Vs → Eqs → Option (Vs × Eqs)
  | [], _, vals, e => some (vals, e)
  | o :: os, k, vals, e => match step1 P T ops tm rows sl fo io fs vals k o with
    | some (s, e') => go1 os (k + 1) (vals ++ [s]) (e.1 ++ e'.1, e.2 ++ e'.2)
    | none => none
/-- The store into the block that operation k makes. -/
def stInto (k : Nat) : Option Nat := (List.range ops.size).find? fun m => match (yx ops m).op with
  | .store _ x _ => alOf ops tm.length m x == some k
  | _ => false
def fits (ty : Nat) (c : Array Value) (off : Nat) (v : Value) : Bool := (P.info? ty).map (·.size) == some v.cells.size && decide (off + v.cells.size ≤ c.size) && v.cells.all (·.oneCell')
def rsOf (vals : Vs) (k : Nat) : Option Rs :=
  match (yx ops k).op with
  | .alloc t => match ze t with
    | some z => match stInto ops tm k with
      | some m => match (yx ops m).op with
        | .store ty _ y => match plain (evS ops tm vals m y) with
          | some v => if fits P ty z 0 v = true then some (rA m z (over z 0 v.cells)) else none
          | none => none
        | _ => none
      | none => some (rA ops.size z z)
    | none => none
  | .box _ x => match plain (evS ops tm vals k x), stInto ops tm k with
    | some v, none => some (rA ops.size v.cells v.cells)
    | _, _ => none
  | .store ty x y => match alOf ops tm.length k x with
    | some j => if stInto ops tm j = some k then some (rS j) else none
    | none => match evS ops tm vals k x, plain (evS ops tm vals k y) with
      | some (Sum.inr (id, off)), some v => match y9 rows id with
        | some c => if (fits P ty c off v && sl.contains (k, id)) = true then some (rK id c (over c off v.cells)) else none
        | none => none
      | _, _ => none
  | _ => (vals[k]?).map rV
end
section
variable {P : Program} {T : World → Prop} {ops : Array Oper} {tm : Vs} {rows : Rows} {sl : List (Nat × Nat)} {fo : Nat → Nat → Option Nat} {io : Nat → Int → Option Nat} {ze : Nat → Option (Array Value)} {fs : List (Fa P T)}
/-- What the first pass tells of each operation. -/
theorem go1_spec : ∀ {os : List Oper} {k : Nat} {v0 vals : Vs} {e0 e : Eqs}, v0.length = k → go1 P T ops tm rows sl fo io fs os k v0 e0 = some (vals, e) → EqOk e →
    EqOk e0 ∧ vals.length = k + os.length ∧ vals.take k = v0 ∧ ∀ n o, os[n]? = some o → ∃ s e', step1 P T ops tm rows sl fo io fs (vals.take (k + n)) (k + n) o = some (s, e') ∧ EqOk e' ∧ vals[k + n]? = some s
  | [], k, v0, vals, e0, e, hk, h, he => by
    simp only [go1, Option.some.injEq, Prod.mk.injEq] at h
    obtain ⟨rfl, rfl⟩ := h
    exact ⟨he, by simpa using hk, by rw [← hk]; simp, fun n o ho => by simp at ho⟩
  | o :: os, k, v0, vals, e0, e, hk, h, he => by
    simp only [go1] at h
    cases hs : step1 P T ops tm rows sl fo io fs v0 k o with
    | none => rw [hs] at h; cases h
    | some p =>
      obtain ⟨s, e'⟩ := p
      rw [hs] at h
      simp only [] at h
      obtain ⟨h1, h2, h3, h4⟩ := go1_spec (by simp [hk]) h he
      have h5 : vals.take k = v0 := by
        have := congrArg (List.take k) h3
        rw [List.take_take, Nat.min_eq_left (Nat.le_succ k)] at this
        rw [this, ← hk]; simp
      have h6 : vals[k]? = some s := by
        have q : (vals.take (k + 1))[k]? = (v0 ++ [s])[k]? := by rw [h3]
        rw [List.getElem?_take_of_lt (Nat.lt_succ_self k)] at q
        rw [q, ← hk]; simp
      refine ⟨⟨fun p hp => h1.1 p (List.mem_append_left _ hp), fun p hp => h1.2 p (List.mem_append_left _ hp)⟩, by rw [h2]; simp; omega, h5, fun n o' ho => ?_⟩
      cases n with
      | zero =>
        simp only [List.getElem?_cons_zero, Option.some.injEq] at ho
        subst ho
        exact ⟨s, e', by rw [Nat.add_zero, h5]; exact hs, ⟨fun p hp => h1.1 p (List.mem_append_right _ hp), fun p hp => h1.2 p (List.mem_append_right _ hp)⟩, h6⟩
      | succ n =>
        have := h4 n o' (by simpa using ho)
        rw [show k + 1 + n = k + (n + 1) by omega] at this
        exact this
theorem Obs_mk {Q : Exit → Act → World → Prop} {a : Act} {w : World} {N0 : Nat} {G : List (Nat × Array Value)} {L : List Sp} : ∀ {l : List Sp} {k : Nat}, (∀ n s, l[n]? = some s → Ob P ops Q a w N0 G L (k + n) s) → Obs P ops Q a w N0 G L k l
  | [], _, _ => trivial
  | s :: l, k, h => ⟨by have := h 0 s rfl; rwa [Nat.add_zero] at this, Obs_mk fun n s' hs => by
      have := h (n + 1) s' (by simpa using hs)
      rwa [show k + (n + 1) = k + 1 + n by omega] at this⟩
theorem StOk_mk {B : Nat} {w : World} {G : List (Nat × Array Value)} {β : Nat → Nat} : ∀ {l : List Rs}, (∀ id i e, rK id i e ∈ l → zb w (β id) i ∧ B ≤ β id ∧ vw (β id) G) →
    (l.Pairwise fun r r' => ∀ id i e id' i' e', r = rK id i e → r' = rK id' i' e' → β id' ≠ β id) → StOk B w G (l.map (toSp β))
  | [], _, _ => trivial
  | r :: l, h, hp => by
    have ih : StOk B w G (l.map (toSp β)) := StOk_mk (fun id i e hm => h id i e (List.mem_cons_of_mem _ hm)) (List.pairwise_cons.1 hp).2
    rcases r with s | x | x | ⟨id, i, e⟩
    · exact ih
    · exact ih
    · exact ih
    · refine ⟨⟨(h id i e List.mem_cons_self).1, (h id i e List.mem_cons_self).2.1, (h id i e List.mem_cons_self).2.2, ?_⟩, ih⟩
      have h1 := (List.pairwise_cons.1 hp).1
      have : ∀ {m : List Rs}, (∀ r' ∈ m, ∀ id' i' e', r' = rK id' i' e' → β id' ≠ β id) → zca (β id) (m.map (toSp β)) := by
        intro m
        induction m with
        | nil => intro _; trivial
        | cons r' m ihm =>
          intro hm
          have t := ihm fun r'' hr'' => hm r'' (List.mem_cons_of_mem _ hr'')
          rcases r' with s | x | x | ⟨id', i', e'⟩
          · exact t
          · exact t
          · exact t
          · exact ⟨hm _ List.mem_cons_self id' i' e' rfl, t⟩
      exact this fun r' hr' id' i' e' er => h1 r' hr' id i e id' i' e' rfl er
end
theorem mapM_get {α β : Type} {f : α → Option β} : ∀ {xs : List α} {ys : List β}, xs.mapM f = some ys → ys.length = xs.length ∧ ∀ (n : Nat) (x : α), xs[n]? = some x → ∃ y, f x = some y ∧ ys[n]? = some y
  | [], ys, h => by simp at h; subst h; simp
  | x :: xs, ys, h => by
    rw [List.mapM_cons] at h
    cases h1 : f x with
    | none => rw [h1] at h; simp at h
    | some y =>
      cases h2 : xs.mapM f with
      | none => rw [h1, h2] at h; simp at h
      | some zs =>
        rw [h1, h2] at h
        simp at h
        subst h
        obtain ⟨a, b⟩ := mapM_get h2
        refine ⟨by simp [a], fun n x' hx => ?_⟩
        cases n with
        | zero => simp at hx; subst hx; exact ⟨y, h1, by simp⟩
        | succ n => simpa using b n x' (by simpa using hx)
theorem zb4 {ops : Array Oper} {t j : Nat} (h : wr ops t = some j) : (ops[j]?).bind (·.dst) = some t ∧ j < ops.size := by
  have h1 := List.find?_some h
  have h2 := List.mem_of_find?_eq_some h
  refine ⟨?_, by simpa using h2⟩
  cases ho : ops[j]? with
  | none => simp [ho] at h1
  | some o => simp [ho] at h1; simpa using h1
def nodupB : List Nat → Bool
  | [] => true
  | x :: l => !l.contains x && nodupB l
theorem nodupB_ok : ∀ {l : List Nat}, nodupB l = true → l.Nodup
  | [], _ => List.nodup_nil
  | x :: l, h => by
    simp only [nodupB, Bool.and_eq_true, Bool.not_eq_true', List.contains_eq_mem, decide_eq_false_iff_not] at h
    exact List.nodup_cons.2 ⟨h.1, nodupB_ok h.2⟩
/-- All blocks named are below a number. -/
def xo (tm : Vs) (nx : Nat) : Bool := tm.all fun s => match s with
  | some (Sum.inr (i, _)) => decide (i < nx)
  | _ => true
theorem upO_agree {tm : Vs} {nx : Nat} (h : xo tm nx = true) {β β' : Nat → Nat} (hb : ∀ i, i < nx → β' i = β i) {t : Nat} {s : Option SV} (hs : tm[t]? = some s) : upO β' s = upO β s := by
  have h1 := List.all_eq_true.1 h s (List.mem_of_getElem? hs)
  rcases s with _ | v | ⟨i, o⟩
  · rfl
  · rfl
  · simp only [decide_eq_true_eq] at h1
    simp only [upO, up, hb i h1]
/-- Guards are waited for. -/
def grdB (ops : Array Oper) (n : Nat) : Bool := (List.range ops.size).all fun k => match (yx ops k).guard with
  | some (j, _) => (match (yx ops j).dst with
    | some t => newB ops n k t j
    | none => false)
  | none => true
def slB (sl : List (Nat × Nat)) (res : List Rs) : Bool := nodupB (sl.map (·.2)) && sl.all fun p => match res[p.1]? with
  | some (Sum.inr (Sum.inr (Sum.inr (id, _, _)))) => id == p.2
  | _ => false
/-- The slots behind a region. -/
def tmX (ops : Array Oper) (tm : Vs) (res : List Rs) (nx : Nat) : Vs := (List.range tm.length).map fun t => match wr ops t with
  | none => (tm[t]?).join
  | some j => match res[j]? with
    | some (Sum.inl s) => s
    | some (Sum.inr (Sum.inl _)) => some (Sum.inr (nx + j, 0))
    | _ => none
/-- An old row behind a region. -/
def oldX (sl : List (Nat × Nat)) (res : List Rs) (p : Nat × Array Value) : Nat × Array Value := match sl.find? fun q => q.2 == p.1 with
  | some (m, _) => (match res[m]? with
    | some (Sum.inr (Sum.inr (Sum.inr (_, _, e)))) => (p.1, e)
    | _ => p)
  | none => p
/-- The row that operation k makes. -/
def newX (res : List Rs) (nx k : Nat) : Option (Nat × Array Value) := match res[k]? with
  | some (Sum.inr (Sum.inl (st, i, e))) => some (nx + k, if st < res.length then e else i)
  | _ => none
def rowsX (rows : Rows) (sl : List (Nat × Nat)) (res : List Rs) (nx : Nat) : Rows := rows.map (oldX sl res) ++ (List.range res.length).filterMap (newX res nx)
abbrev St : Type := Vs × Rows × Nat
/-- No call is deferred. -/
def noDefB (ops : Array Oper) : Bool := ops.all fun o => match o.op with | .defer _ => false | _ => true
section
variable (P : Program) (T : World → Prop) (fo : Nat → Nat → Option Nat) (io : Nat → Int → Option Nat) (ze : Nat → Option (Array Value))
/-- A region, reckoned. -/
def regX (ops : Array Oper) (fs : List (Fa P T)) (st : St) : Option (St × Eqs) :=
  match go1 P T ops st.1 st.2.1 (slOf ops st.1) fo io fs ops.toList 0 [] ([], []) with
  | some (vals, e) => match (List.range ops.size).mapM (rsOf P ops st.1 st.2.1 (slOf ops st.1) ze vals) with
    | some res => if (qi ops && kn ops && grdB ops st.1.length && xo st.1 st.2.2 && xo vals st.2.2 && slB (slOf ops st.1) res && stB ops (res.map (toSp id)) && noDefB ops) = true
      then some ((tmX ops st.1 res st.2.2, rowsX st.2.1 (slOf ops st.1) res st.2.2, st.2.2 + ops.size), e) else none
    | none => none
  | none => none
end
theorem stB_any {ops : Array Oper} {res : List Rs} (β β' : Nat → Nat) : stB ops (res.map (toSp β)) = stB ops (res.map (toSp β')) := by
  unfold stB
  simp only [List.length_map]
  congr 1
  congr 1
  funext k
  simp only [List.getElem?_map]
  cases res[k]? with
  | none => rfl
  | some r =>
    rcases r with s | ⟨st, i, e⟩ | al | ⟨id, i, e⟩
    · rfl
    · simp only [Option.map_some, toSp]
      cases res[st]? with
      | none => rfl
      | some r => rcases r with s | ⟨st, i, e⟩ | al | ⟨id, i, e⟩ <;> rfl
    · simp only [Option.map_some, toSp]
      cases res[al]? with
      | none => rfl
      | some r => rcases r with s | ⟨st, i, e⟩ | al | ⟨id, i, e⟩ <;> rfl
    · rfl
section
variable {P : Program} {T : World → Prop} {ops : Array Oper} {tm : Vs} {rows : Rows} {sl : List (Nat × Nat)} {fo : Nat → Nat → Option Nat} {io : Nat → Int → Option Nat} {ze : Nat → Option (Array Value)} {fs : List (Fa P T)} {vals : Vs} {k : Nat}
theorem rs_val (h : isVal (yx ops k).op = true) : rsOf P ops tm rows sl ze vals k = (vals[k]?).map rV := by
  unfold rsOf
  cases hop : (yx ops k).op <;> rw [hop] at h <;> simp_all [isVal, isAlc, isSto]
theorem rV_spec {s : Option SV} (h : rsOf P ops tm rows sl ze vals k = some (rV s)) : isVal (yx ops k).op = true ∧ vals[k]? = some s := by
  have hv : isVal (yx ops k).op = true := by
    cases hq : isVal (yx ops k).op with
    | true => rfl
    | false =>
      exfalso
      unfold rsOf at h
      cases hop : (yx ops k).op <;> rw [hop] at hq h <;> simp [isVal, isAlc, isSto] at hq
      all_goals
        simp only [] at h
        repeat' split at h
        all_goals simp at h
  refine ⟨hv, ?_⟩
  rw [rs_val hv] at h
  cases hw : vals[k]? with
  | none => rw [hw] at h; cases h
  | some x => rw [hw] at h; simpa using h
theorem rA_spec {m : Nat} {i e : Array Value} (h : rsOf P ops tm rows sl ze vals k = some (rA m i e)) :
    (∃ t, (yx ops k).op = .alloc t ∧ ze t = some i ∧ ((m = ops.size ∧ stInto ops tm k = none ∧ e = i) ∨ ∃ ty x y v, stInto ops tm k = some m ∧ (yx ops m).op = .store ty x y ∧ plain (evS ops tm vals m y) = some v ∧ fits P ty i 0 v = true ∧ e = over i 0 v.cells)) ∨
    ∃ t x v, (yx ops k).op = .box t x ∧ plain (evS ops tm vals k x) = some v ∧ stInto ops tm k = none ∧ i = v.cells := by
  unfold rsOf at h
  cases hop : (yx ops k).op with
  | alloc t =>
    rw [hop] at h
    simp only [] at h
    refine .inl ⟨t, rfl, ?_⟩
    cases hz : ze t with
    | none => rw [hz] at h; cases h
    | some z =>
      rw [hz] at h
      simp only [] at h
      cases hs : stInto ops tm k with
      | none =>
        rw [hs] at h
        simp only [Option.some.injEq, Sum.inr.injEq, Sum.inl.injEq, Prod.mk.injEq] at h
        obtain ⟨rfl, rfl, rfl⟩ := h
        exact ⟨rfl, .inl ⟨rfl, rfl, rfl⟩⟩
      | some m' =>
        rw [hs] at h
        simp only [] at h
        split at h
        · next ty x y hm =>
          split at h
          · next v hv =>
            split at h
            · next hf =>
              simp only [Option.some.injEq, Sum.inr.injEq, Sum.inl.injEq, Prod.mk.injEq] at h
              obtain ⟨rfl, rfl, rfl⟩ := h
              exact ⟨rfl, .inr ⟨ty, x, y, v, rfl, hm, hv, hf, rfl⟩⟩
            · cases h
          · cases h
        · cases h
  | box t x =>
    rw [hop] at h
    simp only [] at h
    split at h
    · next v hv hs =>
      simp only [Option.some.injEq, Sum.inr.injEq, Sum.inl.injEq, Prod.mk.injEq] at h
      obtain ⟨rfl, rfl, rfl⟩ := h
      exact .inr ⟨t, x, v, rfl, hv, hs, rfl⟩
    · cases h
  | store ty x y =>
    rw [hop] at h
    simp only [] at h
    repeat' split at h
    all_goals simp at h
  | _ =>
    rw [hop] at h
    simp only [] at h
    cases hw : vals[k]? with
    | none => rw [hw] at h; cases h
    | some x => rw [hw] at h; simp at h
theorem st_spec {r : Rs} (h : rsOf P ops tm rows sl ze vals k = some r) (hv : ∀ s, r ≠ rV s) (ha : ∀ m i e, r ≠ rA m i e) :
    ∃ ty x y, (yx ops k).op = .store ty x y ∧ ((∃ j, alOf ops tm.length k x = some j ∧ stInto ops tm j = some k ∧ r = rS j) ∨
      ∃ id off v c, alOf ops tm.length k x = none ∧ evS ops tm vals k x = some (Sum.inr (id, off)) ∧ plain (evS ops tm vals k y) = some v ∧ y9 rows id = some c ∧ fits P ty c off v = true ∧ (k, id) ∈ sl ∧ r = rK id c (over c off v.cells)) := by
  unfold rsOf at h
  cases hop : (yx ops k).op with
  | alloc t =>
    rw [hop] at h
    simp only [] at h
    repeat' split at h
    all_goals first
      | (cases h; done)
      | (simp only [Option.some.injEq] at h; exact absurd h.symm (ha _ _ _))
  | box t x =>
    rw [hop] at h
    simp only [] at h
    split at h
    · simp only [Option.some.injEq] at h
      exact absurd h.symm (ha _ _ _)
    · cases h
  | store ty x y =>
    rw [hop] at h
    simp only [] at h
    refine ⟨ty, x, y, rfl, ?_⟩
    split at h
    · next j hj =>
      split at h
      · next hs => exact .inl ⟨j, hj, hs, by simpa using h.symm⟩
      · cases h
    · next hj =>
      split at h
      · next id off v hx hy =>
        split at h
        · next c hc =>
          split at h
          · next hf =>
            simp only [Bool.and_eq_true, List.contains_eq_mem, decide_eq_true_eq] at hf
            exact .inr ⟨id, off, v, c, hj, hx, hy, hc, hf.1, hf.2, by simpa using h.symm⟩
          · cases h
        · cases h
      · cases h
  | _ =>
    rw [hop] at h
    simp only [] at h
    cases hw : vals[k]? with
    | none => rw [hw] at h; cases h
    | some x => rw [hw] at h; simp only [Option.map_some, Option.some.injEq] at h; exact absurd h.symm (hv _)
theorem zy {id : Nat} {c : Array Value} (h : y9 rows id = some c) : (id, c) ∈ rows := by
  unfold y9 at h
  cases hf : rows.find? fun p => p.1 == id with
  | none => rw [hf] at h; cases h
  | some p =>
    rw [hf] at h
    have h1 := List.mem_of_find?_eq_some hf
    have h2 := List.find?_some hf
    simp only [Option.map_some, Option.some.injEq] at h
    simp only [beq_iff_eq] at h2
    obtain ⟨p1, p2⟩ := p
    simp only at h h2
    subst h; subst h2
    exact h1
end
/-- What stands between what is reckoned and what is run. -/
structure Inv (κ : World × Nat × (Nat → Nat) × List Deferred) (w0 : World) (β : Nat → Nat) (tm : Vs) (rows : Rows) (nx : Nat) (a : Act) (w : World) : Prop where
  fr : a.tmps = (tm.map (upO β)).toArray
  df : a.defers = κ.2.2.2
  bw : Below w0.heap.size w0 w
  row : ∀ p ∈ rows, zb w (β p.1) p.2
  lo : ∀ p ∈ rows, w0.heap.size ≤ β p.1
  lt : ∀ p ∈ rows, p.1 < nx
  inj : ∀ p ∈ rows, ∀ q ∈ rows, p.1 ≠ q.1 → β p.1 ≠ β q.1
  kx : KO κ.1 w ∧ κ.2.1 ≤ nx ∧ ∀ i, i < κ.2.1 → β i = κ.2.2.1 i
/-- What the passes tell. -/
structure RX (P : Program) (T : World → Prop) (ops : Array Oper) (tm : Vs) (rows : Rows) (sl : List (Nat × Nat)) (fo : Nat → Nat → Option Nat) (io : Nat → Int → Option Nat) (ze : Nat → Option (Array Value)) (fs : List (Fa P T)) (vals : Vs) (res : List Rs) : Prop where
  s1 : ∀ k o, ops[k]? = some o → ∃ s e', step1 P T ops tm rows sl fo io fs (vals.take k) k o = some (s, e') ∧ EqOk e' ∧ vals[k]? = some s
  rs : ∀ k, k < ops.size → ∃ r, rsOf P ops tm rows sl ze vals k = some r ∧ res[k]? = some r
  rlen : res.length = ops.size
  vlen : vals.length = ops.size
  grd : grdB ops tm.length = true
  slb : slB sl res = true
def GxR (β : Nat → Nat) (rows : Rows) (sl : List (Nat × Nat)) : List (Nat × Array Value) := (rows.filter fun p => (sl.find? fun q => q.2 == p.1).isNone).map fun p => (β p.1, p.2)
section
variable {P : Program} {T : World → Prop} {ops : Array Oper} {tm : Vs} {rows : Rows} {sl : List (Nat × Nat)} {fo : Nat → Nat → Option Nat} {io : Nat → Int → Option Nat} {ze : Nat → Option (Array Value)} {fs : List (Fa P T)} {vals : Vs} {res : List Rs} {k : Nat}
theorem op_at {k : Nat} (hk : k < ops.size) : ops[k]? = some (yx ops k) := by
  have : ops[k]? = some ops[k] := Array.getElem?_eq_getElem hk
  rw [this, opAt_eq this]
theorem RX.lt (X : RX P T ops tm rows sl fo io ze fs vals res) {k : Nat} {r : Rs} (h : res[k]? = some r) : k < ops.size := by
  have := (List.getElem?_eq_some_iff.1 h).1
  rw [X.rlen] at this
  exact this
theorem RX.at (X : RX P T ops tm rows sl fo io ze fs vals res) {k : Nat} {r : Rs} (h : res[k]? = some r) : rsOf P ops tm rows sl ze vals k = some r := by
  obtain ⟨r', h1, h2⟩ := X.rs k (X.lt h)
  rw [h] at h2
  cases h2
  exact h1
theorem RX.val (X : RX P T ops tm rows sl fo io ze fs vals res) {j : Nat} {s : SV} (h : vals[j]? = some (some s)) : res[j]? = some (rV (some s)) := by
  have hj : j < ops.size := by
    have := (List.getElem?_eq_some_iff.1 h).1
    rw [X.vlen] at this
    exact this
  obtain ⟨s', e', h1, _, h3⟩ := X.s1 j _ (op_at hj)
  rw [h] at h3
  cases h3
  have hv : isVal (yx ops j).op = true := by
    cases hq : isVal (yx ops j).op with
    | true => rfl
    | false =>
      unfold step1 at h1
      rw [hq] at h1
      simp only [Bool.false_eq_true, if_false] at h1
      split at h1 <;> simp at h1
  obtain ⟨r, h4, h5⟩ := X.rs j hj
  rw [rs_val hv, h] at h4
  simp only [Option.map_some, Option.some.injEq] at h4
  rw [h5, ← h4]
theorem RX.unguarded (X : RX P T ops tm rows sl fo io ze fs vals res) {k : Nat} (hk : k < ops.size) (hv : isVal (yx ops k).op = false) : (yx ops k).guard = none := by
  obtain ⟨s', e', h1, _, _⟩ := X.s1 k _ (op_at hk)
  unfold step1 at h1
  rw [hv] at h1
  simp only [Bool.false_eq_true, if_false] at h1
  split at h1
  · next h => simpa using h
  · cases h1
theorem RX.hL (X : RX P T ops tm rows sl fo io ze fs vals res) (β : Nat → Nat) : ∀ (j : Nat) (s : SV), vals[j]? = some (some s) → (res.map (toSp β))[j]? = some (sV (up β s)) := by
  intro j s h
  rw [List.getElem?_map, X.val h]
  rfl
theorem RX.hLt (X : RX P T ops tm rows sl fo io ze fs vals res) (β : Nat → Nat) (n : Nat) : ∀ (j : Nat) (s : SV), (vals.take n)[j]? = some (some s) → (res.map (toSp β))[j]? = some (sV (up β s)) := by
  intro j s h
  rw [List.getElem?_take] at h
  split at h
  · exact X.hL β j s h
  · cases h
theorem RX.sto (X : RX P T ops tm rows sl fo io ze fs vals res) {m id : Nat} (h : (m, id) ∈ sl) : ∃ c off v, res[m]? = some (rK id c (over c off v)) ∧ y9 rows id = some c := by
  have h1 := X.slb
  simp only [slB, Bool.and_eq_true] at h1
  have h2 := List.all_eq_true.1 h1.2 _ h
  simp only at h2
  cases hr : res[m]? with
  | none => rw [hr] at h2; cases h2
  | some r =>
    rw [hr] at h2
    rcases r with s | x | x | ⟨id', c, e⟩
    · cases h2
    · cases h2
    · cases h2
    · simp only [beq_iff_eq] at h2
      subst h2
      obtain ⟨ty, x, y, _, h3 | ⟨id, off, v, c', _, _, _, hc, _, _, h4⟩⟩ := st_spec (X.at hr) (by intro s h; cases h) (by intro _ _ _ h; cases h)
      · obtain ⟨j, _, _, h3⟩ := h3
        cases h3
      · simp only [Sum.inr.injEq, Prod.mk.injEq] at h4
        obtain ⟨rfl, rfl, rfl⟩ := h4
        exact ⟨c, off, v.cells, rfl, hc⟩
theorem find_sl {id m id' : Nat} (h : (sl.find? fun q => q.2 == id) = some (m, id')) : id' = id ∧ (m, id) ∈ sl := by
  have h1 := List.mem_of_find?_eq_some h
  have h2 := List.find?_some h
  simp only [beq_iff_eq] at h2
  subst h2
  exact ⟨rfl, h1⟩
theorem GxR_mem {β : Nat → Nat} {p : Nat × Array Value} (hp : p ∈ rows) (hn : (sl.find? fun q => q.2 == p.1) = none) : ∃ n : Nat, (GxR β rows sl)[n]? = some (β p.1, p.2) := by
  apply List.mem_iff_getElem?.1
  unfold GxR
  exact List.mem_map.2 ⟨p, List.mem_filter.2 ⟨hp, by simp [hn]⟩, rfl⟩
theorem GxR_of {β : Nat → Nat} {n g : Nat} {c : Array Value} (h : (GxR β rows sl)[n]? = some (g, c)) : ∃ id, (id, c) ∈ rows ∧ (sl.find? fun q => q.2 == id) = none ∧ g = β id := by
  have h1 := List.mem_of_getElem? h
  unfold GxR at h1
  obtain ⟨⟨id, c'⟩, hp, he⟩ := List.mem_map.1 h1
  obtain ⟨hp, hn⟩ := List.mem_filter.1 hp
  simp only [Prod.mk.injEq] at he
  obtain ⟨rfl, rfl⟩ := he
  exact ⟨id, hp, by simpa using hn, rfl⟩
variable {β : Nat → Nat} {a a' : Act} {w w' w0 : World} {N0 nx : Nat} {Q : Exit → Act → World → Prop} {κ : World × Nat × (Nat → Nat) × List Deferred}
theorem RX.look (X : RX P T ops tm rows sl fo io ze fs vals res) (E : RE ops a w0 N0 (GxR β rows sl) (res.map (toSp β)) k a' w') : ∀ id c, lookK ops rows sl k id = some c → zb w' (β id) c := by
  intro id c h
  unfold lookK at h
  cases hf : sl.find? fun q => q.2 == id with
  | none =>
    rw [hf] at h
    obtain ⟨n, hn⟩ := GxR_mem (β := β) (zy h) hf
    exact E.row n hn
  | some p =>
    obtain ⟨m, id'⟩ := p
    rw [hf] at h
    simp only [] at h
    split at h
    · next hw =>
      obtain ⟨c', off, v, h1, h2⟩ := X.sto (find_sl hf).2
      rw [h] at h2
      cases h2
      exact E.skb m (by rw [List.getElem?_map, h1]; rfl) hw
    · cases h
theorem fits_ok {ty off : Nat} {c : Array Value} {v : Value} (h : fits P ty c off v = true) : (P.info? ty).map (·.size) = some v.cells.size ∧ off + v.cells.size ≤ c.size ∧ v.cells.all (·.oneCell') = true := by
  simp only [fits, Bool.and_eq_true, beq_iff_eq, decide_eq_true_eq] at h
  exact ⟨h.1.1, h.1.2, h.2⟩
theorem RX.guard (X : RX P T ops tm rows sl fo io ze fs vals res) (hk : k < ops.size) {j : Nat} {b : Bool} (hg : (yx ops k).guard = some (j, b)) : ∃ tj, (ops[j]?).bind (·.dst) = some tj ∧ newB ops tm.length k tj j = true := by
  have h1 := List.all_eq_true.1 X.grd k (by simpa using hk)
  rw [hg] at h1
  simp only [] at h1
  cases hd : (yx ops j).dst with
  | none => rw [hd] at h1; cases h1
  | some t =>
    rw [hd] at h1
    refine ⟨t, ?_, h1⟩
    simp only [newB, Bool.and_eq_true, beq_iff_eq] at h1
    exact (zb4 h1.1.1).1
/-- Each operation does what was reckoned. -/
theorem RX.ob (X : RX P T ops tm rows sl fo io ze fs vals res) (fr : a.tmps = (tm.map (upO β)).toArray) (hT : ∀ w', Below w0.heap.size w0 w' → T w')
    (hfo : ∀ t f d, fo t f = some d → ∀ g off w, (Instr.fieldAt t (.pointer (some ⟨g, off, none⟩)) f).run P w = .ok (.pointer (some ⟨g, off + d, none⟩)) w)
    (hio : ∀ t i d, io t i = some d → ∀ g off w, (Instr.indexAt t (.pointer (some ⟨g, off, none⟩)) (.int .i64 i)).run P w = .ok (.pointer (some ⟨g, off + d, none⟩)) w)
    (hze : ∀ t z, ze t = some z → ∀ (ρ : Operand → Value) (o : Oper) w, o.op = .alloc t → ∃ t', (execOp ρ o).run P w = .ok (.value (ye w.heap.size)) (w.alloc (.cells z t')))
    {r : Rs} (hr : res[k]? = some r) : Ob P ops Q a w0 N0 (GxR β rows sl) (res.map (toSp β)) k (toSp β r) := by
  have hk := X.lt hr
  have hsz : a.tmps.size = tm.length := by rw [fr]; simp
  rcases r with s | ⟨m, i, e⟩ | j | ⟨id, i, e⟩
  · obtain ⟨hv, hs⟩ := rV_spec (X.at hr)
    obtain ⟨s', e', h1, h2, h3⟩ := X.s1 k _ (op_at hk)
    rw [hs] at h3
    cases h3
    unfold step1 at h1
    rw [hv] at h1
    simp only [if_true] at h1
    have core : ∀ {x : SV × Eqs}, calV P T ops tm (vals.take k) (lookK ops rows sl k) fo io k (yx ops k).op (fs[k]?.getD (Sum.inl ())) = some x → EqOk x.2 → ∀ a' w', RE ops a w0 N0 (GxR β rows sl) (res.map (toSp β)) k a' w' → (yx ops k).wp P a' w' (fun a'' w'' => a'' = a'.put (yx ops k).dst (up β x.1) ∧ Below w'.heap.size w' w'') Q := by
      intro x hx he a' w' E
      exact calV_ok hfo hio fr E (X.hLt β k) (X.look E) (hT w' E.bw) hx he
    cases hg : (yx ops k).guard with
    | none =>
      rw [hg] at h1
      simp only [] at h1
      cases hx : calV P T ops tm (vals.take k) (lookK ops rows sl k) fo io k (yx ops k).op (fs[k]?.getD (Sum.inl ())) with
      | none => rw [hx] at h1; cases h1
      | some x =>
        rw [hx] at h1
        simp only [Option.map_some, Option.some.injEq, Prod.mk.injEq] at h1
        obtain ⟨rfl, rfl⟩ := h1
        intro a' w' E
        exact yg hg (core hx h2 a' w' E)
    | some jb =>
      obtain ⟨j, b⟩ := jb
      rw [hg] at h1
      simp only [] at h1
      obtain ⟨tj, hj, hn⟩ := X.guard hk hg
      rw [← hsz] at hn
      cases hq : (vals.take k)[j]? with
      | none => rw [hq] at h1; cases h1
      | some q =>
        rw [hq] at h1
        rcases q with _ | v | p
        · simp only [] at h1
          split at h1
          · next hvj =>
            simp only [Option.some.injEq, Prod.mk.injEq] at h1
            obtain ⟨rfl, rfl⟩ := h1
            have hqj : vals[j]? = some none := by
              rw [List.getElem?_take] at hq
              split at hq
              · exact hq
              · cases hq
            have hjl : j < ops.size := by
              have := (List.getElem?_eq_some_iff.1 hqj).1
              rw [X.vlen] at this
              exact this
            have hrj : (res.map (toSp β))[j]? = some (sV undef) := by
              obtain ⟨r', h4, h5⟩ := X.rs j hjl
              rw [rs_val hvj, hqj] at h4
              simp only [Option.map_some, Option.some.injEq] at h4
              rw [List.getElem?_map, h5, ← h4]
              rfl
            exact (Obs.skipU hg hj (fun a' w' E => E.new tj j hn hrj) Obs.nil).1
          · cases h1
        · cases v with
          | bool b' =>
            simp only [] at h1
            have hrj := X.hLt β k j _ hq
            split at h1
            · next hbb =>
              subst hbb
              cases hx : calV P T ops tm (vals.take k) (lookK ops rows sl k) fo io k (yx ops k).op (fs[k]?.getD (Sum.inl ())) with
              | none => rw [hx] at h1; cases h1
              | some x =>
                rw [hx] at h1
                simp only [Option.map_some, Option.some.injEq, Prod.mk.injEq] at h1
                obtain ⟨rfl, rfl⟩ := h1
                exact (Obs.gval hg hj (fun a' w' E => E.new tj j hn hrj) (core hx h2) Obs.nil).1
            · next hbb =>
              simp only [Option.some.injEq, Prod.mk.injEq] at h1
              obtain ⟨rfl, rfl⟩ := h1
              exact (Obs.skip hg hj (fun a' w' E => E.new tj j hn hrj) hbb Obs.nil).1
          | _ => simp at h1
        · simp at h1
  · rcases rA_spec (X.at hr) with ⟨t, hop, hz, _⟩ | ⟨t, x, v, hop, hx, _, hi⟩
    · have hg := X.unguarded hk (by rw [hop]; rfl)
      intro a' w' E
      obtain ⟨t', ht⟩ := hze t i hz a'.eval (yx ops k) w' hop
      exact yg hg (ob_alloc ht)
    · have hg := X.unguarded hk (by rw [hop]; rfl)
      intro a' w' E
      refine yg hg (ob_alloc (t := t) ?_)
      unfold execOp
      simp only [hop, q8 fr E (X.hL β) (zp hx), up, Sem.run_bind, Instr.box, newVar, newRow, run_newObj_alloc, Sem.run_pure, Result.andThen_ok, hi]
  · obtain ⟨ty, x, y, hop, ⟨j', hal, hst, h4⟩ | ⟨_, _, _, _, _, _, _, _, _, _, h4⟩⟩ := st_spec (X.at hr) (by intro s h; cases h) (by intro _ _ _ h; cases h)
    · simp only [Sum.inr.injEq, Sum.inl.injEq] at h4
      subst h4
      have hg := X.unguarded hk (by rw [hop]; rfl)
      intro a' w' g f st i e hLj E hev hrow
      have hj : ∃ r', res[j]? = some r' ∧ toSp β r' = sA f st i e := by
        rw [List.getElem?_map] at hLj
        cases hq : res[j]? with
        | none => rw [hq] at hLj; cases hLj
        | some r' => rw [hq] at hLj; exact ⟨r', rfl, by simpa using hLj⟩
      obtain ⟨r', hq, hq'⟩ := hj
      rcases r' with s | ⟨m, i', e'⟩ | j' | ⟨id', i', e'⟩
      · cases hq'
      · simp only [toSp, Sum.inr.injEq, Sum.inl.injEq, Prod.mk.injEq] at hq'
        obtain ⟨rfl, rfl, rfl, rfl⟩ := hq'
        rcases rA_spec (X.at hq) with ⟨t, hopj, hz, ⟨_, hn, _⟩ | ⟨ty', x', y', v, hs, hm, hv, hf, he⟩⟩ | ⟨_, _, _, _, _, hn, _⟩
        · rw [hst] at hn; cases hn
        · rw [hst] at hs
          cases hs
          rw [hop] at hm
          cases hm
          obtain ⟨f1, f2, f3⟩ := fits_ok hf
          have hx : a'.eval x = ye g := by
            cases x with
            | tmp t =>
              simp only [alOf] at hal
              cases hw : wr ops t with
              | none => rw [hw] at hal; cases hal
              | some j' =>
                rw [hw] at hal
                simp only [] at hal
                split at hal
                · next hh =>
                  cases hal
                  simp only [Bool.and_eq_true] at hh
                  exact hev t (by rw [hsz]; exact hh.2)
                · cases hal
            | _ => simp [alOf] at hal
          exact yg hg (v5 ty x y hop hx (q8 fr E (X.hL β) (zp hv)) rfl hrow f1 f2 f3 he.symm)
        · rw [hst] at hn; cases hn
      · cases hq'
      · cases hq'
    · cases h4
  · obtain ⟨ty, x, y, hop, ⟨_, _, _, h4⟩ | ⟨id', off, v, c, hal, hx, hy, hc, hf, hm, h4⟩⟩ := st_spec (X.at hr) (by intro s h; cases h) (by intro _ _ _ h; cases h)
    · cases h4
    · simp only [Sum.inr.injEq, Prod.mk.injEq] at h4
      obtain ⟨rfl, rfl, rfl⟩ := h4
      have hg := X.unguarded hk (by rw [hop]; rfl)
      intro a' w' E hrow
      obtain ⟨f1, f2, f3⟩ := fits_ok hf
      exact yg hg (v5 ty x y hop (q8 fr E (X.hL β) hx) (q8 fr E (X.hL β) (zp hy)) rfl hrow f1 f2 f3 rfl)
theorem Inv.rws (I : Inv κ w0 β tm rows nx a w) : yy w (GxR β rows sl) := by
  have h : ∀ l : List (Nat × Array Value), (∀ p ∈ l, zb w p.1 p.2) → yy w l := by
    intro l
    induction l with
    | nil => intro _; trivial
    | cons p l ih => exact fun h => ⟨h p List.mem_cons_self, ih fun q hq => h q (List.mem_cons_of_mem _ hq)⟩
  refine h _ fun p hp => ?_
  obtain ⟨n, hn⟩ := List.mem_iff_getElem?.1 hp
  obtain ⟨g, c⟩ := p
  obtain ⟨id, hm, _, rfl⟩ := GxR_of hn
  exact I.row _ hm
theorem RX.stOk (X : RX P T ops tm rows sl fo io ze fs vals res) (I : Inv κ w0 β tm rows nx a w) : StOk w0.heap.size w (GxR β rows sl) (res.map (toSp β)) := by
  have key : ∀ {k id : Nat} {i e : Array Value}, res[k]? = some (rK id i e) → (id, i) ∈ rows ∧ (k, id) ∈ sl := by
    intro k id i e hr
    obtain ⟨ty, x, y, hop, ⟨_, _, _, h4⟩ | ⟨id', off, v, c, hal, hx, hy, hc, hf, hm, h4⟩⟩ := st_spec (X.at hr) (by intro s h; cases h) (by intro _ _ _ h; cases h)
    · cases h4
    · simp only [Sum.inr.injEq, Prod.mk.injEq] at h4
      obtain ⟨rfl, rfl, rfl⟩ := h4
      exact ⟨zy hc, hm⟩
  refine StOk_mk ?_ ?_
  · intro id i e hm
    obtain ⟨k, hk⟩ := List.mem_iff_getElem?.1 hm
    obtain ⟨h1, h2⟩ := key hk
    refine ⟨I.row _ h1, I.lo _ h1, ?_⟩
    have h : ∀ l : List (Nat × Array Value), (∀ p ∈ l, p.1 ≠ β id) → vw (β id) l := by
      intro l
      induction l with
      | nil => intro _; trivial
      | cons p l ih => exact fun h => ⟨h p List.mem_cons_self, ih fun q hq => h q (List.mem_cons_of_mem _ hq)⟩
    refine h _ fun p hp => ?_
    obtain ⟨n, hn⟩ := List.mem_iff_getElem?.1 hp
    obtain ⟨g, c⟩ := p
    obtain ⟨id', hm', hf, rfl⟩ := GxR_of hn
    refine I.inj _ hm' _ h1 ?_
    intro he
    simp only at he
    subst he
    have := List.find?_eq_none.1 hf _ h2
    simp at this
  · rw [List.pairwise_iff_getElem]
    intro m n hm hn hmn id i e id' i' e' h1 h2
    have k1 := key (k := m) (id := id) (i := i) (e := e) (by rw [List.getElem?_eq_getElem hm, h1])
    have k2 := key (k := n) (id := id') (i := i') (e := e') (by rw [List.getElem?_eq_getElem hn, h2])
    refine I.inj _ k2.1 _ k1.1 ?_
    intro he
    simp only at he
    subst he
    have h3 := X.slb
    simp only [slB, Bool.and_eq_true] at h3
    have h4 := nodupB_ok h3.1
    have h5 : ∀ {l : List (Nat × Nat)}, (l.map (·.2)).Nodup → ∀ {x y z : Nat}, (x, z) ∈ l → (y, z) ∈ l → x = y := by
      intro l
      induction l with
      | nil => intro _ x y z h; cases h
      | cons p l ih =>
        intro hd x y z h h'
        rw [List.map_cons, List.nodup_cons] at hd
        have hx : ∀ {u : Nat}, (u, z) ∈ l → z ∈ l.map (·.2) := fun hu => List.mem_map.2 ⟨_, hu, rfl⟩
        rcases List.mem_cons.1 h with e1 | h1
        · rcases List.mem_cons.1 h' with e2 | h2
          · rw [← e1] at e2
            simpa using e2.symm
          · exact absurd (hx h2) (by rw [← e1] at hd; exact hd.1)
        · rcases List.mem_cons.1 h' with e2 | h2
          · exact absurd (hx h1) (by rw [← e2] at hd; exact hd.1)
          · exact ih hd.2 h1 h2
    have := h5 h4 k1.2 k2.2
    omega
/-- The state behind a region. -/
theorem RX.inv (X : RX P T ops tm rows sl fo io ze fs vals res) (I : Inv κ w0 β tm rows nx a w) (hi : xo tm nx = true) (hv : xo vals nx = true) {bs : Nat → Nat} {w' : World} (F : RF w w0 w.heap.size (GxR β rows sl) (res.map (toSp β)) bs w') :
    Inv κ w0 (fun i => if i < nx then β i else bs (i - nx)) (tmX ops tm res nx) (rowsX rows sl res nx) (nx + ops.size) (zbd ops (xv (res.map (toSp β)) bs) a) w' := by
  have hsz : a.tmps.size = tm.length := by rw [I.fr]; simp
  have hβ : ∀ i, i < nx → (fun i => if i < nx then β i else bs (i - nx)) i = β i := fun i h => if_pos h
  have hβn : ∀ k, (fun i => if i < nx then β i else bs (i - nx)) (nx + k) = bs k := by
    intro k
    show (if nx + k < nx then _ else _) = _
    rw [if_neg (by omega)]
    congr 1
    omega
  generalize hb : (fun i => if i < nx then β i else bs (i - nx)) = β' at hβ hβn ⊢
  have hold : ∀ p ∈ rows, (oldX sl res p).1 = p.1 ∧ zb w' (β p.1) (oldX sl res p).2 := by
    intro p hp
    unfold oldX
    cases hf : sl.find? fun q => q.2 == p.1 with
    | none =>
      obtain ⟨n, hn⟩ := GxR_mem (β := β) hp hf
      exact ⟨rfl, F.row n hn⟩
    | some q =>
      obtain ⟨m, id'⟩ := q
      obtain ⟨c, off, v, h1, h2⟩ := X.sto (find_sl hf).2
      simp only [h1]
      exact ⟨trivial, F.sk m (i := c) (by rw [List.getElem?_map, h1]; rfl)⟩
  have hnew : ∀ p ∈ (List.range res.length).filterMap (newX res nx), ∃ k, k < res.length ∧ p.1 = nx + k ∧ isAl (res.map (toSp β)) k = true ∧ w.heap.size ≤ bs k ∧ zb w' (bs k) p.2 := by
    intro p hp
    obtain ⟨k, hk, he⟩ := List.mem_filterMap.1 hp
    unfold newX at he
    split at he
    · next st i e hr =>
      simp only [Option.some.injEq] at he
      subst he
      have hL : (res.map (toSp β))[k]? = some (sA ye st i e) := by rw [List.getElem?_map, hr]; rfl
      refine ⟨k, by simpa using hk, rfl, by simp only [isAl, hL], ?_⟩
      by_cases hs : st < res.length
      · have := F.al k hL (by simpa using hs)
        rw [if_pos hs]
        exact this
      · have := F.ali k hL (by simpa using hs)
        rw [if_neg hs]
        exact this
    · cases he
  have hall : ∀ p ∈ rowsX rows sl res nx, (p.1 < nx ∧ (∃ q ∈ rows, q.1 = p.1) ∧ zb w' (β p.1) p.2) ∨ ∃ k, k < res.length ∧ p.1 = nx + k ∧ isAl (res.map (toSp β)) k = true ∧ w.heap.size ≤ bs k ∧ zb w' (bs k) p.2 := by
    intro p hp
    unfold rowsX at hp
    rcases List.mem_append.1 hp with hp | hp
    · left
      obtain ⟨q, hq, rfl⟩ := List.mem_map.1 hp
      obtain ⟨h1, h2⟩ := hold q hq
      refine ⟨by rw [h1]; exact I.lt q hq, ⟨q, hq, h1.symm⟩, by rw [h1]; exact h2⟩
    · exact .inr (hnew p hp)
  refine ⟨?_, I.df, F.bw, ?_, ?_, ?_, ?_, I.kx.1.trans F.ko, Nat.le_trans I.kx.2.1 (Nat.le_add_right _ _), fun i h => (hβ i (Nat.lt_of_lt_of_le h I.kx.2.1)).trans (I.kx.2.2 i h)⟩
  · apply Array.ext_getElem?
    intro t
    unfold zbd
    simp only [Array.getElem?_ofFn, List.getElem?_toArray, List.getElem?_map, tmX]
    by_cases ht : t < tm.length
    · have ht' : t < a.tmps.size := by rw [hsz]; exact ht
      rw [dif_pos ht', List.getElem?_range ht]
      simp only [Option.map_some, Option.some.injEq]
      cases hw : wr ops t with
      | none =>
        simp only []
        have h1 : tm[t]? = some tm[t] := List.getElem?_eq_getElem ht
        have h2 : a.tmps[t]? = some (upO β tm[t]) := by rw [I.fr]; simp [h1]
        have h3 : a.tmps[t] = upO β tm[t] := by
          have := Array.getElem?_eq_getElem ht'
          rw [this] at h2
          exact Option.some.inj h2
        rw [h3, h1]
        exact (upO_agree hi hβ h1).symm
      | some j =>
        simp only []
        unfold xv
        rw [List.getElem?_map]
        cases hr : res[j]? with
        | none => rfl
        | some r =>
          rcases r with s | ⟨m, i, e⟩ | j' | ⟨id, i, e⟩
          · exact (upO_agree hv hβ (rV_spec (X.at hr)).2).symm
          · simp only [Option.map_some, toSp, upO, up, hβn]
          · rfl
          · rfl
    · have ht' : ¬ t < a.tmps.size := by rw [hsz]; exact ht
      rw [dif_neg ht', List.getElem?_eq_none (by simpa using ht)]
      rfl
  · intro p hp
    rcases hall p hp with ⟨h1, _, h2⟩ | ⟨k, _, h1, _, _, h2⟩
    · rw [hβ _ h1]; exact h2
    · rw [h1, hβn]; exact h2
  · intro p hp
    rcases hall p hp with ⟨h1, ⟨q, hq, h2⟩, _⟩ | ⟨k, _, h1, _, h3, _⟩
    · rw [hβ _ h1, ← h2]; exact I.lo q hq
    · rw [h1, hβn]; exact Nat.le_trans I.bw.size h3
  · intro p hp
    rcases hall p hp with ⟨h1, _⟩ | ⟨k, hk, h1, _⟩
    · exact Nat.lt_of_lt_of_le h1 (Nat.le_add_right _ _)
    · rw [X.rlen] at hk; omega
  · intro p hp q hq hpq
    rcases hall p hp with ⟨h1, ⟨p', hp', h2⟩, _⟩ | ⟨k, _, h1, h5, h3, _⟩
    · rcases hall q hq with ⟨g1, ⟨q', hq', g2⟩, _⟩ | ⟨k', _, g1, g5, g3, _⟩
      · rw [hβ _ h1, hβ _ g1, ← h2, ← g2]
        exact I.inj _ hp' _ hq' (by rw [h2, g2]; exact hpq)
      · rw [hβ _ h1, g1, hβn, ← h2]
        have := (I.row _ hp').lt
        omega
    · rcases hall q hq with ⟨g1, ⟨q', hq', g2⟩, _⟩ | ⟨k', _, g1, g5, g3, _⟩
      · rw [hβ _ g1, h1, hβn, ← g2]
        have := (I.row _ hq').lt
        omega
      · rw [h1, g1, hβn, hβn]
        exact F.ne k k' (by omega) h5 g5
end
section
variable {P : Program} {T : World → Prop} {fo : Nat → Nat → Option Nat} {io : Nat → Int → Option Nat} {ze : Nat → Option (Array Value)} {ops : Array Oper} {fs : List (Fa P T)} {st st' : St} {e : Eqs} {β : Nat → Nat} {a : Act} {w w0 : World} {Q : Exit → Act → World → Prop} {id : Nat} {d : Bool} {κ : World × Nat × (Nat → Nat) × List Deferred}
/-- A region does what was reckoned. -/
theorem regX_ok (hT : ∀ w', Below w0.heap.size w0 w' → T w')
    (hfo : ∀ t f d, fo t f = some d → ∀ g off w, (Instr.fieldAt t (.pointer (some ⟨g, off, none⟩)) f).run P w = .ok (.pointer (some ⟨g, off + d, none⟩)) w)
    (hio : ∀ t i d, io t i = some d → ∀ g off w, (Instr.indexAt t (.pointer (some ⟨g, off, none⟩)) (.int .i64 i)).run P w = .ok (.pointer (some ⟨g, off + d, none⟩)) w)
    (hze : ∀ t z, ze t = some z → ∀ (ρ : Operand → Value) (o : Oper) w, o.op = .alloc t → ∃ t', (execOp ρ o).run P w = .ok (.value (ye w.heap.size)) (w.alloc (.cells z t')))
    (h : regX P T fo io ze ops fs st = some (st', e)) (he : EqOk e) (I : Inv κ w0 β st.1 st.2.1 st.2.2 a w) (hK : ∀ β' a' w', Inv κ w0 β' st'.1 st'.2.1 st'.2.2 a' w' → Q .normal a' w') : RegV P ops Q a w ∧ noDefB ops = true := by
  obtain ⟨tm, rows, nx⟩ := st
  unfold regX at h
  simp only [] at h I
  cases hg : go1 P T ops tm rows (slOf ops tm) fo io fs ops.toList 0 [] ([], []) with
  | none => rw [hg] at h; cases h
  | some p =>
    obtain ⟨vals, e1⟩ := p
    rw [hg] at h
    simp only [] at h
    cases hr : (List.range ops.size).mapM (rsOf P ops tm rows (slOf ops tm) ze vals) with
    | none => rw [hr] at h; cases h
    | some res =>
      rw [hr] at h
      simp only [] at h
      split at h
      · next hc =>
        simp only [Option.some.injEq, Prod.mk.injEq] at h
        obtain ⟨rfl, rfl⟩ := h
        simp only [Bool.and_eq_true] at hc
        obtain ⟨⟨⟨⟨⟨⟨⟨c1, c2⟩, c3⟩, c4⟩, c5⟩, c6⟩, c7⟩, c8⟩ := hc
        obtain ⟨_, g2, _, g4⟩ := go1_spec (k := 0) rfl hg he
        obtain ⟨r1, r2⟩ := mapM_get hr
        have X : RX P T ops tm rows (slOf ops tm) fo io ze fs vals res := by
          refine ⟨fun k o ho => ?_, fun k hk => r2 k k (List.getElem?_range hk), by simpa using r1, by simpa using g2, c3, c6⟩
          have := g4 k o (by simpa using ho)
          simpa using this
        refine ⟨regV_told c1 c2 (GxR β rows (slOf ops tm)) (res.map (toSp β)) (by rw [stB_any β _root_.id]; exact c7) I.bw I.rws (X.stOk I) (Obs_mk fun n s hs => ?_) ?_, c8⟩
        · rw [List.getElem?_map] at hs
          cases hq : res[n]? with
          | none => rw [hq] at hs; cases hs
          | some r =>
            rw [hq] at hs
            simp only [Option.map_some, Option.some.injEq] at hs
            subst hs
            rw [Nat.zero_add]
            exact X.ob I.fr hT hfo hio hze hq
        · intro bs w' a' ha F
          subst ha
          exact hK _ _ _ (X.inv I c4 c5 F)
      · cases h
end
/-- A truth value in a slot. -/
def condV (tm : Vs) : Operand → Option Bool
  | .tmp t => match plain ((tm[t]?).join) with
    | some (.bool b) => some b
    | _ => none
  | .const (.bool b) => some b
  | _ => none
def addE (e e' : Eqs) : Eqs := (e.1 ++ e'.1, e.2 ++ e'.2)
theorem EqOk.left {e e' : Eqs} (h : EqOk (addE e e')) : EqOk e := ⟨fun p hp => h.1 p (List.mem_append_left _ hp), fun p hp => h.2 p (List.mem_append_left _ hp)⟩
theorem EqOk.right {e e' : Eqs} (h : EqOk (addE e e')) : EqOk e' := ⟨fun p hp => h.1 p (List.mem_append_right _ hp), fun p hp => h.2 p (List.mem_append_right _ hp)⟩
/-- Facts for regions, in the order in which they are run. -/
abbrev Fq (P : Program) (T : World → Prop) : Type := List (Nat × List (Fa P T))
def takeQ {P : Program} {T : World → Prop} (id : Nat) : Fq P T → List (Fa P T) × Fq P T
  | (i, f) :: q => if i = id then (f, q) else ([], (i, f) :: q)
  | [] => ([], [])
abbrev Rn (P : Program) (T : World → Prop) : Type := Option (Exit × St × Fq P T × Eqs)
section
variable {P : Program} {T : World → Prop}
def seqX (r : Rn P T) (f : Fq P T → St → Rn P T) : Rn P T := match r with
  | some (.normal, st, q, e) => (f q st).map fun x => (x.1, x.2.1, x.2.2.1, addE e x.2.2.2)
  | r => r
def blkX (id : Nat) : Rn P T → Rn P T
  | some (.exit id', st, q, e) => if id' = id then some (.normal, st, q, e) else some (.exit id', st, q, e)
  | r => r
/-- Rounds of a loop. -/
def itX (f : Fq P T → St → Rn P T) : Nat → Fq P T → St → Rn P T
  | 0, _, _ => none
  | n + 1, q, st => seqX (f q st) (itX f n)
end
section
variable (P : Program) (T : World → Prop) (fo : Nat → Nat → Option Nat) (io : Nat → Int → Option Nat) (ze : Nat → Option (Array Value))
/-- A code, reckoned. -/
def ki : Code → Fq P T → St → Rn P T
  | .skip, q, st => some (.normal, st, q, [], [])
  | .ret, q, st => some (.ret, st, q, [], [])
  | .exit id, q, st => some (.exit id, st, q, [], [])
  | .region id ops _, q, st => (regX P T fo io ze ops (takeQ id q).1 st).map fun x => (.normal, x.1, (takeQ id q).2, x.2)
  | .seq x y, q, st => seqX (ki x q st) (ki y)
  | .cond c x y, q, st => match condV st.1 c with
    | some true => ki x q st
    | some false => ki y q st
    | none => none
  | .block id c, q, st => blkX id (ki c q st)
  | .loop c, q, st => itX (ki c) 100 q st
  | _, _, _ => none
/-- A result. -/
def resV (st : St) : ResultVar → Option Value
  | .tmp t => plain ((st.1[t]?).join)
  | .cell p ty => match (st.1[p]?).join with
    | some (Sum.inr (id, off)) => match y9 st.2.1 id with
      | some c => loadV P ty c off
      | none => none
    | _ => none
def resX (fn : Func) (st : St) : Option Value := match fn.results.toList with
  | [r] => resV P st r
  | [r, r'] => match resV P st r, resV P st r' with
    | some v, some v' => some (.tuple #[v, v'])
    | _, _ => none
  | _ => none
def begX (fn : Func) (args : Array Value) : St := (args.toList.map (fun v => some (Sum.inl v)) ++ List.replicate (fn.ntmps - args.size) none, [], 0)
def endX (fn : Func) : Rn P T → Option (Value × Eqs)
  | some (.ret, st, _, e) => (resX P fn st).map fun v => (v, e)
  | some (.normal, st, _, e) => (resX P fn st).map fun v => (v, e)
  | _ => none
/-- A function, reckoned. -/
def runF (fs : Fq P T) (fn : Func) (args : Array Value) : Option (Value × Eqs) := match fn.body with
  | some c => endX P T fn (ki P T fo io ze c fs (begX fn args))
  | none => none
end
theorem run_lv {P : Program} {w : World} {g off : Nat} {c : Array Value} {t : TypeId} {v : Value} (hr : zb w g c) (h : loadV P t c off = some v) : (loadVar t ⟨g, off, none⟩).run P w = .ok v w := by
  unfold loadV at h
  cases hu : P.underlying t with
  | none => rw [hu] at h; cases h
  | some d =>
    rw [hu] at h
    simp only [] at h
    by_cases hd : aggB d = true
    · rw [if_pos hd] at h
      cases hi : P.info? t with
      | none => rw [hi] at h; cases h
      | some i =>
        rw [hi] at h
        simp only [] at h
        by_cases hs : off + i.size ≤ c.size
        · rw [if_pos hs] at h
          cases h
          generalize hcs : c.extract off (off + i.size) = cs
          have hz : cs.size = i.size := by rw [← hcs, Array.size_extract]; omega
          have hl : (loadCells ⟨g, off, none⟩ cs.toList.length).run P w = .ok cs.toList.toArray w :=
            run_loadCells_list (P := P) w ⟨g, off, none⟩ cs.toList (fun j v hv => by
              have hadd : (⟨g, off, none⟩ : Addr).add j = ⟨g, off + j, none⟩ := by unfold Addr.add; split <;> simp_all
              rw [hadd, hr.cell]
              have hj : j < cs.size := by simpa using (List.getElem?_eq_some_iff.1 hv).1
              have h2 : cs[j]? = some v := by simpa using hv
              rw [← h2, ← hcs, Array.getElem?_extract, if_pos (by omega)])
          have hA : (isAgg t).run P w = .ok true w := by
            unfold isAgg
            simp only [Sem.run_bind, run_underlying hu, Result.andThen_ok]
            cases d <;> first | rfl | simp [aggB] at hd
          have hS : (sizeOf t).run P w = .ok cs.toList.length w := by
            simp [sizeOf, typeInfo, hi, hz]
          unfold loadVar
          simp only [Sem.run_bind, hA, Result.andThen_ok, if_true, hS, hl, Sem.run_pure, Array.toArray_toList]
        · rw [if_neg hs] at h; cases h
    · rw [if_neg hd] at h
      have hA : (isAgg t).run P w = .ok false w := by
        unfold isAgg
        simp only [Sem.run_bind, run_underlying hu, Result.andThen_ok]
        cases d <;> first | rfl | simp [aggB] at hd
      have hcell : w.cell? ⟨g, off, none⟩ = some v := by rw [hr.cell]; exact h
      unfold loadVar
      simp only [Sem.run_bind, hA, Result.andThen_ok, Bool.false_eq_true, if_false]
      rw [run_load, hcell]
section
variable {P : Program} {T : World → Prop} {fo : Nat → Nat → Option Nat} {io : Nat → Int → Option Nat} {ze : Nat → Option (Array Value)} {fs : Fq P T} {w0 : World} {κ : World × Nat × (Nat → Nat) × List Deferred}
/-- What is known of types: places of fields and members, what is laid first. -/
structure Ty (P : Program) (fo : Nat → Nat → Option Nat) (io : Nat → Int → Option Nat) (ze : Nat → Option (Array Value)) : Prop where
  hm : P.follows .mixedOrders = true
  hfo : ∀ t f d, fo t f = some d → ∀ g off w, (Instr.fieldAt t (.pointer (some ⟨g, off, none⟩)) f).run P w = .ok (.pointer (some ⟨g, off + d, none⟩)) w
  hio : ∀ t i d, io t i = some d → ∀ g off w, (Instr.indexAt t (.pointer (some ⟨g, off, none⟩)) (.int .i64 i)).run P w = .ok (.pointer (some ⟨g, off + d, none⟩)) w
  hze : ∀ t z, ze t = some z → ∀ (ρ : Operand → Value) (o : Oper) w, o.op = .alloc t → ∃ t', (execOp ρ o).run P w = .ok (.value (ye w.heap.size)) (w.alloc (.cells z t'))
theorem cond_ok {β : Nat → Nat} {st : St} {a : Act} {w : World} (I : Inv κ w0 β st.1 st.2.1 st.2.2 a w) {c : Operand} {b : Bool} (h : condV st.1 c = some b) : a.eval c = .bool b := by
  cases c with
  | tmp t =>
    simp only [condV] at h
    split at h
    · next b' hb =>
      cases h
      exact zbg I.fr (zp hb)
    · cases h
  | const v => cases v <;> simp [condV] at h; subst h; rfl
  | global g => simp [condV] at h
  | func f => simp [condV] at h
/-- Rounds by a logic of codes. -/
def rndW (wp : Code → (Exit → Act → World → Prop) → Act → World → Prop) (c : Code) (Q : Exit → Act → World → Prop) : Nat → Act → World → Prop
  | 0, _, _ => False
  | n + 1, a, w => wp c (Exit.then (rndW wp c Q n) Q) a w
/-- A logic of codes: plain, or in a round of a loop. -/
structure Lg (P : Program) where
  wp : Code → (Exit → Act → World → Prop) → Act → World → Prop
  skip : ∀ {Q : Exit → Act → World → Prop} {a : Act} {w : World}, Q .normal a w → wp .skip Q a w
  ret : ∀ {Q : Exit → Act → World → Prop} {a : Act} {w : World}, Q .ret a w → wp .ret Q a w
  exit : ∀ {id : Nat} {Q : Exit → Act → World → Prop} {a : Act} {w : World}, Q (.exit id) a w → wp (.exit id) Q a w
  region : ∀ {id : Nat} {ops : Array Oper} {d : Bool} {Q : Exit → Act → World → Prop} {a : Act} {w : World}, RegV P ops Q a w ∧ noDefB ops = true → wp (.region id ops d) Q a w
  seq : ∀ {x y : Code} {Q : Exit → Act → World → Prop} {a : Act} {w : World}, wp x (Exit.then (wp y Q) Q) a w → wp (.seq x y) Q a w
  condT : ∀ {c : Operand} {x y : Code} {Q : Exit → Act → World → Prop} {a : Act} {w : World}, a.eval c = .bool true → wp x Q a w → wp (.cond c x y) Q a w
  condF : ∀ {c : Operand} {x y : Code} {Q : Exit → Act → World → Prop} {a : Act} {w : World}, a.eval c = .bool false → wp y Q a w → wp (.cond c x y) Q a w
  block : ∀ {id : Nat} {c : Code} {Q : Exit → Act → World → Prop} {a : Act} {w : World}, wp c (Exit.inBlock id Q) a w → wp (.block id c) Q a w
  loop : ∀ {c : Code} {Q : Exit → Act → World → Prop} {a : Act} {w : World} (n : Nat), rndW wp c Q n a w → wp (.loop c) Q a w
theorem rnd_plain {P : Program} {c : Code} {Q : Exit → Act → World → Prop} : ∀ n, rndW (fun c Q a w => c.wp P Q a w) c Q n = Code.rounds P c Q n
  | 0 => rfl
  | n + 1 => by
    funext a w
    show c.wp P (Exit.then (rndW (fun c Q a w => c.wp P Q a w) c Q n) Q) a w = c.wp P (Exit.then (Code.rounds P c Q n) Q) a w
    rw [rnd_plain n]
def Lg.plain {P : Program} (hm : P.follows .mixedOrders = true) : Lg P where
  wp c Q a w := c.wp P Q a w
  skip := wp_skip
  ret := wp_ret
  exit := wp_exit
  region h := h.1.wp hm
  seq := wp_seq
  condT := wp_cond_true
  condF := wp_cond_false
  block := wp_block
  loop n h := wp_loop_rounds n (by rw [← rnd_plain n]; exact h)
/-- Rounds do what was reckoned. -/
theorem it_ok (L : Lg P) {c : Code} (hc : ∀ {q q' : Fq P T} {st st' : St} {ex : Exit} {e : Eqs} {Q : Exit → Act → World → Prop} {β : Nat → Nat} {a : Act} {w : World},
    ki P T fo io ze c q st = some (ex, st', q', e) → EqOk e → Inv κ w0 β st.1 st.2.1 st.2.2 a w → (∀ β' a' w', Inv κ w0 β' st'.1 st'.2.1 st'.2.2 a' w' → Q ex a' w') → L.wp c Q a w) :
    ∀ (n : Nat) {q q' : Fq P T} {st st' : St} {ex : Exit} {e : Eqs} {Q : Exit → Act → World → Prop} {β : Nat → Nat} {a : Act} {w : World},
    itX (ki P T fo io ze c) n q st = some (ex, st', q', e) → EqOk e → Inv κ w0 β st.1 st.2.1 st.2.2 a w → (∀ β' a' w', Inv κ w0 β' st'.1 st'.2.1 st'.2.2 a' w' → Q ex a' w') → rndW L.wp c Q n a w
  | 0, q, q', st, st', ex, e, Q, β, a, w, h, he, I, hK => by simp [itX] at h
  | n + 1, q, q', st, st', ex, e, Q, β, a, w, h, he, I, hK => by
    simp only [itX] at h
    show L.wp c _ a w
    cases hx : ki P T fo io ze c q st with
    | none => rw [hx] at h; cases h
    | some r =>
      obtain ⟨ex1, st1, q1, e1⟩ := r
      rw [hx] at h
      by_cases hn : ex1 = .normal
      · subst hn
        simp only [seqX] at h
        cases hy : itX (ki P T fo io ze c) n q1 st1 with
        | none => rw [hy] at h; cases h
        | some r =>
          obtain ⟨ex2, st2, q2, e2⟩ := r
          rw [hy] at h
          simp only [Option.map_some, Option.some.injEq, Prod.mk.injEq] at h
          obtain ⟨rfl, rfl, rfl, rfl⟩ := h
          exact hc hx he.left I fun β' a' w' I' => it_ok L hc n hy he.right I' hK
      · have h2 : some (ex1, st1, q1, e1) = some (ex, st', q', e) := by
          cases ex1 <;> first | exact absurd rfl hn | exact h
        simp only [Option.some.injEq, Prod.mk.injEq] at h2
        obtain ⟨rfl, rfl, rfl, rfl⟩ := h2
        refine hc hx he I fun β' a' w' I' => ?_
        have := hK β' a' w' I'
        cases ex1 <;> first | exact absurd rfl hn | exact this
theorem k6 (L : Lg P) (Y : Ty P fo io ze) (hT : ∀ w', Below w0.heap.size w0 w' → T w') : ∀ {c : Code} {q q' : Fq P T} {st st' : St} {ex : Exit} {e : Eqs} {Q : Exit → Act → World → Prop} {β : Nat → Nat} {a : Act} {w : World},
    ki P T fo io ze c q st = some (ex, st', q', e) → EqOk e → Inv κ w0 β st.1 st.2.1 st.2.2 a w → (∀ β' a' w', Inv κ w0 β' st'.1 st'.2.1 st'.2.2 a' w' → Q ex a' w') → L.wp c Q a w
  | .skip, q, q', st, st', ex, e, Q, β, a, w, h, he, I, hK => by
    simp only [ki, Option.some.injEq, Prod.mk.injEq] at h
    obtain ⟨rfl, rfl, _, _⟩ := h
    exact L.skip (hK _ _ _ I)
  | .ret, q, q', st, st', ex, e, Q, β, a, w, h, he, I, hK => by
    simp only [ki, Option.some.injEq, Prod.mk.injEq] at h
    obtain ⟨rfl, rfl, _, _⟩ := h
    exact L.ret (hK _ _ _ I)
  | .exit id, q, q', st, st', ex, e, Q, β, a, w, h, he, I, hK => by
    simp only [ki, Option.some.injEq, Prod.mk.injEq] at h
    obtain ⟨rfl, rfl, _, _⟩ := h
    exact L.exit (hK _ _ _ I)
  | .region id ops d, q, q', st, st', ex, e, Q, β, a, w, h, he, I, hK => by
    simp only [ki] at h
    cases hx : regX P T fo io ze ops (takeQ id q).1 st with
    | none => rw [hx] at h; cases h
    | some x =>
      rw [hx] at h
      simp only [Option.map_some, Option.some.injEq, Prod.mk.injEq] at h
      obtain ⟨rfl, rfl, rfl, rfl⟩ := h
      exact L.region (regX_ok hT Y.hfo Y.hio Y.hze hx he I hK)
  | .seq x y, q, q', st, st', ex, e, Q, β, a, w, h, he, I, hK => by
    simp only [ki] at h
    cases hx : ki P T fo io ze x q st with
    | none => rw [hx] at h; cases h
    | some r =>
      obtain ⟨ex1, st1, q1, e1⟩ := r
      rw [hx] at h
      by_cases hn : ex1 = .normal
      · subst hn
        simp only [seqX] at h
        cases hy : ki P T fo io ze y q1 st1 with
        | none => rw [hy] at h; cases h
        | some r =>
          obtain ⟨ex2, st2, q2, e2⟩ := r
          rw [hy] at h
          simp only [Option.map_some, Option.some.injEq, Prod.mk.injEq] at h
          obtain ⟨rfl, rfl, rfl, rfl⟩ := h
          exact L.seq (k6 L Y hT hx he.left I fun β' a' w' I' => k6 L Y hT hy he.right I' hK)
      · have h2 : some (ex1, st1, q1, e1) = some (ex, st', q', e) := by
          cases ex1 <;> first | exact absurd rfl hn | exact h
        simp only [Option.some.injEq, Prod.mk.injEq] at h2
        obtain ⟨rfl, rfl, rfl, rfl⟩ := h2
        refine L.seq (k6 L Y hT hx he I fun β' a' w' I' => ?_)
        have := hK β' a' w' I'
        cases ex1 <;> first | exact absurd rfl hn | exact this
  | .cond c x y, q, q', st, st', ex, e, Q, β, a, w, h, he, I, hK => by
    simp only [ki] at h
    split at h
    · next hc => exact L.condT (cond_ok I hc) (k6 L Y hT h he I hK)
    · next hc => exact L.condF (cond_ok I hc) (k6 L Y hT h he I hK)
    · cases h
  | .block id c, q, q', st, st', ex, e, Q, β, a, w, h, he, I, hK => by
    simp only [ki] at h
    cases hx : ki P T fo io ze c q st with
    | none => rw [hx] at h; cases h
    | some r =>
      obtain ⟨ex1, st1, q1, e1⟩ := r
      rw [hx] at h
      refine L.block ?_
      by_cases hn : ∃ id', ex1 = .exit id'
      · obtain ⟨id', rfl⟩ := hn
        simp only [blkX] at h
        split at h
        · next hi =>
          simp only [Option.some.injEq, Prod.mk.injEq] at h
          obtain ⟨rfl, rfl, rfl, rfl⟩ := h
          refine k6 L Y hT hx he I fun β' a' w' I' => ?_
          simp only [Exit.inBlock, hi, if_true]
          exact hK β' a' w' I'
        · next hi =>
          simp only [Option.some.injEq, Prod.mk.injEq] at h
          obtain ⟨rfl, rfl, rfl, rfl⟩ := h
          refine k6 L Y hT hx he I fun β' a' w' I' => ?_
          simp only [Exit.inBlock, hi, if_false]
          exact hK β' a' w' I'
      · have h2 : some (ex1, st1, q1, e1) = some (ex, st', q', e) := by
          cases ex1 <;> first | exact absurd ⟨_, rfl⟩ hn | exact h
        simp only [Option.some.injEq, Prod.mk.injEq] at h2
        obtain ⟨rfl, rfl, rfl, rfl⟩ := h2
        refine k6 L Y hT hx he I fun β' a' w' I' => ?_
        have := hK β' a' w' I'
        cases ex1 <;> first | exact absurd ⟨_, rfl⟩ hn | exact this
  | .loop c, q, q', st, st', ex, e, Q, β, a, w, h, he, I, hK => by
    simp only [ki] at h
    exact L.loop 100 (it_ok L (fun h he I hK => k6 L Y hT h he I hK) 100 h he I hK)
  | .rangeFunc f ps x y, q, q', st, st', ex, e, Q, β, a, w, h, he, I, hK => by simp [ki] at h
  | .scope c, q, q', st, st', ex, e, Q, β, a, w, h, he, I, hK => by simp [ki] at h
  | .label l, q, q', st, st', ex, e, Q, β, a, w, h, he, I, hK => by simp [ki] at h
  | .goto l, q, q', st, st', ex, e, Q, β, a, w, h, he, I, hK => by simp [ki] at h
  | .refuse s, q, q', st, st', ex, e, Q, β, a, w, h, he, I, hK => by simp [ki] at h
theorem resT_ok {β : Nat → Nat} {st : St} {a : Act} {w : World} (I : Inv κ w0 β st.1 st.2.1 st.2.2 a w) {t : Nat} {v : Value} (h : resV P st (.tmp t) = some v) : a.tmps[t]?.getD undef = v := by
  have h2 : a.tmps.getD t undef = v := zbg I.fr (zp h)
  rw [← h2]
  simp
theorem resC_ok {β : Nat → Nat} {st : St} {a : Act} {w : World} (I : Inv κ w0 β st.1 st.2.1 st.2.2 a w) {p ty : Nat} {v : Value} (h : resV P st (.cell p ty) = some v) : ∃ ad, a.tmps[p]?.getD undef = .pointer (some ad) ∧ (loadVar ty ad).run P w = .ok v w := by
  simp only [resV] at h
  split at h
  · next id off hx =>
    split at h
    · next c hc =>
      have h2 : a.tmps.getD p undef = .pointer (some ⟨β id, off, none⟩) := zbg I.fr hx
      exact ⟨⟨β id, off, none⟩, by rw [← h2]; simp, run_lv (I.row _ (zy hc)) h⟩
    · cases h
  · cases h
theorem resX_ok {β : Nat → Nat} {st : St} {a : Act} {w : World} (I : Inv κ w0 β st.1 st.2.1 st.2.2 a w) {fn : Func} {v : Value} (h : resX P fn st = some v) : (results fn a.tmps).run P w = .ok v w := by
  unfold resX at h
  split at h
  · next r hr =>
    have h0 : fn.results = #[r] := by rw [← hr]
    cases r with
    | tmp t => simp only [results, h0]; simp [resT_ok I h]
    | cell p ty =>
      obtain ⟨ad, h1, h2⟩ := resC_ok I h
      simp only [results, h0]; simp [h1, asAddr, h2]
  · next r r' hr =>
    have h0 : fn.results = #[r, r'] := by rw [← hr]
    split at h
    · next v1 v2 g1 g2 =>
      cases h
      cases r <;> cases r' <;> simp only [results, h0]
      · simp [resT_ok I g1, resT_ok I g2]
      · obtain ⟨ad, h1, h2⟩ := resC_ok I g2
        simp [resT_ok I g1, h1, asAddr, h2]
      · obtain ⟨ad, h1, h2⟩ := resC_ok I g1
        simp [resT_ok I g2, h1, asAddr, h2]
      · obtain ⟨ad, h1, h2⟩ := resC_ok I g1
        obtain ⟨ad', h1', h2'⟩ := resC_ok I g2
        simp [h1, asAddr, h2, h1', h2']
    · cases h
  · cases h
/-- A call does what was reckoned. -/
theorem runF_ok (Y : Ty P fo io ze) {f : Nat} {fn : Func} (hf : P.funcs[f]? = some fn) {args : Array Value} {v : Value} {w : World} (hT : ∀ w', Below w.heap.size w w' → T w')
    (h : (runF P T fo io ze fs fn args).map (·.1) = some v) (he : EqOk (((runF P T fo io ze fs fn args).map (·.2)).getD ([], []))) : Calls P f args w fun e w' => e = .returned v ∧ Below w.heap.size w w' := by
  cases hr : runF P T fo io ze fs fn args with
  | none => rw [hr] at h; cases h
  | some r =>
    obtain ⟨v', e⟩ := r
    rw [hr] at h he
    simp only [Option.map_some, Option.some.injEq, Option.getD_some] at h he
    subst h
    unfold runF at hr
    cases hb : fn.body with
    | none => rw [hb] at hr; cases hr
    | some c =>
      rw [hb] at hr
      simp only [] at hr
      have I : Inv (w, 0, (fun _ => 0), []) w (fun _ => 0) (begX fn args).1 (begX fn args).2.1 (begX fn args).2.2 { tmps := args ++ Array.replicate (fn.ntmps - args.size) undef, defers := [] } w := by
        refine ⟨?_, rfl, Below.refl _ _, ?_, ?_, ?_, ?_, ⟨Nat.le_refl _, fun k o h _ => h⟩, Nat.zero_le _, fun i h => absurd h (Nat.not_lt_zero i)⟩
        · apply Array.ext'
          simp [begX, upO]
          exact (List.map_id _).symm
        · intro p hp; simp [begX] at hp
        · intro p hp; simp [begX] at hp
        · intro p hp; simp [begX] at hp
        · intro p hp; simp [begX] at hp
      refine calls_of_wp hf hb ?_
      cases hc : ki P T fo io ze c fs (begX fn args) with
      | none => rw [hc] at hr; cases hr
      | some r =>
        obtain ⟨ex, st', q', e'⟩ := r
        rw [hc] at hr
        have fin : (ex = .ret ∨ ex = .normal) ∧ resX P fn st' = some v' ∧ e' = e := by
          cases ex <;> simp only [endX] at hr <;> first | (cases hr; done) | (
            cases hq : resX P fn st' with
            | none => rw [hq] at hr; cases hr
            | some u =>
              rw [hq] at hr
              simp only [Option.map_some, Option.some.injEq, Prod.mk.injEq] at hr
              obtain ⟨rfl, rfl⟩ := hr
              exact ⟨by simp, rfl, rfl⟩)
        obtain ⟨hex, hres, rfl⟩ := fin
        refine k6 (Lg.plain Y.hm) Y hT hc he I fun β' a' w' I' => ?_
        have hR := resX_ok I' hres
        rcases hex with rfl | rfl
        · exact bodyPost_ret hR I'.df ⟨rfl, I'.bw⟩
        · exact bodyPost_end hR I'.df ⟨rfl, I'.bw⟩
end
theorem fc_any {P : Program} {f : Nat} {fn : Func} (hf : P.funcs[f]? = some fn) (hb : fn.body.isNone = false) (hn : (fn.name == "runtime.NumGoroutine") = false) (xs : Array Operand) (ts : Array TypeId) (a : Act) (ty : TypeId) (w : World) : (do let d ← resolve a.eval { callee := .value (.func f), args := xs, argTypes := ts } ty; invoke d.target d.args : Sem Next).run P w = .ok (.enter f (xs.map a.eval)) w := by
  have h : (callFunc f (xs.map a.eval)).run P w = .ok (.enter f (xs.map a.eval)) w := by
    have h1 : ¬ fn.name = "runtime.NumGoroutine" := by simpa using hn
    have h2 : ¬ fn.body = none := by intro h; rw [h] at hb; cases hb
    unfold callFunc
    simp [go_sem, hf, h1, h2]
  simp [go_sem, h]
/-- How far a field lies; a member; what is laid first. -/
def foV (P : Program) (t f : Nat) : Option Nat := match P.underlying t with
  | some (.struct fields) => match fields[f]? with
    | some d => match P.info? d.type with
      | some i => if i.size = 0 then none else some d.offset
      | none => none
    | none => none
  | _ => none
def ioV (P : Program) (t : Nat) (i : Int) : Option Nat := match P.underlying t with
  | some (.array len elem) => match P.info? elem with
    | some s => if 0 ≤ i ∧ i < len then some (i.toNat * s.size) else none
    | none => none
  | _ => none
def zeV (P : Program) (t : Nat) : Option (Array Value) := match P.info? t with
  | some i => i.zero.map (·.cells)
  | none => none
theorem xz (g off d : Nat) : (⟨g, off, none⟩ : Addr).add d = ⟨g, off + d, none⟩ := by
  unfold Addr.add
  split
  · next h => subst h; rfl
  · rfl
theorem run_info {P : Program} {t : Nat} {i : TypeInfo} (h : P.info? t = some i) (w : World) : (typeInfo t).run P w = .ok i w := by
  simp [typeInfo, go_sem, h]
theorem ty_ok {P : Program} (hm : P.follows .mixedOrders = true) : Ty P (foV P) (ioV P) (zeV P) := by
  refine ⟨hm, ?_, ?_, ?_⟩
  · intro t f d h g off w
    unfold foV at h
    split at h
    · next fields hu =>
      split at h
      · next fd hf =>
        split at h
        · next i hi =>
          split at h
          · cases h
          · next hz =>
            cases h
            simp [Instr.fieldAt, Sem.run_bind, run_underlying hu, hf, Instr.sureAddr, fieldPlace, sizeOf, run_info hi, hz, xz]
        · cases h
      · cases h
    · cases h
  · intro t i d h g off w
    unfold ioV at h
    split at h
    · next len elem hu =>
      split at h
      · next s hs =>
        split at h
        · next hb =>
          cases h
          simp [Instr.indexAt, Sem.run_bind, run_underlying hu, asIntOf, Instr.sureAddr, hb, sizeOf, run_info hs, xz]
        · cases h
      · cases h
    · cases h
  · intro t z h ρ o w ho
    unfold zeV at h
    split at h
    · next i hi =>
      cases hz : i.zero with
      | none => rw [hz] at h; cases h
      | some v =>
        rw [hz] at h
        cases h
        refine ⟨t, ?_⟩
        unfold execOp
        simp [ho, Instr.alloc, zeroValue, run_info hi, hz, newVar, newRow]
    · cases h
section
variable {P : Program} {T : World → Prop}
/-- A call. -/
def cA {f : Nat} {fn : Func} {args : Array Value} {v : Value} (hf : P.funcs[f]? = some fn) (c : ∀ w, T w → Calls P f args w fun e w' => e = .returned v ∧ Below w.heap.size w w') (hb : fn.body.isNone = false := by kernel_rfl) (hn : (fn.name == "runtime.NumGoroutine") = false := by kernel_rfl) : Fa P T :=
  Sum.inr (Sum.inl ⟨f, args, v, fc_any hf hb hn, c⟩)
def bO (b : BinOp) (t : Nat) {p q v : Value} (h : ∀ x y w, (do eqGuard b t x y p q; binOp b t p q : Sem Value).run P w = .ok v w) : Fa P T :=
  Sum.inr (Sum.inr ⟨fun o => match o with | .binOp b' t' _ _ _ => decide (b' = b) && t' == t | _ => false, #[p, q], v, true, by
    intro a w oo _ hok hx
    cases hop : oo.op <;> rw [hop] at hok hx <;> simp at hok
    next b' t' x y t2 =>
    obtain ⟨rfl, rfl⟩ := hok
    simp [vm] at hx
    unfold execOp
    simp only [hop, hx.1, hx.2]
    rw [Sem.run_bind, h, Result.andThen_ok, Sem.run_pure]⟩)
def uO (u : UnOp) {p v : Value} (h : ∀ w, (Op.unary u p).run P w = .ok v w) : Fa P T :=
  Sum.inr (Sum.inr ⟨fun o => match o with | .unOp u' _ _ => decide (u' = u) | _ => false, #[p], v, true, by
    intro a w oo _ hok hx
    cases hop : oo.op <;> rw [hop] at hok hx <;> simp at hok
    next u' t x =>
    subst hok
    simp [vm] at hx
    unfold execOp
    simp only [hop, hx]
    rw [Sem.run_bind, h, Result.andThen_ok, Sem.run_pure]⟩)
def iO (t : Nat) {p i v : Value} (h : ∀ w, (Instr.index t p i).run P w = .ok v w) : Fa P T :=
  Sum.inr (Sum.inr ⟨fun o => match o with | .index t' _ _ => t' == t | _ => false, #[p, i], v, true, by
    intro a w oo _ hok hx
    cases hop : oo.op <;> rw [hop] at hok hx <;> simp at hok
    next t' x y =>
    subst hok
    simp [vm] at hx
    unfold execOp
    simp only [hop, hx]
    rw [Sem.run_bind, h, Result.andThen_ok, Sem.run_pure]⟩)
def vO (s t : Nat) {p v : Value} (h : ∀ w, (convert s t p).run P w = .ok v w) : Fa P T :=
  Sum.inr (Sum.inr ⟨fun o => match o with | .convert s' t' _ => s' == s && t' == t | _ => false, #[p], v, true, by
    intro a w oo _ hok hx
    cases hop : oo.op <;> rw [hop] at hok hx <;> simp at hok
    next s' t' x =>
    obtain ⟨rfl, rfl⟩ := hok
    simp [vm] at hx
    unfold execOp
    simp only [hop, hx]
    rw [Sem.run_bind, h, Result.andThen_ok, Sem.run_pure]⟩)
/-- The length of a text. -/
def lO {t : Nat} (hu : P.underlying t = some .string) {b : ByteArray} {n : Int} (h : (b.size : Int) = n) : Fa P T :=
  Sum.inr (Sum.inr ⟨fun o => match o with | .call { callee := .builtin .len, argTypes := ts, .. } => ts[0]? == some t | _ => false, #[.string b], .int .i64 n, true, by
    intro a w oo _ hok hx
    cases hop : oo.op with
    | call cc =>
      rw [hop] at hok hx
      obtain ⟨callee, xs, ts⟩ := cc
      cases callee with
      | builtin bb =>
        cases bb with
        | len =>
          have hx' : xs.map a.eval = #[.string b] := by
            rw [← hx]
            apply Array.ext'
            simp [vm]
          simp at hok
          unfold execOp
          simp [hop, go_sem, hx', Builtin.len_, hok, run_underlying hu, goInt, h]
        | _ => simp at hok
      | _ => simp at hok
    | _ => rw [hop] at hok; simp at hok⟩)
/-- A part of a text from a place on. -/
def sO (t : Nat) {p l v : Value} (h : ∀ w, (Instr.sliceAt t p (some l) none none).run P w = .ok v w) : Fa P T :=
  Sum.inr (Sum.inr ⟨fun o => match o with | .slice t' _ (some _) none none => t' == t | _ => false, #[p, l], v, true, by
    intro a w oo _ hok hx
    cases hop : oo.op with
    | slice t' x lo hi mx =>
      rw [hop] at hok hx
      cases lo with
      | none => simp at hok
      | some y =>
        cases hi with
        | some z => simp at hok
        | none =>
          cases mx with
          | some z => simp at hok
          | none =>
            simp at hok
            subst hok
            simp [vm] at hx
            unfold execOp
            simp only [hop, Option.map_some, Option.map_none, hx]
            rw [Sem.run_bind, h, Result.andThen_ok, Sem.run_pure]
    | _ => rw [hop] at hok; simp at hok⟩)
theorem zip_map {a : Act} : ∀ {ps : List (Nat × Operand)}, ps.map (fun x => (x.1, a.eval x.2)) = (ps.map (·.1)).zip ((ps.map (·.2)).map a.eval)
  | [] => rfl
  | p :: ps => by simp only [List.map_cons, List.zip_cons_cons, zip_map (ps := ps)]
def dO (t : Nat) (idx : List Nat) {xs : List Value} {v : Value} (h : ∀ w, (Instr.build t (idx.zip xs).toArray).run P w = .ok v w) : Fa P T :=
  Sum.inr (Sum.inr ⟨fun o => match o with | .build t' ps => t' == t && ps.toList.map (·.1) == idx | _ => false, xs.toArray, v, true, by
    intro a w oo _ hok hx
    cases hop : oo.op <;> rw [hop] at hok hx <;> simp at hok
    next t' ps =>
    obtain ⟨rfl, hi⟩ := hok
    have hx' : (ps.toList.map (·.2)).map a.eval = xs := by
      have := congrArg Array.toList hx
      simpa [vm] using this
    have hp : (ps.map fun x => (x.1, a.eval x.2)) = (idx.zip xs).toArray := by
      apply Array.ext'
      rw [Array.toList_map, zip_map, hx', ← hi]
    unfold execOp
    simp only [hop]
    rw [Sem.run_bind, show (ps.map fun (i, x) => (i, a.eval x)) = (idx.zip xs).toArray from hp, h, Result.andThen_ok, Sem.run_pure]⟩)
end
theorem zb2 {l : List (Value × Value)} (h : l.map (·.1) = l.map (·.2)) : ∀ p ∈ l, p.1 = p.2 := by
  induction l with
  | nil => intro p hp; cases hp
  | cons q l ih =>
    simp only [List.map_cons, List.cons.injEq] at h
    intro p hp
    rcases List.mem_cons.1 hp with rfl | hp
    · exact h.1
    · exact ih h.2 p hp
/-- A call, by reckoning. -/
theorem run_ok {P : Program} {T : World → Prop} (fs : Fq P T) {f : Nat} {fn : Func} (hf : P.funcs[f]? = some fn) {args : Array Value} {v : Value} {w : World} (hT : ∀ w', Below w.heap.size w w' → T w') (hm : P.follows .mixedOrders = true)
    (hs : (runF P T (foV P) (ioV P) (zeV P) fs fn args).isSome = true)
    (h : (runF P T (foV P) (ioV P) (zeV P) fs fn args).map (fun r => (r.1, r.2.1.map (·.1), r.2.2.isEmpty)) = (runF P T (foV P) (ioV P) (zeV P) fs fn args).map fun r => (v, r.2.1.map (·.2), true)) :
    Calls P f args w fun e w' => e = .returned v ∧ Below w.heap.size w w' := by
  cases hr : runF P T (foV P) (ioV P) (zeV P) fs fn args with
  | none => rw [hr] at hs; cases hs
  | some r =>
    rw [hr] at h
    simp only [Option.map_some, Option.some.injEq, Prod.mk.injEq, List.isEmpty_iff] at h
    refine runF_ok (ty_ok hm) hf hT (by rw [hr]; simp [h.1]) ?_
    rw [hr]
    simp only [Option.map_some, Option.getD_some]
    exact ⟨zb2 h.2.1, fun p hp => by rw [h.2.2] at hp; cases hp⟩
section
variable {P : Program}
/-- The same where the world need hold nothing. -/
def kC {T : World → Prop} {f : Nat} {fn : Func} {args : Array Value} {v : Value} (hf : P.funcs[f]? = some fn) (c : ∀ w, Calls P f args w fun e w' => e = .returned v ∧ Below w.heap.size w w') (hb : fn.body.isNone = false := by kernel_rfl) (hn : (fn.name == "runtime.NumGoroutine") = false := by kernel_rfl) : Fa P T := cA hf (fun w _ => c w) hb hn
theorem ro (fs : Fq P (fun _ => True)) {f : Nat} {fn : Func} (hf : P.funcs[f]? = some fn) {args : Array Value} {v : Value} {w : World} (hm : P.follows .mixedOrders = true := by kernel_rfl)
    (hs : (runF P (fun _ => True) (foV P) (ioV P) (zeV P) fs fn args).isSome = true := by kernel_rfl)
    (h : (runF P (fun _ => True) (foV P) (ioV P) (zeV P) fs fn args).map (fun r => (r.1, r.2.1.map (·.1), r.2.2.isEmpty)) = (runF P (fun _ => True) (foV P) (ioV P) (zeV P) fs fn args).map (fun r => (v, r.2.1.map (·.2), true)) := by kernel_rfl) :
    Calls P f args w fun e w' => e = .returned v ∧ Below w.heap.size w w' := run_ok fs hf (fun _ _ => trivial) hm hs h
end
end Go.Proofs.YtdeompgdhaomgaaGreatDoor
