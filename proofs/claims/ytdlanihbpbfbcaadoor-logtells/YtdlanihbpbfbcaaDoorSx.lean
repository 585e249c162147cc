/- A walk by reckoning, first part: what single operations come to, told by a function that the kernel reckons; blocks are numbers of their own, given their places later. No function of the program is named here. -/
import Derived.Test.YtdlanihbpbfbcaaDoorAv
namespace Go.Proofs.YtdlanihbpbfbcaaDoor
open Go.RowKit Go.Sort
set_option linter.unusedVariables false
/-- A value, or a pointer into a block that is known by its number. -/
abbrev SV : Type := Value ⊕ (Nat × Nat)
def up (β : Nat → Nat) : SV → Value
  | Sum.inl v => v
  | Sum.inr (i, o) => .pointer (some ⟨β i, o, none⟩)
/-- What is laid into a slot; none: nothing. -/
def upO (β : Nat → Nat) : Option SV → Value
  | none => undef
  | some s => up β s
abbrev Vs : Type := List (Option SV)
/-- What an operation comes to: a value; a new block (its store's place, what it holds first and last); a store into a new block; a store into an old one. -/
abbrev Rs : Type := Option SV ⊕ (Nat × Array Value × Array Value) ⊕ Nat ⊕ (Nat × Array Value × Array Value)
abbrev rV (s : Option SV) : Rs := Sum.inl s
abbrev rA (st : Nat) (i e : Array Value) : Rs := Sum.inr (Sum.inl (st, i, e))
abbrev rS (al : Nat) : Rs := Sum.inr (Sum.inr (Sum.inl al))
abbrev rK (id : Nat) (i e : Array Value) : Rs := Sum.inr (Sum.inr (Sum.inr (id, i, e)))
abbrev ptr0 (g : Nat) : Value := .pointer (some ⟨g, 0, none⟩)
def toSp (β : Nat → Nat) : Rs → Sp
  | Sum.inl s => sV (upO β s)
  | Sum.inr (Sum.inl (st, i, e)) => sA ptr0 st i e
  | Sum.inr (Sum.inr (Sum.inl al)) => sS al
  | Sum.inr (Sum.inr (Sum.inr (id, i, e))) => sK (β id) i e
/-- An operand's value where operation k is run. -/
def evS (ops : Array Oper) (tm vals : Vs) (k : Nat) : Operand → Option SV
  | .const v => some (Sum.inl v)
  | .tmp t => match wr ops t with
    | none => (tm[t]?).join
    | some j => if newB ops tm.length k t j = true then (vals[j]?).join else if waitsB ops j k = true then (tm[t]?).join else none
  | _ => none
section
variable {ops : Array Oper} {a : Act} {w : World} {N0 : Nat} {G : List (Nat × Array Value)} {k : Nat} {a' : Act} {w' : World} {β : Nat → Nat} {tm vals : Vs} {L : List Sp}
theorem tm_get (ha : a.tmps = (tm.map (upO β)).toArray) {t : Nat} {s : SV} (h : (tm[t]?).join = some s) : a.eval (.tmp t) = up β s := by
  have h1 : tm[t]? = some (some s) := by
    cases h2 : tm[t]? with
    | none => rw [h2] at h; cases h
    | some x => rw [h2] at h; simpa using h
  show a.tmps.getD t undef = up β s
  rw [ha, Array.getD_eq_getD_getElem?]
  simp [h1, upO]
theorem join_some {α : Type} {x : Option (Option α)} {s : α} (h : x.join = some s) : x = some (some s) := by
  cases x with
  | none => cases h
  | some y => simpa using h
theorem evS_ok (ha : a.tmps = (tm.map (upO β)).toArray) (E : RE ops a w N0 G L k a' w') (hL : ∀ (j : Nat) (s : SV), vals[j]? = some (some s) → L[j]? = some (sV (up β s))) {x : Operand} {s : SV} (h : evS ops tm vals k x = some s) : a'.eval x = up β s := by
  cases x with
  | const v => simp only [evS, Option.some.injEq] at h; subst h; rfl
  | tmp t =>
    simp only [evS] at h
    cases hw : wr ops t with
    | none =>
      rw [hw] at h
      rw [E.old t hw]
      exact tm_get ha h
    | some j =>
      rw [hw] at h
      simp only [] at h
      by_cases hn : newB ops tm.length k t j = true
      · rw [if_pos hn] at h
        have hs : a.tmps.size = tm.length := by rw [ha]; simp
        exact E.new t j (by rw [hs]; exact hn) (hL j s (join_some h))
      · rw [if_neg hn] at h
        by_cases hq : waitsB ops j k = true
        · rw [if_pos hq] at h
          rw [E.olds t j hw hq]
          exact tm_get ha h
        · rw [if_neg hq] at h; cases h
  | global g => simp [evS] at h
  | func f => simp [evS] at h
end
/-- A plain value's own. -/
def plain : Option SV → Option Value
  | some (Sum.inl v) => some v
  | _ => none
theorem plain_some {s : Option SV} {v : Value} (h : plain s = some v) : s = some (Sum.inl v) := by
  cases s with
  | none => cases h
  | some x =>
    cases x with
    | inl v' => simp only [plain, Option.some.injEq] at h; rw [h]
    | inr p => cases h
/-- What a call does, as a fact with its own words; T: what the world must hold. -/
structure CFa (P : Program) (T : World → Prop) where
  f : Nat
  args : Array Value
  v : Value
  hr : ∀ (xs : Array Operand) (ts : Array TypeId) (a : Act) (ty : TypeId) (w : World), (do let d ← resolve a.eval { callee := .value (.func f), args := xs, argTypes := ts } ty; invoke d.target d.args : Sem Next).run P w = .ok (.enter f (xs.map a.eval)) w
  hc : ∀ w, T w → Calls P f args w fun e w' => e = .returned v ∧ Below w.heap.size w w'
def opnds : Op → List Operand
  | .binOp _ _ x y _ => [x, y]
  | .unOp _ _ x => [x]
  | .build _ ps => ps.toList.map (·.2)
  | .field _ x _ => [x]
  | .index _ x y => [x, y]
  | .convert _ _ x => [x]
  | .call c => c.args.toList
  | .slice _ x lo hi mx => x :: (lo.toList ++ (hi.toList ++ mx.toList))
  | .load _ x => [x]
  | .fieldAddr _ x _ => [x]
  | .indexAddr _ x y => [x, y]
  | .nilCheck x => [x]
  | .makeFunc _ x y => x.toList ++ y.toList
  | .makeInterface _ x => [x]
  | .typeAssert x _ _ _ => [x]
  | .panic x => [x]
  | _ => []
/-- What an operation on values comes to; ok: for which operations. -/
structure VFa (P : Program) (T : World → Prop) where
  ok : Op → Bool
  xs : Array Value
  v : Value
  fr : Bool
  h : ∀ (a : Act) (w : World) (oo : Oper), (fr = true ∨ T w) → ok oo.op = true → ((opnds oo.op).map a.eval).toArray = xs → (execOp a.eval oo).run P w = .ok (.value v) w
abbrev Fa (P : Program) (T : World → Prop) : Type := Unit ⊕ CFa P T ⊕ VFa P T
abbrev Eqs : Type := List (Value × Value) × List (Op × Op)
/-- The pairs are alike. -/
def EqOk (e : Eqs) : Prop := (∀ p ∈ e.1, p.1 = p.2) ∧ (∀ p ∈ e.2, p.1 = p.2)
/-- A part of a row that is loaded. -/
def loadV (P : Program) (t : TypeId) (c : Array Value) (off : Nat) : Option Value :=
  match P.underlying t with
  | some d => if aggB d = true then (match P.info? t with | some i => if off + i.size ≤ c.size then some (.agg (c.extract off (off + i.size))) else none | none => none) else c[off]?
  | none => none
/-- What a plain operation comes to, by its own; look: the rows that can be read; fo, io: how far fields and members lie. -/
def natV (P : Program) (ops : Array Oper) (tm vals : Vs) (look : Nat → Option (Array Value)) (fo : Nat → Nat → Option Nat) (io : Nat → Int → Option Nat) (k : Nat) : Op → Option SV
  | .move x => evS ops tm vals k x
  | .assign x => evS ops tm vals k x
  | .pick c x y => match plain (evS ops tm vals k c) with
    | some (.bool true) => evS ops tm vals k x
    | some (.bool false) => evS ops tm vals k y
    | _ => none
  | .extract x i => match plain (evS ops tm vals k x) with
    | some (.tuple vs) => (vs[i]?).map Sum.inl
    | _ => none
  | .load t x => match evS ops tm vals k x with
    | some (Sum.inr (id, off)) => match look id with
      | some c => (loadV P t c off).map Sum.inl
      | none => none
    | _ => none
  | .fieldAddr t x f => match evS ops tm vals k x with
    | some (Sum.inr (id, off)) => (fo t f).map fun d => Sum.inr (id, off + d)
    | _ => none
  | .indexAddr t x y => match evS ops tm vals k x, plain (evS ops tm vals k y) with
    | some (Sum.inr (id, off)), some (.int .i64 i) => (io t i).map fun d => Sum.inr (id, off + d)
    | _, _ => none
  | _ => none
section
variable {P : Program} {T : World → Prop} {Q : Exit → Act → World → Prop} {ops : Array Oper} {a : Act} {w : World} {N0 : Nat} {G : List (Nat × Array Value)} {k : Nat} {a' : Act} {w' : World} {β : Nat → Nat} {tm vals : Vs} {L : List Sp} {o : Oper}
theorem run_loadV {t : TypeId} {x : Operand} (ho : o.op = .load t x) {g off : Nat} (hx : a'.eval x = .pointer (some ⟨g, off, none⟩)) {c : Array Value} {v : Value} (hr : HasRow w' g c) (h : loadV P t c off = some v) :
    o.wp P a' w' (fun a'' w'' => a'' = a'.put o.dst v ∧ Below w'.heap.size w' w'') Q := by
  unfold loadV at h
  cases hu : P.underlying t with
  | none => rw [hu] at h; cases h
  | some d =>
    rw [hu] at h
    simp only [] at h
    by_cases hd : aggB d = true
    · rw [if_pos hd] at h
      cases hi : P.info? t with
      | none => rw [hi] at h; cases h
      | some i =>
        rw [hi] at h
        simp only [] at h
        by_cases hs : off + i.size ≤ c.size
        · rw [if_pos hs] at h
          cases h
          have hz : (c.extract off (off + i.size)).size = i.size := by rw [Array.size_extract]; omega
          exact ob_loada t x ho hx hr hu hd (by rw [hi, hz]; rfl) (by rw [hz])
        · rw [if_neg hs] at h; cases h
    · rw [if_neg hd] at h
      exact ob_load1 t x ho hx hr hu (by simpa using hd) h
theorem natV_ok {look : Nat → Option (Array Value)} {fo : Nat → Nat → Option Nat} {io : Nat → Int → Option Nat}
    (hfo : ∀ t f d, fo t f = some d → ∀ g off w, (Instr.fieldAt t (.pointer (some ⟨g, off, none⟩)) f).run P w = .ok (.pointer (some ⟨g, off + d, none⟩)) w)
    (hio : ∀ t i d, io t i = some d → ∀ g off w, (Instr.indexAt t (.pointer (some ⟨g, off, none⟩)) (.int .i64 i)).run P w = .ok (.pointer (some ⟨g, off + d, none⟩)) w)
    (ha : a.tmps = (tm.map (upO β)).toArray) (E : RE ops a w N0 G L k a' w') (hL : ∀ (j : Nat) (s : SV), vals[j]? = some (some s) → L[j]? = some (sV (up β s))) (hl : ∀ id c, look id = some c → HasRow w' (β id) c) {s : SV}
    (h : natV P ops tm vals look fo io k o.op = some s) : o.wp P a' w' (fun a'' w'' => a'' = a'.put o.dst (up β s) ∧ Below w'.heap.size w' w'') Q := by
  cases hop : o.op with
  | move x => rw [hop] at h; exact ob_move x hop (evS_ok ha E hL h)
  | assign x => rw [hop] at h; exact ob_assign x hop (evS_ok ha E hL h)
  | pick c x y =>
    rw [hop] at h
    simp only [natV] at h
    split at h
    · next hc => exact ob_pick c x y hop (evS_ok ha E hL (plain_some hc)) (by simp only [if_true]; exact evS_ok ha E hL h)
    · next hc => exact ob_pick c x y hop (evS_ok ha E hL (plain_some hc)) (by simp only [Bool.false_eq_true, if_false]; exact evS_ok ha E hL h)
    · cases h
  | extract x i =>
    rw [hop] at h
    simp only [natV] at h
    split at h
    · next vs hx =>
      cases hv : vs[i]? with
      | none => rw [hv] at h; cases h
      | some v =>
        rw [hv] at h
        simp only [Option.map_some, Option.some.injEq] at h
        subst h
        exact ob_extract x i hop (evS_ok ha E hL (plain_some hx)) hv
    · cases h
  | load t x =>
    rw [hop] at h
    simp only [natV] at h
    split at h
    · next id off hx =>
      split at h
      · next c hc =>
        cases hv : loadV P t c off with
        | none => rw [hv] at h; cases h
        | some v =>
          rw [hv] at h
          simp only [Option.map_some, Option.some.injEq] at h
          subst h
          exact run_loadV hop (evS_ok ha E hL hx) (hl id c hc) hv
      · cases h
    · cases h
  | fieldAddr t x f =>
    rw [hop] at h
    simp only [natV] at h
    split at h
    · next id off hx =>
      cases hv : fo t f with
      | none => rw [hv] at h; cases h
      | some d =>
        rw [hv] at h
        simp only [Option.map_some, Option.some.injEq] at h
        subst h
        exact ob_fieldAddr t x f hop (evS_ok ha E hL hx) (hfo t f d hv _ _ _)
    · cases h
  | indexAddr t x y =>
    rw [hop] at h
    simp only [natV] at h
    split at h
    · next id off i hx hy =>
      cases hv : io t i with
      | none => rw [hv] at h; cases h
      | some d =>
        rw [hv] at h
        simp only [Option.map_some, Option.some.injEq] at h
        subst h
        exact ob_indexAddr t x y hop (evS_ok ha E hL hx) (evS_ok ha E hL (plain_some hy)) (hio t i d hv _ _ _)
    · cases h
  | _ => rw [hop] at h; simp [natV] at h
end
/-- What the facts at hand make of an operation. -/
def calV (P : Program) (T : World → Prop) (ops : Array Oper) (tm vals : Vs) (look : Nat → Option (Array Value)) (fo : Nat → Nat → Option Nat) (io : Nat → Int → Option Nat) (k : Nat) (o : Op) : Fa P T → Option (SV × Eqs)
  | Sum.inl _ => (natV P ops tm vals look fo io k o).map fun s => (s, [], [])
  | Sum.inr (Sum.inl c) => match o with
    | .call { callee := .value (.func f), args := xs, argTypes := ts } => if f = c.f then (xs.toList.mapM fun x => plain (evS ops tm vals k x)).map fun vs => (Sum.inl c.v, [(.tuple vs.toArray, .tuple c.args)], []) else none
    | _ => none
  | Sum.inr (Sum.inr c) => if c.ok o = true then ((opnds o).mapM fun x => plain (evS ops tm vals k x)).map fun vs => (Sum.inl c.v, [(.tuple vs.toArray, .tuple c.xs)], []) else none
section
variable {P : Program} {T : World → Prop} {Q : Exit → Act → World → Prop} {ops : Array Oper} {a : Act} {w : World} {N0 : Nat} {G : List (Nat × Array Value)} {k : Nat} {a' : Act} {w' : World} {β : Nat → Nat} {tm vals : Vs} {L : List Sp} {o : Oper}
theorem mapM_ok (ha : a.tmps = (tm.map (upO β)).toArray) (E : RE ops a w N0 G L k a' w') (hL : ∀ (j : Nat) (s : SV), vals[j]? = some (some s) → L[j]? = some (sV (up β s))) :
    ∀ {xs : List Operand} {vs : List Value}, (xs.mapM fun x => plain (evS ops tm vals k x)) = some vs → xs.map a'.eval = vs
  | [], vs, h => by simp at h; subst h; rfl
  | x :: xs, vs, h => by
    rw [List.mapM_cons] at h
    cases h1 : plain (evS ops tm vals k x) with
    | none => rw [h1] at h; simp at h
    | some v =>
      cases h2 : (xs.mapM fun x => plain (evS ops tm vals k x)) with
      | none => rw [h1, h2] at h; simp at h
      | some us =>
        rw [h1, h2] at h
        simp at h
        subst h
        rw [List.map_cons, mapM_ok ha E hL h2, evS_ok ha E hL (plain_some h1)]
        rfl
theorem calV_ok {look : Nat → Option (Array Value)} {fo : Nat → Nat → Option Nat} {io : Nat → Int → Option Nat}
    (hfo : ∀ t f d, fo t f = some d → ∀ g off w, (Instr.fieldAt t (.pointer (some ⟨g, off, none⟩)) f).run P w = .ok (.pointer (some ⟨g, off + d, none⟩)) w)
    (hio : ∀ t i d, io t i = some d → ∀ g off w, (Instr.indexAt t (.pointer (some ⟨g, off, none⟩)) (.int .i64 i)).run P w = .ok (.pointer (some ⟨g, off + d, none⟩)) w)
    (ha : a.tmps = (tm.map (upO β)).toArray) (E : RE ops a w N0 G L k a' w') (hL : ∀ (j : Nat) (s : SV), vals[j]? = some (some s) → L[j]? = some (sV (up β s))) (hl : ∀ id c, look id = some c → HasRow w' (β id) c) (hT : T w')
    {fa : Fa P T} {s : SV} {e : Eqs} (h : calV P T ops tm vals look fo io k o.op fa = some (s, e)) (he : EqOk e) : o.wp P a' w' (fun a'' w'' => a'' = a'.put o.dst (up β s) ∧ Below w'.heap.size w' w'') Q := by
  rcases fa with _ | c | c
  · simp only [calV] at h
    cases hn : natV P ops tm vals look fo io k o.op with
    | none => rw [hn] at h; cases h
    | some s' =>
      rw [hn] at h
      simp only [Option.map_some, Option.some.injEq, Prod.mk.injEq] at h
      obtain ⟨rfl, _⟩ := h
      exact natV_ok hfo hio ha E hL hl hn
  · cases hop : o.op with
    | call cc =>
      rw [hop] at h
      obtain ⟨callee, xs, ts⟩ := cc
      cases callee with
      | value x =>
        cases x with
        | func f =>
          simp only [calV] at h
          by_cases hf : f = c.f
          · rw [if_pos hf] at h
            subst hf
            cases hm : (xs.toList.mapM fun x => plain (evS ops tm vals k x)) with
            | none => rw [hm] at h; cases h
            | some vs =>
              rw [hm] at h
              simp only [Option.map_some, Option.some.injEq, Prod.mk.injEq] at h
              obtain ⟨rfl, rfl⟩ := h
              have h1 := mapM_ok ha E hL hm
              have h2 := he.1 _ (List.mem_singleton.2 rfl)
              simp only [Value.tuple.injEq] at h2
              refine ob_fcall c.f xs ts hop (vs := c.args) ?_ (c.hr xs ts) (c.hc w' hT)
              rw [← h2, ← h1]
              apply Array.ext'
              simp
          · rw [if_neg hf] at h; cases h
        | _ => simp [calV] at h
      | _ => simp [calV] at h
    | _ => rw [hop] at h; simp [calV] at h
  · simp only [calV] at h
    by_cases hok : c.ok o.op = true
    · rw [if_pos hok] at h
      cases hm : ((opnds o.op).mapM fun x => plain (evS ops tm vals k x)) with
      | none => rw [hm] at h; cases h
      | some vs =>
        rw [hm] at h
        simp only [Option.map_some, Option.some.injEq, Prod.mk.injEq] at h
        obtain ⟨rfl, rfl⟩ := h
        have h1 := mapM_ok ha E hL hm
        have h2 := he.1 _ (List.mem_singleton.2 rfl)
        simp only [Value.tuple.injEq] at h2
        refine ob_val (c.h a' w' o (.inr hT) hok ?_)
        rw [← h2, ← h1]
    · rw [if_neg hok] at h; cases h
end
end Go.Proofs.YtdlanihbpbfbcaaDoor
