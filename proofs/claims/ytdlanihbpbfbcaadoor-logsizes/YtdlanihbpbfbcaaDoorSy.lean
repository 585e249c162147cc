/- A walk by reckoning, second part: a region. -/
import Derived.Test.YtdlanihbpbfbcaaDoorSx
namespace Go.Proofs.YtdlanihbpbfbcaaDoor
open Go.RowKit Go.Sort
set_option linter.unusedVariables false
def isAlc : Op → Bool
  | .alloc _ => true
  | .box _ _ => true
  | _ => false
def isSto : Op → Bool
  | .store _ _ _ => true
  | _ => false
def isVal (o : Op) : Bool := !isAlc o && !isSto o
/-- The operation that makes the block that an operand points to, if it is made in this region. -/
def alOf (ops : Array Oper) (n k : Nat) : Operand → Option Nat
  | .tmp t => match wr ops t with
    | some j => if (isAlc (opAt ops j).op && newB ops n k t j) = true then some j else none
    | none => none
  | _ => none
/-- The block that an operand points into. -/
def baseI (ops : Array Oper) (tm : Vs) : Nat → Operand → Option Nat
  | 0, _ => none
  | f + 1, .tmp t => match wr ops t with
    | none => match (tm[t]?).join with
      | some (Sum.inr (i, _)) => some i
      | _ => none
    | some j => match (opAt ops j).op with
      | .fieldAddr _ x _ => baseI ops tm f x
      | .indexAddr _ x _ => baseI ops tm f x
      | _ => none
  | _, _ => none
/-- Which operation stores into which old block. -/
def slOf (ops : Array Oper) (tm : Vs) : List (Nat × Nat) :=
  (List.range ops.size).filterMap fun k => match (opAt ops k).op with
    | .store _ x _ => match alOf ops tm.length k x with
      | some _ => none
      | none => (baseI ops tm 4 x).map fun i => (k, i)
    | _ => none
abbrev Rows : Type := List (Nat × Array Value)
def rowOf (rows : Rows) (id : Nat) : Option (Array Value) := (rows.find? fun p => p.1 == id).map (·.2)
def lookK (ops : Array Oper) (rows : Rows) (sl : List (Nat × Nat)) (k id : Nat) : Option (Array Value) :=
  match sl.find? fun p => p.2 == id with
  | none => rowOf rows id
  | some (m, _) => if waitsB ops m k = true then rowOf rows id else none
section
variable (P : Program) (T : World → Prop) (ops : Array Oper) (tm : Vs) (rows : Rows) (sl : List (Nat × Nat)) (fo : Nat → Nat → Option Nat) (io : Nat → Int → Option Nat) (ze : Nat → Option (Array Value)) (fs : List (Fa P T))
def step1 (vals : Vs) (k : Nat) (o : Oper) : Option (Option SV × Eqs) :=
  if isVal o.op = true then
    match o.guard with
    | none => (calV P T ops tm vals (lookK ops rows sl k) fo io k o.op (fs[k]?.getD (Sum.inl ()))).map fun x => (some x.1, x.2)
    | some (j, b) => match vals[j]? with
      | some (some (Sum.inl (.bool b'))) => if b' = b then (calV P T ops tm vals (lookK ops rows sl k) fo io k o.op (fs[k]?.getD (Sum.inl ()))).map fun x => (some x.1, x.2) else some (none, [], [])
      | some none => if isVal (opAt ops j).op = true then some (none, [], []) else none
      | _ => none
  else if o.guard.isNone = true then some (none, [], []) else none
def go1 : List Oper → Nat → Vs → Eqs → Option (Vs × Eqs)
  | [], _, vals, e => some (vals, e)
  | o :: os, k, vals, e => match step1 P T ops tm rows sl fo io fs vals k o with
    | some (s, e') => go1 os (k + 1) (vals ++ [s]) (e.1 ++ e'.1, e.2 ++ e'.2)
    | none => none
/-- The store into the block that operation k makes. -/
def stInto (k : Nat) : Option Nat := (List.range ops.size).find? fun m => match (opAt ops m).op with
  | .store _ x _ => alOf ops tm.length m x == some k
  | _ => false
def fits (ty : Nat) (c : Array Value) (off : Nat) (v : Value) : Bool := (P.info? ty).map (·.size) == some v.cells.size && decide (off + v.cells.size ≤ c.size) && v.cells.all (·.oneCell')
def rsOf (vals : Vs) (k : Nat) : Option Rs :=
  match (opAt ops k).op with
  | .alloc t => match ze t with
    | some z => match stInto ops tm k with
      | some m => match (opAt ops m).op with
        | .store ty _ y => match plain (evS ops tm vals m y) with
          | some v => if fits P ty z 0 v = true then some (rA m z (over z 0 v.cells)) else none
          | none => none
        | _ => none
      | none => some (rA ops.size z z)
    | none => none
  | .box _ x => match plain (evS ops tm vals k x), stInto ops tm k with
    | some v, none => some (rA ops.size v.cells v.cells)
    | _, _ => none
  | .store ty x y => match alOf ops tm.length k x with
    | some j => if stInto ops tm j = some k then some (rS j) else none
    | none => match evS ops tm vals k x, plain (evS ops tm vals k y) with
      | some (Sum.inr (id, off)), some v => match rowOf rows id with
        | some c => if (fits P ty c off v && sl.contains (k, id)) = true then some (rK id c (over c off v.cells)) else none
        | none => none
      | _, _ => none
  | _ => (vals[k]?).map rV
end
section
variable {P : Program} {T : World → Prop} {ops : Array Oper} {tm : Vs} {rows : Rows} {sl : List (Nat × Nat)} {fo : Nat → Nat → Option Nat} {io : Nat → Int → Option Nat} {ze : Nat → Option (Array Value)} {fs : List (Fa P T)}
/-- What the first pass tells of each operation. -/
theorem go1_spec : ∀ {os : List Oper} {k : Nat} {v0 vals : Vs} {e0 e : Eqs}, v0.length = k → go1 P T ops tm rows sl fo io fs os k v0 e0 = some (vals, e) → EqOk e →
    EqOk e0 ∧ vals.length = k + os.length ∧ vals.take k = v0 ∧ ∀ n o, os[n]? = some o → ∃ s e', step1 P T ops tm rows sl fo io fs (vals.take (k + n)) (k + n) o = some (s, e') ∧ EqOk e' ∧ vals[k + n]? = some s
  | [], k, v0, vals, e0, e, hk, h, he => by
    simp only [go1, Option.some.injEq, Prod.mk.injEq] at h
    obtain ⟨rfl, rfl⟩ := h
    exact ⟨he, by simpa using hk, by rw [← hk]; simp, fun n o ho => by simp at ho⟩
  | o :: os, k, v0, vals, e0, e, hk, h, he => by
    simp only [go1] at h
    cases hs : step1 P T ops tm rows sl fo io fs v0 k o with
    | none => rw [hs] at h; cases h
    | some p =>
      obtain ⟨s, e'⟩ := p
      rw [hs] at h
      simp only [] at h
      obtain ⟨h1, h2, h3, h4⟩ := go1_spec (by simp [hk]) h he
      have h5 : vals.take k = v0 := by
        have := congrArg (List.take k) h3
        rw [List.take_take, Nat.min_eq_left (Nat.le_succ k)] at this
        rw [this, ← hk]; simp
      have h6 : vals[k]? = some s := by
        have q : (vals.take (k + 1))[k]? = (v0 ++ [s])[k]? := by rw [h3]
        rw [List.getElem?_take_of_lt (Nat.lt_succ_self k)] at q
        rw [q, ← hk]; simp
      refine ⟨⟨fun p hp => h1.1 p (List.mem_append_left _ hp), fun p hp => h1.2 p (List.mem_append_left _ hp)⟩, by rw [h2]; simp; omega, h5, fun n o' ho => ?_⟩
      cases n with
      | zero =>
        simp only [List.getElem?_cons_zero, Option.some.injEq] at ho
        subst ho
        exact ⟨s, e', by rw [Nat.add_zero, h5]; exact hs, ⟨fun p hp => h1.1 p (List.mem_append_right _ hp), fun p hp => h1.2 p (List.mem_append_right _ hp)⟩, h6⟩
      | succ n =>
        have := h4 n o' (by simpa using ho)
        rw [show k + 1 + n = k + (n + 1) by omega] at this
        exact this
theorem Obs_mk {Q : Exit → Act → World → Prop} {a : Act} {w : World} {N0 : Nat} {G : List (Nat × Array Value)} {L : List Sp} : ∀ {l : List Sp} {k : Nat}, (∀ n s, l[n]? = some s → Ob P ops Q a w N0 G L (k + n) s) → Obs P ops Q a w N0 G L k l
  | [], _, _ => trivial
  | s :: l, k, h => ⟨by have := h 0 s rfl; rwa [Nat.add_zero] at this, Obs_mk fun n s' hs => by
      have := h (n + 1) s' (by simpa using hs)
      rwa [show k + (n + 1) = k + 1 + n by omega] at this⟩
theorem StOk_mk {B : Nat} {w : World} {G : List (Nat × Array Value)} {β : Nat → Nat} : ∀ {l : List Rs}, (∀ id i e, rK id i e ∈ l → HasRow w (β id) i ∧ B ≤ β id ∧ Apart (β id) G) →
    (l.Pairwise fun r r' => ∀ id i e id' i' e', r = rK id i e → r' = rK id' i' e' → β id' ≠ β id) → StOk B w G (l.map (toSp β))
  | [], _, _ => trivial
  | r :: l, h, hp => by
    have ih : StOk B w G (l.map (toSp β)) := StOk_mk (fun id i e hm => h id i e (List.mem_cons_of_mem _ hm)) (List.pairwise_cons.1 hp).2
    rcases r with s | x | x | ⟨id, i, e⟩
    · exact ih
    · exact ih
    · exact ih
    · refine ⟨⟨(h id i e List.mem_cons_self).1, (h id i e List.mem_cons_self).2.1, (h id i e List.mem_cons_self).2.2, ?_⟩, ih⟩
      have h1 := (List.pairwise_cons.1 hp).1
      have : ∀ {m : List Rs}, (∀ r' ∈ m, ∀ id' i' e', r' = rK id' i' e' → β id' ≠ β id) → ApartS (β id) (m.map (toSp β)) := by
        intro m
        induction m with
        | nil => intro _; trivial
        | cons r' m ihm =>
          intro hm
          have t := ihm fun r'' hr'' => hm r'' (List.mem_cons_of_mem _ hr'')
          rcases r' with s | x | x | ⟨id', i', e'⟩
          · exact t
          · exact t
          · exact t
          · exact ⟨hm _ List.mem_cons_self id' i' e' rfl, t⟩
      exact this fun r' hr' id' i' e' er => h1 r' hr' id i e id' i' e' rfl er
end
end Go.Proofs.YtdlanihbpbfbcaaDoor
