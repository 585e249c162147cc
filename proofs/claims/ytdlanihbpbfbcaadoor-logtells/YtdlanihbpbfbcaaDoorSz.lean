/- A walk by reckoning, third part: a region as a whole. -/
import Derived.Test.YtdlanihbpbfbcaaDoorSy
namespace Go.Proofs.YtdlanihbpbfbcaaDoor
open Go.RowKit Go.Sort
set_option linter.unusedVariables false
theorem mapM_get {α β : Type} {f : α → Option β} : ∀ {xs : List α} {ys : List β}, xs.mapM f = some ys → ys.length = xs.length ∧ ∀ (n : Nat) (x : α), xs[n]? = some x → ∃ y, f x = some y ∧ ys[n]? = some y
  | [], ys, h => by simp at h; subst h; simp
  | x :: xs, ys, h => by
    rw [List.mapM_cons] at h
    cases h1 : f x with
    | none => rw [h1] at h; simp at h
    | some y =>
      cases h2 : xs.mapM f with
      | none => rw [h1, h2] at h; simp at h
      | some zs =>
        rw [h1, h2] at h
        simp at h
        subst h
        obtain ⟨a, b⟩ := mapM_get h2
        refine ⟨by simp [a], fun n x' hx => ?_⟩
        cases n with
        | zero => simp at hx; subst hx; exact ⟨y, h1, by simp⟩
        | succ n => simpa using b n x' (by simpa using hx)
theorem wr_dst {ops : Array Oper} {t j : Nat} (h : wr ops t = some j) : (ops[j]?).bind (·.dst) = some t ∧ j < ops.size := by
  have h1 := List.find?_some h
  have h2 := List.mem_of_find?_eq_some h
  refine ⟨?_, by simpa using h2⟩
  cases ho : ops[j]? with
  | none => simp [ho] at h1
  | some o => simp [ho] at h1; simpa using h1
def nodupB : List Nat → Bool
  | [] => true
  | x :: l => !l.contains x && nodupB l
theorem nodupB_ok : ∀ {l : List Nat}, nodupB l = true → l.Nodup
  | [], _ => List.nodup_nil
  | x :: l, h => by
    simp only [nodupB, Bool.and_eq_true, Bool.not_eq_true', List.contains_eq_mem, decide_eq_false_iff_not] at h
    exact List.nodup_cons.2 ⟨h.1, nodupB_ok h.2⟩
/-- All blocks named are below a number. -/
def idsB (tm : Vs) (nx : Nat) : Bool := tm.all fun s => match s with
  | some (Sum.inr (i, _)) => decide (i < nx)
  | _ => true
theorem upO_agree {tm : Vs} {nx : Nat} (h : idsB tm nx = true) {β β' : Nat → Nat} (hb : ∀ i, i < nx → β' i = β i) {t : Nat} {s : Option SV} (hs : tm[t]? = some s) : upO β' s = upO β s := by
  have h1 := List.all_eq_true.1 h s (List.mem_of_getElem? hs)
  rcases s with _ | v | ⟨i, o⟩
  · rfl
  · rfl
  · simp only [decide_eq_true_eq] at h1
    simp only [upO, up, hb i h1]
/-- Guards are waited for. -/
def grdB (ops : Array Oper) (n : Nat) : Bool := (List.range ops.size).all fun k => match (opAt ops k).guard with
  | some (j, _) => (match (opAt ops j).dst with
    | some t => newB ops n k t j
    | none => false)
  | none => true
def slB (sl : List (Nat × Nat)) (res : List Rs) : Bool := nodupB (sl.map (·.2)) && sl.all fun p => match res[p.1]? with
  | some (Sum.inr (Sum.inr (Sum.inr (id, _, _)))) => id == p.2
  | _ => false
/-- The slots behind a region. -/
def tmX (ops : Array Oper) (tm : Vs) (res : List Rs) (nx : Nat) : Vs := (List.range tm.length).map fun t => match wr ops t with
  | none => (tm[t]?).join
  | some j => match res[j]? with
    | some (Sum.inl s) => s
    | some (Sum.inr (Sum.inl _)) => some (Sum.inr (nx + j, 0))
    | _ => none
/-- An old row behind a region. -/
def oldX (sl : List (Nat × Nat)) (res : List Rs) (p : Nat × Array Value) : Nat × Array Value := match sl.find? fun q => q.2 == p.1 with
  | some (m, _) => (match res[m]? with
    | some (Sum.inr (Sum.inr (Sum.inr (_, _, e)))) => (p.1, e)
    | _ => p)
  | none => p
/-- The row that operation k makes. -/
def newX (res : List Rs) (nx k : Nat) : Option (Nat × Array Value) := match res[k]? with
  | some (Sum.inr (Sum.inl (st, i, e))) => some (nx + k, if st < res.length then e else i)
  | _ => none
def rowsX (rows : Rows) (sl : List (Nat × Nat)) (res : List Rs) (nx : Nat) : Rows := rows.map (oldX sl res) ++ (List.range res.length).filterMap (newX res nx)
abbrev St : Type := Vs × Rows × Nat
/-- No call is deferred. -/
def noDefB (ops : Array Oper) : Bool := ops.all fun o => match o.op with | .defer _ => false | _ => true
section
variable (P : Program) (T : World → Prop) (fo : Nat → Nat → Option Nat) (io : Nat → Int → Option Nat) (ze : Nat → Option (Array Value))
/-- A region, reckoned. -/
def regX (ops : Array Oper) (fs : List (Fa P T)) (st : St) : Option (St × Eqs) :=
  match go1 P T ops st.1 st.2.1 (slOf ops st.1) fo io fs ops.toList 0 [] ([], []) with
  | some (vals, e) => match (List.range ops.size).mapM (rsOf P ops st.1 st.2.1 (slOf ops st.1) ze vals) with
    | some res => if (backB2 ops && onceG ops && grdB ops st.1.length && idsB st.1 st.2.2 && idsB vals st.2.2 && slB (slOf ops st.1) res && stB ops (res.map (toSp id)) && noDefB ops) = true
      then some ((tmX ops st.1 res st.2.2, rowsX st.2.1 (slOf ops st.1) res st.2.2, st.2.2 + ops.size), e) else none
    | none => none
  | none => none
end
theorem stB_any {ops : Array Oper} {res : List Rs} (β β' : Nat → Nat) : stB ops (res.map (toSp β)) = stB ops (res.map (toSp β')) := by
  unfold stB
  simp only [List.length_map]
  congr 1
  congr 1
  funext k
  simp only [List.getElem?_map]
  cases res[k]? with
  | none => rfl
  | some r =>
    rcases r with s | ⟨st, i, e⟩ | al | ⟨id, i, e⟩
    · rfl
    · simp only [Option.map_some, toSp]
      cases res[st]? with
      | none => rfl
      | some r => rcases r with s | ⟨st, i, e⟩ | al | ⟨id, i, e⟩ <;> rfl
    · simp only [Option.map_some, toSp]
      cases res[al]? with
      | none => rfl
      | some r => rcases r with s | ⟨st, i, e⟩ | al | ⟨id, i, e⟩ <;> rfl
    · rfl
section
variable {P : Program} {T : World → Prop} {ops : Array Oper} {tm : Vs} {rows : Rows} {sl : List (Nat × Nat)} {fo : Nat → Nat → Option Nat} {io : Nat → Int → Option Nat} {ze : Nat → Option (Array Value)} {fs : List (Fa P T)} {vals : Vs} {k : Nat}
theorem rs_val (h : isVal (opAt ops k).op = true) : rsOf P ops tm rows sl ze vals k = (vals[k]?).map rV := by
  unfold rsOf
  cases hop : (opAt ops k).op <;> rw [hop] at h <;> simp_all [isVal, isAlc, isSto]
theorem rV_spec {s : Option SV} (h : rsOf P ops tm rows sl ze vals k = some (rV s)) : isVal (opAt ops k).op = true ∧ vals[k]? = some s := by
  have hv : isVal (opAt ops k).op = true := by
    cases hq : isVal (opAt ops k).op with
    | true => rfl
    | false =>
      exfalso
      unfold rsOf at h
      cases hop : (opAt ops k).op <;> rw [hop] at hq h <;> simp [isVal, isAlc, isSto] at hq
      all_goals
        simp only [] at h
        repeat' split at h
        all_goals simp at h
  refine ⟨hv, ?_⟩
  rw [rs_val hv] at h
  cases hw : vals[k]? with
  | none => rw [hw] at h; cases h
  | some x => rw [hw] at h; simpa using h
theorem rA_spec {m : Nat} {i e : Array Value} (h : rsOf P ops tm rows sl ze vals k = some (rA m i e)) :
    (∃ t, (opAt ops k).op = .alloc t ∧ ze t = some i ∧ ((m = ops.size ∧ stInto ops tm k = none ∧ e = i) ∨ ∃ ty x y v, stInto ops tm k = some m ∧ (opAt ops m).op = .store ty x y ∧ plain (evS ops tm vals m y) = some v ∧ fits P ty i 0 v = true ∧ e = over i 0 v.cells)) ∨
    ∃ t x v, (opAt ops k).op = .box t x ∧ plain (evS ops tm vals k x) = some v ∧ stInto ops tm k = none ∧ i = v.cells := by
  unfold rsOf at h
  cases hop : (opAt ops k).op with
  | alloc t =>
    rw [hop] at h
    simp only [] at h
    refine .inl ⟨t, rfl, ?_⟩
    cases hz : ze t with
    | none => rw [hz] at h; cases h
    | some z =>
      rw [hz] at h
      simp only [] at h
      cases hs : stInto ops tm k with
      | none =>
        rw [hs] at h
        simp only [Option.some.injEq, Sum.inr.injEq, Sum.inl.injEq, Prod.mk.injEq] at h
        obtain ⟨rfl, rfl, rfl⟩ := h
        exact ⟨rfl, .inl ⟨rfl, rfl, rfl⟩⟩
      | some m' =>
        rw [hs] at h
        simp only [] at h
        split at h
        · next ty x y hm =>
          split at h
          · next v hv =>
            split at h
            · next hf =>
              simp only [Option.some.injEq, Sum.inr.injEq, Sum.inl.injEq, Prod.mk.injEq] at h
              obtain ⟨rfl, rfl, rfl⟩ := h
              exact ⟨rfl, .inr ⟨ty, x, y, v, rfl, hm, hv, hf, rfl⟩⟩
            · cases h
          · cases h
        · cases h
  | box t x =>
    rw [hop] at h
    simp only [] at h
    split at h
    · next v hv hs =>
      simp only [Option.some.injEq, Sum.inr.injEq, Sum.inl.injEq, Prod.mk.injEq] at h
      obtain ⟨rfl, rfl, rfl⟩ := h
      exact .inr ⟨t, x, v, rfl, hv, hs, rfl⟩
    · cases h
  | store ty x y =>
    rw [hop] at h
    simp only [] at h
    repeat' split at h
    all_goals simp at h
  | _ =>
    rw [hop] at h
    simp only [] at h
    cases hw : vals[k]? with
    | none => rw [hw] at h; cases h
    | some x => rw [hw] at h; simp at h
theorem st_spec {r : Rs} (h : rsOf P ops tm rows sl ze vals k = some r) (hv : ∀ s, r ≠ rV s) (ha : ∀ m i e, r ≠ rA m i e) :
    ∃ ty x y, (opAt ops k).op = .store ty x y ∧ ((∃ j, alOf ops tm.length k x = some j ∧ stInto ops tm j = some k ∧ r = rS j) ∨
      ∃ id off v c, alOf ops tm.length k x = none ∧ evS ops tm vals k x = some (Sum.inr (id, off)) ∧ plain (evS ops tm vals k y) = some v ∧ rowOf rows id = some c ∧ fits P ty c off v = true ∧ (k, id) ∈ sl ∧ r = rK id c (over c off v.cells)) := by
  unfold rsOf at h
  cases hop : (opAt ops k).op with
  | alloc t =>
    rw [hop] at h
    simp only [] at h
    repeat' split at h
    all_goals first
      | (cases h; done)
      | (simp only [Option.some.injEq] at h; exact absurd h.symm (ha _ _ _))
  | box t x =>
    rw [hop] at h
    simp only [] at h
    split at h
    · simp only [Option.some.injEq] at h
      exact absurd h.symm (ha _ _ _)
    · cases h
  | store ty x y =>
    rw [hop] at h
    simp only [] at h
    refine ⟨ty, x, y, rfl, ?_⟩
    split at h
    · next j hj =>
      split at h
      · next hs => exact .inl ⟨j, hj, hs, by simpa using h.symm⟩
      · cases h
    · next hj =>
      split at h
      · next id off v hx hy =>
        split at h
        · next c hc =>
          split at h
          · next hf =>
            simp only [Bool.and_eq_true, List.contains_eq_mem, decide_eq_true_eq] at hf
            exact .inr ⟨id, off, v, c, hj, hx, hy, hc, hf.1, hf.2, by simpa using h.symm⟩
          · cases h
        · cases h
      · cases h
  | _ =>
    rw [hop] at h
    simp only [] at h
    cases hw : vals[k]? with
    | none => rw [hw] at h; cases h
    | some x => rw [hw] at h; simp only [Option.map_some, Option.some.injEq] at h; exact absurd h.symm (hv _)
theorem rowOf_mem {id : Nat} {c : Array Value} (h : rowOf rows id = some c) : (id, c) ∈ rows := by
  unfold rowOf at h
  cases hf : rows.find? fun p => p.1 == id with
  | none => rw [hf] at h; cases h
  | some p =>
    rw [hf] at h
    have h1 := List.mem_of_find?_eq_some hf
    have h2 := List.find?_some hf
    simp only [Option.map_some, Option.some.injEq] at h
    simp only [beq_iff_eq] at h2
    obtain ⟨p1, p2⟩ := p
    simp only at h h2
    subst h; subst h2
    exact h1
end
/-- What stands between what is reckoned and what is run. -/
structure Inv (κ : World × Nat × (Nat → Nat) × List Deferred) (w0 : World) (β : Nat → Nat) (tm : Vs) (rows : Rows) (nx : Nat) (a : Act) (w : World) : Prop where
  fr : a.tmps = (tm.map (upO β)).toArray
  df : a.defers = κ.2.2.2
  bw : Below w0.heap.size w0 w
  row : ∀ p ∈ rows, HasRow w (β p.1) p.2
  lo : ∀ p ∈ rows, w0.heap.size ≤ β p.1
  lt : ∀ p ∈ rows, p.1 < nx
  inj : ∀ p ∈ rows, ∀ q ∈ rows, p.1 ≠ q.1 → β p.1 ≠ β q.1
  kx : KO κ.1 w ∧ κ.2.1 ≤ nx ∧ ∀ i, i < κ.2.1 → β i = κ.2.2.1 i
/-- What the passes tell. -/
structure RX (P : Program) (T : World → Prop) (ops : Array Oper) (tm : Vs) (rows : Rows) (sl : List (Nat × Nat)) (fo : Nat → Nat → Option Nat) (io : Nat → Int → Option Nat) (ze : Nat → Option (Array Value)) (fs : List (Fa P T)) (vals : Vs) (res : List Rs) : Prop where
  s1 : ∀ k o, ops[k]? = some o → ∃ s e', step1 P T ops tm rows sl fo io fs (vals.take k) k o = some (s, e') ∧ EqOk e' ∧ vals[k]? = some s
  rs : ∀ k, k < ops.size → ∃ r, rsOf P ops tm rows sl ze vals k = some r ∧ res[k]? = some r
  rlen : res.length = ops.size
  vlen : vals.length = ops.size
  grd : grdB ops tm.length = true
  slb : slB sl res = true
def GxR (β : Nat → Nat) (rows : Rows) (sl : List (Nat × Nat)) : List (Nat × Array Value) := (rows.filter fun p => (sl.find? fun q => q.2 == p.1).isNone).map fun p => (β p.1, p.2)
section
variable {P : Program} {T : World → Prop} {ops : Array Oper} {tm : Vs} {rows : Rows} {sl : List (Nat × Nat)} {fo : Nat → Nat → Option Nat} {io : Nat → Int → Option Nat} {ze : Nat → Option (Array Value)} {fs : List (Fa P T)} {vals : Vs} {res : List Rs} {k : Nat}
theorem op_at {k : Nat} (hk : k < ops.size) : ops[k]? = some (opAt ops k) := by
  have : ops[k]? = some ops[k] := Array.getElem?_eq_getElem hk
  rw [this, opAt_eq this]
theorem RX.lt (X : RX P T ops tm rows sl fo io ze fs vals res) {k : Nat} {r : Rs} (h : res[k]? = some r) : k < ops.size := by
  have := (List.getElem?_eq_some_iff.1 h).1
  rw [X.rlen] at this
  exact this
theorem RX.at (X : RX P T ops tm rows sl fo io ze fs vals res) {k : Nat} {r : Rs} (h : res[k]? = some r) : rsOf P ops tm rows sl ze vals k = some r := by
  obtain ⟨r', h1, h2⟩ := X.rs k (X.lt h)
  rw [h] at h2
  cases h2
  exact h1
theorem RX.val (X : RX P T ops tm rows sl fo io ze fs vals res) {j : Nat} {s : SV} (h : vals[j]? = some (some s)) : res[j]? = some (rV (some s)) := by
  have hj : j < ops.size := by
    have := (List.getElem?_eq_some_iff.1 h).1
    rw [X.vlen] at this
    exact this
  obtain ⟨s', e', h1, _, h3⟩ := X.s1 j _ (op_at hj)
  rw [h] at h3
  cases h3
  have hv : isVal (opAt ops j).op = true := by
    cases hq : isVal (opAt ops j).op with
    | true => rfl
    | false =>
      unfold step1 at h1
      rw [hq] at h1
      simp only [Bool.false_eq_true, if_false] at h1
      split at h1 <;> simp at h1
  obtain ⟨r, h4, h5⟩ := X.rs j hj
  rw [rs_val hv, h] at h4
  simp only [Option.map_some, Option.some.injEq] at h4
  rw [h5, ← h4]
theorem RX.unguarded (X : RX P T ops tm rows sl fo io ze fs vals res) {k : Nat} (hk : k < ops.size) (hv : isVal (opAt ops k).op = false) : (opAt ops k).guard = none := by
  obtain ⟨s', e', h1, _, _⟩ := X.s1 k _ (op_at hk)
  unfold step1 at h1
  rw [hv] at h1
  simp only [Bool.false_eq_true, if_false] at h1
  split at h1
  · next h => simpa using h
  · cases h1
theorem RX.hL (X : RX P T ops tm rows sl fo io ze fs vals res) (β : Nat → Nat) : ∀ (j : Nat) (s : SV), vals[j]? = some (some s) → (res.map (toSp β))[j]? = some (sV (up β s)) := by
  intro j s h
  rw [List.getElem?_map, X.val h]
  rfl
theorem RX.hLt (X : RX P T ops tm rows sl fo io ze fs vals res) (β : Nat → Nat) (n : Nat) : ∀ (j : Nat) (s : SV), (vals.take n)[j]? = some (some s) → (res.map (toSp β))[j]? = some (sV (up β s)) := by
  intro j s h
  rw [List.getElem?_take] at h
  split at h
  · exact X.hL β j s h
  · cases h
theorem RX.sto (X : RX P T ops tm rows sl fo io ze fs vals res) {m id : Nat} (h : (m, id) ∈ sl) : ∃ c off v, res[m]? = some (rK id c (over c off v)) ∧ rowOf rows id = some c := by
  have h1 := X.slb
  simp only [slB, Bool.and_eq_true] at h1
  have h2 := List.all_eq_true.1 h1.2 _ h
  simp only at h2
  cases hr : res[m]? with
  | none => rw [hr] at h2; cases h2
  | some r =>
    rw [hr] at h2
    rcases r with s | x | x | ⟨id', c, e⟩
    · cases h2
    · cases h2
    · cases h2
    · simp only [beq_iff_eq] at h2
      subst h2
      obtain ⟨ty, x, y, _, h3 | ⟨id, off, v, c', _, _, _, hc, _, _, h4⟩⟩ := st_spec (X.at hr) (by intro s h; cases h) (by intro _ _ _ h; cases h)
      · obtain ⟨j, _, _, h3⟩ := h3
        cases h3
      · simp only [Sum.inr.injEq, Prod.mk.injEq] at h4
        obtain ⟨rfl, rfl, rfl⟩ := h4
        exact ⟨c, off, v.cells, rfl, hc⟩
theorem find_sl {id m id' : Nat} (h : (sl.find? fun q => q.2 == id) = some (m, id')) : id' = id ∧ (m, id) ∈ sl := by
  have h1 := List.mem_of_find?_eq_some h
  have h2 := List.find?_some h
  simp only [beq_iff_eq] at h2
  subst h2
  exact ⟨rfl, h1⟩
theorem GxR_mem {β : Nat → Nat} {p : Nat × Array Value} (hp : p ∈ rows) (hn : (sl.find? fun q => q.2 == p.1) = none) : ∃ n : Nat, (GxR β rows sl)[n]? = some (β p.1, p.2) := by
  apply List.mem_iff_getElem?.1
  unfold GxR
  exact List.mem_map.2 ⟨p, List.mem_filter.2 ⟨hp, by simp [hn]⟩, rfl⟩
theorem GxR_of {β : Nat → Nat} {n g : Nat} {c : Array Value} (h : (GxR β rows sl)[n]? = some (g, c)) : ∃ id, (id, c) ∈ rows ∧ (sl.find? fun q => q.2 == id) = none ∧ g = β id := by
  have h1 := List.mem_of_getElem? h
  unfold GxR at h1
  obtain ⟨⟨id, c'⟩, hp, he⟩ := List.mem_map.1 h1
  obtain ⟨hp, hn⟩ := List.mem_filter.1 hp
  simp only [Prod.mk.injEq] at he
  obtain ⟨rfl, rfl⟩ := he
  exact ⟨id, hp, by simpa using hn, rfl⟩
variable {β : Nat → Nat} {a a' : Act} {w w' w0 : World} {N0 nx : Nat} {Q : Exit → Act → World → Prop} {κ : World × Nat × (Nat → Nat) × List Deferred}
theorem RX.look (X : RX P T ops tm rows sl fo io ze fs vals res) (E : RE ops a w0 N0 (GxR β rows sl) (res.map (toSp β)) k a' w') : ∀ id c, lookK ops rows sl k id = some c → HasRow w' (β id) c := by
  intro id c h
  unfold lookK at h
  cases hf : sl.find? fun q => q.2 == id with
  | none =>
    rw [hf] at h
    obtain ⟨n, hn⟩ := GxR_mem (β := β) (rowOf_mem h) hf
    exact E.row n hn
  | some p =>
    obtain ⟨m, id'⟩ := p
    rw [hf] at h
    simp only [] at h
    split at h
    · next hw =>
      obtain ⟨c', off, v, h1, h2⟩ := X.sto (find_sl hf).2
      rw [h] at h2
      cases h2
      exact E.skb m (by rw [List.getElem?_map, h1]; rfl) hw
    · cases h
theorem fits_ok {ty off : Nat} {c : Array Value} {v : Value} (h : fits P ty c off v = true) : (P.info? ty).map (·.size) = some v.cells.size ∧ off + v.cells.size ≤ c.size ∧ v.cells.all (·.oneCell') = true := by
  simp only [fits, Bool.and_eq_true, beq_iff_eq, decide_eq_true_eq] at h
  exact ⟨h.1.1, h.1.2, h.2⟩
theorem RX.guard (X : RX P T ops tm rows sl fo io ze fs vals res) (hk : k < ops.size) {j : Nat} {b : Bool} (hg : (opAt ops k).guard = some (j, b)) : ∃ tj, (ops[j]?).bind (·.dst) = some tj ∧ newB ops tm.length k tj j = true := by
  have h1 := List.all_eq_true.1 X.grd k (by simpa using hk)
  rw [hg] at h1
  simp only [] at h1
  cases hd : (opAt ops j).dst with
  | none => rw [hd] at h1; cases h1
  | some t =>
    rw [hd] at h1
    refine ⟨t, ?_, h1⟩
    simp only [newB, Bool.and_eq_true, beq_iff_eq] at h1
    exact (wr_dst h1.1.1).1
/-- Each operation does what was reckoned. -/
theorem RX.ob (X : RX P T ops tm rows sl fo io ze fs vals res) (fr : a.tmps = (tm.map (upO β)).toArray) (hT : ∀ w', Below w0.heap.size w0 w' → T w')
    (hfo : ∀ t f d, fo t f = some d → ∀ g off w, (Instr.fieldAt t (.pointer (some ⟨g, off, none⟩)) f).run P w = .ok (.pointer (some ⟨g, off + d, none⟩)) w)
    (hio : ∀ t i d, io t i = some d → ∀ g off w, (Instr.indexAt t (.pointer (some ⟨g, off, none⟩)) (.int .i64 i)).run P w = .ok (.pointer (some ⟨g, off + d, none⟩)) w)
    (hze : ∀ t z, ze t = some z → ∀ (ρ : Operand → Value) (o : Oper) w, o.op = .alloc t → ∃ t', (execOp ρ o).run P w = .ok (.value (ptr0 w.heap.size)) (w.alloc (.cells z t')))
    {r : Rs} (hr : res[k]? = some r) : Ob P ops Q a w0 N0 (GxR β rows sl) (res.map (toSp β)) k (toSp β r) := by
  have hk := X.lt hr
  have hsz : a.tmps.size = tm.length := by rw [fr]; simp
  rcases r with s | ⟨m, i, e⟩ | j | ⟨id, i, e⟩
  · obtain ⟨hv, hs⟩ := rV_spec (X.at hr)
    obtain ⟨s', e', h1, h2, h3⟩ := X.s1 k _ (op_at hk)
    rw [hs] at h3
    cases h3
    unfold step1 at h1
    rw [hv] at h1
    simp only [if_true] at h1
    have core : ∀ {x : SV × Eqs}, calV P T ops tm (vals.take k) (lookK ops rows sl k) fo io k (opAt ops k).op (fs[k]?.getD (Sum.inl ())) = some x → EqOk x.2 → ∀ a' w', RE ops a w0 N0 (GxR β rows sl) (res.map (toSp β)) k a' w' → (opAt ops k).wp P a' w' (fun a'' w'' => a'' = a'.put (opAt ops k).dst (up β x.1) ∧ Below w'.heap.size w' w'') Q := by
      intro x hx he a' w' E
      exact calV_ok hfo hio fr E (X.hLt β k) (X.look E) (hT w' E.bw) hx he
    cases hg : (opAt ops k).guard with
    | none =>
      rw [hg] at h1
      simp only [] at h1
      cases hx : calV P T ops tm (vals.take k) (lookK ops rows sl k) fo io k (opAt ops k).op (fs[k]?.getD (Sum.inl ())) with
      | none => rw [hx] at h1; cases h1
      | some x =>
        rw [hx] at h1
        simp only [Option.map_some, Option.some.injEq, Prod.mk.injEq] at h1
        obtain ⟨rfl, rfl⟩ := h1
        intro a' w' E
        exact wpG_plain hg (core hx h2 a' w' E)
    | some jb =>
      obtain ⟨j, b⟩ := jb
      rw [hg] at h1
      simp only [] at h1
      obtain ⟨tj, hj, hn⟩ := X.guard hk hg
      rw [← hsz] at hn
      cases hq : (vals.take k)[j]? with
      | none => rw [hq] at h1; cases h1
      | some q =>
        rw [hq] at h1
        rcases q with _ | v | p
        · simp only [] at h1
          split at h1
          · next hvj =>
            simp only [Option.some.injEq, Prod.mk.injEq] at h1
            obtain ⟨rfl, rfl⟩ := h1
            have hqj : vals[j]? = some none := by
              rw [List.getElem?_take] at hq
              split at hq
              · exact hq
              · cases hq
            have hjl : j < ops.size := by
              have := (List.getElem?_eq_some_iff.1 hqj).1
              rw [X.vlen] at this
              exact this
            have hrj : (res.map (toSp β))[j]? = some (sV undef) := by
              obtain ⟨r', h4, h5⟩ := X.rs j hjl
              rw [rs_val hvj, hqj] at h4
              simp only [Option.map_some, Option.some.injEq] at h4
              rw [List.getElem?_map, h5, ← h4]
              rfl
            exact (Obs.skipU hg hj (fun a' w' E => E.new tj j hn hrj) Obs.nil).1
          · cases h1
        · cases v with
          | bool b' =>
            simp only [] at h1
            have hrj := X.hLt β k j _ hq
            split at h1
            · next hbb =>
              subst hbb
              cases hx : calV P T ops tm (vals.take k) (lookK ops rows sl k) fo io k (opAt ops k).op (fs[k]?.getD (Sum.inl ())) with
              | none => rw [hx] at h1; cases h1
              | some x =>
                rw [hx] at h1
                simp only [Option.map_some, Option.some.injEq, Prod.mk.injEq] at h1
                obtain ⟨rfl, rfl⟩ := h1
                exact (Obs.gval hg hj (fun a' w' E => E.new tj j hn hrj) (core hx h2) Obs.nil).1
            · next hbb =>
              simp only [Option.some.injEq, Prod.mk.injEq] at h1
              obtain ⟨rfl, rfl⟩ := h1
              exact (Obs.skip hg hj (fun a' w' E => E.new tj j hn hrj) hbb Obs.nil).1
          | _ => simp at h1
        · simp at h1
  · rcases rA_spec (X.at hr) with ⟨t, hop, hz, _⟩ | ⟨t, x, v, hop, hx, _, hi⟩
    · have hg := X.unguarded hk (by rw [hop]; rfl)
      intro a' w' E
      obtain ⟨t', ht⟩ := hze t i hz a'.eval (opAt ops k) w' hop
      exact wpG_plain hg (ob_alloc ht)
    · have hg := X.unguarded hk (by rw [hop]; rfl)
      intro a' w' E
      refine wpG_plain hg (ob_alloc (t := t) ?_)
      unfold execOp
      simp only [hop, evS_ok fr E (X.hL β) (plain_some hx), up, Sem.run_bind, Instr.box, newVar, newRow, run_newObj_alloc, Sem.run_pure, Result.andThen_ok, hi]
  · obtain ⟨ty, x, y, hop, ⟨j', hal, hst, h4⟩ | ⟨_, _, _, _, _, _, _, _, _, _, h4⟩⟩ := st_spec (X.at hr) (by intro s h; cases h) (by intro _ _ _ h; cases h)
    · simp only [Sum.inr.injEq, Sum.inl.injEq] at h4
      subst h4
      have hg := X.unguarded hk (by rw [hop]; rfl)
      intro a' w' g f st i e hLj E hev hrow
      have hj : ∃ r', res[j]? = some r' ∧ toSp β r' = sA f st i e := by
        rw [List.getElem?_map] at hLj
        cases hq : res[j]? with
        | none => rw [hq] at hLj; cases hLj
        | some r' => rw [hq] at hLj; exact ⟨r', rfl, by simpa using hLj⟩
      obtain ⟨r', hq, hq'⟩ := hj
      rcases r' with s | ⟨m, i', e'⟩ | j' | ⟨id', i', e'⟩
      · cases hq'
      · simp only [toSp, Sum.inr.injEq, Sum.inl.injEq, Prod.mk.injEq] at hq'
        obtain ⟨rfl, rfl, rfl, rfl⟩ := hq'
        rcases rA_spec (X.at hq) with ⟨t, hopj, hz, ⟨_, hn, _⟩ | ⟨ty', x', y', v, hs, hm, hv, hf, he⟩⟩ | ⟨_, _, _, _, _, hn, _⟩
        · rw [hst] at hn; cases hn
        · rw [hst] at hs
          cases hs
          rw [hop] at hm
          cases hm
          obtain ⟨f1, f2, f3⟩ := fits_ok hf
          have hx : a'.eval x = ptr0 g := by
            cases x with
            | tmp t =>
              simp only [alOf] at hal
              cases hw : wr ops t with
              | none => rw [hw] at hal; cases hal
              | some j' =>
                rw [hw] at hal
                simp only [] at hal
                split at hal
                · next hh =>
                  cases hal
                  simp only [Bool.and_eq_true] at hh
                  exact hev t (by rw [hsz]; exact hh.2)
                · cases hal
            | _ => simp [alOf] at hal
          exact wpG_plain hg (ob_storea ty x y hop hx (evS_ok fr E (X.hL β) (plain_some hv)) rfl hrow f1 f2 f3 he.symm)
        · rw [hst] at hn; cases hn
      · cases hq'
      · cases hq'
    · cases h4
  · obtain ⟨ty, x, y, hop, ⟨_, _, _, h4⟩ | ⟨id', off, v, c, hal, hx, hy, hc, hf, hm, h4⟩⟩ := st_spec (X.at hr) (by intro s h; cases h) (by intro _ _ _ h; cases h)
    · cases h4
    · simp only [Sum.inr.injEq, Prod.mk.injEq] at h4
      obtain ⟨rfl, rfl, rfl⟩ := h4
      have hg := X.unguarded hk (by rw [hop]; rfl)
      intro a' w' E hrow
      obtain ⟨f1, f2, f3⟩ := fits_ok hf
      exact wpG_plain hg (ob_storea ty x y hop (evS_ok fr E (X.hL β) hx) (evS_ok fr E (X.hL β) (plain_some hy)) rfl hrow f1 f2 f3 rfl)
theorem Inv.rws (I : Inv κ w0 β tm rows nx a w) : RowsAt w (GxR β rows sl) := by
  have h : ∀ l : List (Nat × Array Value), (∀ p ∈ l, HasRow w p.1 p.2) → RowsAt w l := by
    intro l
    induction l with
    | nil => intro _; trivial
    | cons p l ih => exact fun h => ⟨h p List.mem_cons_self, ih fun q hq => h q (List.mem_cons_of_mem _ hq)⟩
  refine h _ fun p hp => ?_
  obtain ⟨n, hn⟩ := List.mem_iff_getElem?.1 hp
  obtain ⟨g, c⟩ := p
  obtain ⟨id, hm, _, rfl⟩ := GxR_of hn
  exact I.row _ hm
theorem RX.stOk (X : RX P T ops tm rows sl fo io ze fs vals res) (I : Inv κ w0 β tm rows nx a w) : StOk w0.heap.size w (GxR β rows sl) (res.map (toSp β)) := by
  have key : ∀ {k id : Nat} {i e : Array Value}, res[k]? = some (rK id i e) → (id, i) ∈ rows ∧ (k, id) ∈ sl := by
    intro k id i e hr
    obtain ⟨ty, x, y, hop, ⟨_, _, _, h4⟩ | ⟨id', off, v, c, hal, hx, hy, hc, hf, hm, h4⟩⟩ := st_spec (X.at hr) (by intro s h; cases h) (by intro _ _ _ h; cases h)
    · cases h4
    · simp only [Sum.inr.injEq, Prod.mk.injEq] at h4
      obtain ⟨rfl, rfl, rfl⟩ := h4
      exact ⟨rowOf_mem hc, hm⟩
  refine StOk_mk ?_ ?_
  · intro id i e hm
    obtain ⟨k, hk⟩ := List.mem_iff_getElem?.1 hm
    obtain ⟨h1, h2⟩ := key hk
    refine ⟨I.row _ h1, I.lo _ h1, ?_⟩
    have h : ∀ l : List (Nat × Array Value), (∀ p ∈ l, p.1 ≠ β id) → Apart (β id) l := by
      intro l
      induction l with
      | nil => intro _; trivial
      | cons p l ih => exact fun h => ⟨h p List.mem_cons_self, ih fun q hq => h q (List.mem_cons_of_mem _ hq)⟩
    refine h _ fun p hp => ?_
    obtain ⟨n, hn⟩ := List.mem_iff_getElem?.1 hp
    obtain ⟨g, c⟩ := p
    obtain ⟨id', hm', hf, rfl⟩ := GxR_of hn
    refine I.inj _ hm' _ h1 ?_
    intro he
    simp only at he
    subst he
    have := List.find?_eq_none.1 hf _ h2
    simp at this
  · rw [List.pairwise_iff_getElem]
    intro m n hm hn hmn id i e id' i' e' h1 h2
    have k1 := key (k := m) (id := id) (i := i) (e := e) (by rw [List.getElem?_eq_getElem hm, h1])
    have k2 := key (k := n) (id := id') (i := i') (e := e') (by rw [List.getElem?_eq_getElem hn, h2])
    refine I.inj _ k2.1 _ k1.1 ?_
    intro he
    simp only at he
    subst he
    have h3 := X.slb
    simp only [slB, Bool.and_eq_true] at h3
    have h4 := nodupB_ok h3.1
    have h5 : ∀ {l : List (Nat × Nat)}, (l.map (·.2)).Nodup → ∀ {x y z : Nat}, (x, z) ∈ l → (y, z) ∈ l → x = y := by
      intro l
      induction l with
      | nil => intro _ x y z h; cases h
      | cons p l ih =>
        intro hd x y z h h'
        rw [List.map_cons, List.nodup_cons] at hd
        have hx : ∀ {u : Nat}, (u, z) ∈ l → z ∈ l.map (·.2) := fun hu => List.mem_map.2 ⟨_, hu, rfl⟩
        rcases List.mem_cons.1 h with e1 | h1
        · rcases List.mem_cons.1 h' with e2 | h2
          · rw [← e1] at e2
            simpa using e2.symm
          · exact absurd (hx h2) (by rw [← e1] at hd; exact hd.1)
        · rcases List.mem_cons.1 h' with e2 | h2
          · exact absurd (hx h1) (by rw [← e2] at hd; exact hd.1)
          · exact ih hd.2 h1 h2
    have := h5 h4 k1.2 k2.2
    omega
/-- The state behind a region. -/
theorem RX.inv (X : RX P T ops tm rows sl fo io ze fs vals res) (I : Inv κ w0 β tm rows nx a w) (hi : idsB tm nx = true) (hv : idsB vals nx = true) {bs : Nat → Nat} {w' : World} (F : RF w w0 w.heap.size (GxR β rows sl) (res.map (toSp β)) bs w') :
    Inv κ w0 (fun i => if i < nx then β i else bs (i - nx)) (tmX ops tm res nx) (rowsX rows sl res nx) (nx + ops.size) (putAll ops (xv (res.map (toSp β)) bs) a) w' := by
  have hsz : a.tmps.size = tm.length := by rw [I.fr]; simp
  have hβ : ∀ i, i < nx → (fun i => if i < nx then β i else bs (i - nx)) i = β i := fun i h => if_pos h
  have hβn : ∀ k, (fun i => if i < nx then β i else bs (i - nx)) (nx + k) = bs k := by
    intro k
    show (if nx + k < nx then _ else _) = _
    rw [if_neg (by omega)]
    congr 1
    omega
  generalize hb : (fun i => if i < nx then β i else bs (i - nx)) = β' at hβ hβn ⊢
  have hold : ∀ p ∈ rows, (oldX sl res p).1 = p.1 ∧ HasRow w' (β p.1) (oldX sl res p).2 := by
    intro p hp
    unfold oldX
    cases hf : sl.find? fun q => q.2 == p.1 with
    | none =>
      obtain ⟨n, hn⟩ := GxR_mem (β := β) hp hf
      exact ⟨rfl, F.row n hn⟩
    | some q =>
      obtain ⟨m, id'⟩ := q
      obtain ⟨c, off, v, h1, h2⟩ := X.sto (find_sl hf).2
      simp only [h1]
      exact ⟨trivial, F.sk m (i := c) (by rw [List.getElem?_map, h1]; rfl)⟩
  have hnew : ∀ p ∈ (List.range res.length).filterMap (newX res nx), ∃ k, k < res.length ∧ p.1 = nx + k ∧ isAl (res.map (toSp β)) k = true ∧ w.heap.size ≤ bs k ∧ HasRow w' (bs k) p.2 := by
    intro p hp
    obtain ⟨k, hk, he⟩ := List.mem_filterMap.1 hp
    unfold newX at he
    split at he
    · next st i e hr =>
      simp only [Option.some.injEq] at he
      subst he
      have hL : (res.map (toSp β))[k]? = some (sA ptr0 st i e) := by rw [List.getElem?_map, hr]; rfl
      refine ⟨k, by simpa using hk, rfl, by simp only [isAl, hL], ?_⟩
      by_cases hs : st < res.length
      · have := F.al k hL (by simpa using hs)
        rw [if_pos hs]
        exact this
      · have := F.ali k hL (by simpa using hs)
        rw [if_neg hs]
        exact this
    · cases he
  have hall : ∀ p ∈ rowsX rows sl res nx, (p.1 < nx ∧ (∃ q ∈ rows, q.1 = p.1) ∧ HasRow w' (β p.1) p.2) ∨ ∃ k, k < res.length ∧ p.1 = nx + k ∧ isAl (res.map (toSp β)) k = true ∧ w.heap.size ≤ bs k ∧ HasRow w' (bs k) p.2 := by
    intro p hp
    unfold rowsX at hp
    rcases List.mem_append.1 hp with hp | hp
    · left
      obtain ⟨q, hq, rfl⟩ := List.mem_map.1 hp
      obtain ⟨h1, h2⟩ := hold q hq
      refine ⟨by rw [h1]; exact I.lt q hq, ⟨q, hq, h1.symm⟩, by rw [h1]; exact h2⟩
    · exact .inr (hnew p hp)
  refine ⟨?_, I.df, F.bw, ?_, ?_, ?_, ?_, I.kx.1.trans F.ko, Nat.le_trans I.kx.2.1 (Nat.le_add_right _ _), fun i h => (hβ i (Nat.lt_of_lt_of_le h I.kx.2.1)).trans (I.kx.2.2 i h)⟩
  · apply Array.ext_getElem?
    intro t
    unfold putAll
    simp only [Array.getElem?_ofFn, List.getElem?_toArray, List.getElem?_map, tmX]
    by_cases ht : t < tm.length
    · have ht' : t < a.tmps.size := by rw [hsz]; exact ht
      rw [dif_pos ht', List.getElem?_range ht]
      simp only [Option.map_some, Option.some.injEq]
      cases hw : wr ops t with
      | none =>
        simp only []
        have h1 : tm[t]? = some tm[t] := List.getElem?_eq_getElem ht
        have h2 : a.tmps[t]? = some (upO β tm[t]) := by rw [I.fr]; simp [h1]
        have h3 : a.tmps[t] = upO β tm[t] := by
          have := Array.getElem?_eq_getElem ht'
          rw [this] at h2
          exact Option.some.inj h2
        rw [h3, h1]
        exact (upO_agree hi hβ h1).symm
      | some j =>
        simp only []
        unfold xv
        rw [List.getElem?_map]
        cases hr : res[j]? with
        | none => rfl
        | some r =>
          rcases r with s | ⟨m, i, e⟩ | j' | ⟨id, i, e⟩
          · exact (upO_agree hv hβ (rV_spec (X.at hr)).2).symm
          · simp only [Option.map_some, toSp, upO, up, hβn]
          · rfl
          · rfl
    · have ht' : ¬ t < a.tmps.size := by rw [hsz]; exact ht
      rw [dif_neg ht', List.getElem?_eq_none (by simpa using ht)]
      rfl
  · intro p hp
    rcases hall p hp with ⟨h1, _, h2⟩ | ⟨k, _, h1, _, _, h2⟩
    · rw [hβ _ h1]; exact h2
    · rw [h1, hβn]; exact h2
  · intro p hp
    rcases hall p hp with ⟨h1, ⟨q, hq, h2⟩, _⟩ | ⟨k, _, h1, _, h3, _⟩
    · rw [hβ _ h1, ← h2]; exact I.lo q hq
    · rw [h1, hβn]; exact Nat.le_trans I.bw.size h3
  · intro p hp
    rcases hall p hp with ⟨h1, _⟩ | ⟨k, hk, h1, _⟩
    · exact Nat.lt_of_lt_of_le h1 (Nat.le_add_right _ _)
    · rw [X.rlen] at hk; omega
  · intro p hp q hq hpq
    rcases hall p hp with ⟨h1, ⟨p', hp', h2⟩, _⟩ | ⟨k, _, h1, h5, h3, _⟩
    · rcases hall q hq with ⟨g1, ⟨q', hq', g2⟩, _⟩ | ⟨k', _, g1, g5, g3, _⟩
      · rw [hβ _ h1, hβ _ g1, ← h2, ← g2]
        exact I.inj _ hp' _ hq' (by rw [h2, g2]; exact hpq)
      · rw [hβ _ h1, g1, hβn, ← h2]
        have := (I.row _ hp').lt
        omega
    · rcases hall q hq with ⟨g1, ⟨q', hq', g2⟩, _⟩ | ⟨k', _, g1, g5, g3, _⟩
      · rw [hβ _ g1, h1, hβn, ← g2]
        have := (I.row _ hq').lt
        omega
      · rw [h1, g1, hβn, hβn]
        exact F.ne k k' (by omega) h5 g5
end
section
variable {P : Program} {T : World → Prop} {fo : Nat → Nat → Option Nat} {io : Nat → Int → Option Nat} {ze : Nat → Option (Array Value)} {ops : Array Oper} {fs : List (Fa P T)} {st st' : St} {e : Eqs} {β : Nat → Nat} {a : Act} {w w0 : World} {Q : Exit → Act → World → Prop} {id : Nat} {d : Bool} {κ : World × Nat × (Nat → Nat) × List Deferred}
/-- A region does what was reckoned. -/
theorem regX_ok (hT : ∀ w', Below w0.heap.size w0 w' → T w')
    (hfo : ∀ t f d, fo t f = some d → ∀ g off w, (Instr.fieldAt t (.pointer (some ⟨g, off, none⟩)) f).run P w = .ok (.pointer (some ⟨g, off + d, none⟩)) w)
    (hio : ∀ t i d, io t i = some d → ∀ g off w, (Instr.indexAt t (.pointer (some ⟨g, off, none⟩)) (.int .i64 i)).run P w = .ok (.pointer (some ⟨g, off + d, none⟩)) w)
    (hze : ∀ t z, ze t = some z → ∀ (ρ : Operand → Value) (o : Oper) w, o.op = .alloc t → ∃ t', (execOp ρ o).run P w = .ok (.value (ptr0 w.heap.size)) (w.alloc (.cells z t')))
    (h : regX P T fo io ze ops fs st = some (st', e)) (he : EqOk e) (I : Inv κ w0 β st.1 st.2.1 st.2.2 a w) (hK : ∀ β' a' w', Inv κ w0 β' st'.1 st'.2.1 st'.2.2 a' w' → Q .normal a' w') : RegV P ops Q a w ∧ noDefB ops = true := by
  obtain ⟨tm, rows, nx⟩ := st
  unfold regX at h
  simp only [] at h I
  cases hg : go1 P T ops tm rows (slOf ops tm) fo io fs ops.toList 0 [] ([], []) with
  | none => rw [hg] at h; cases h
  | some p =>
    obtain ⟨vals, e1⟩ := p
    rw [hg] at h
    simp only [] at h
    cases hr : (List.range ops.size).mapM (rsOf P ops tm rows (slOf ops tm) ze vals) with
    | none => rw [hr] at h; cases h
    | some res =>
      rw [hr] at h
      simp only [] at h
      split at h
      · next hc =>
        simp only [Option.some.injEq, Prod.mk.injEq] at h
        obtain ⟨rfl, rfl⟩ := h
        simp only [Bool.and_eq_true] at hc
        obtain ⟨⟨⟨⟨⟨⟨⟨c1, c2⟩, c3⟩, c4⟩, c5⟩, c6⟩, c7⟩, c8⟩ := hc
        obtain ⟨_, g2, _, g4⟩ := go1_spec (k := 0) rfl hg he
        obtain ⟨r1, r2⟩ := mapM_get hr
        have X : RX P T ops tm rows (slOf ops tm) fo io ze fs vals res := by
          refine ⟨fun k o ho => ?_, fun k hk => r2 k k (List.getElem?_range hk), by simpa using r1, by simpa using g2, c3, c6⟩
          have := g4 k o (by simpa using ho)
          simpa using this
        refine ⟨regV_told c1 c2 (GxR β rows (slOf ops tm)) (res.map (toSp β)) (by rw [stB_any β _root_.id]; exact c7) I.bw I.rws (X.stOk I) (Obs_mk fun n s hs => ?_) ?_, c8⟩
        · rw [List.getElem?_map] at hs
          cases hq : res[n]? with
          | none => rw [hq] at hs; cases hs
          | some r =>
            rw [hq] at hs
            simp only [Option.map_some, Option.some.injEq] at hs
            subst hs
            rw [Nat.zero_add]
            exact X.ob I.fr hT hfo hio hze hq
        · intro bs w' a' ha F
          subst ha
          exact hK _ _ _ (X.inv I c4 c5 F)
      · cases h
end
end Go.Proofs.YtdlanihbpbfbcaaDoor
