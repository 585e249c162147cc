/- Out of Xs. -/
import Derived.Test.YtdeompgdhaomgaaGreatDoorKtAu
namespace Go.Proofs.YtdeompgdhaomgaaGreatDoor
open Go.RowKit Go.Sort Tryz
set_option linter.unusedVariables false
set_option maxRecDepth 100000
set_option maxHeartbeats 4000000
abbrev Ki : Type := Code ⊕ Nat
/-- Where a walk stands: the region, what of it is to be run, what follows, the frame, the rows, the next number, and how it ended. -/
structure Cf where
  ops : Array Oper
  rest : List Oper
  ks : List Ki
  tm : Vs
  rows : Rows
  nx : Nat
  dn : Option Exit
def QK (P : Program) (Q : Exit → Act → World → Prop) : List Ki → Exit → Act → World → Prop
  | [] => Q
  | Sum.inl c :: ks => Exit.then (fun a w => c.wp P (QK P Q ks) a w) (QK P Q ks)
  | Sum.inr id :: ks => Exit.inBlock id (QK P Q ks)
/-- Operations in their order. -/
def wpL (P : Program) (ops : Array Oper) (Q : Exit → Act → World → Prop) : List Oper → Act → World → Prop
  | [], a, w => Q .normal a w
  | o :: rest, a, w => if Region.wanted o (yielded ops a.tmps) = true then o.wp P a w (wpL P ops Q rest) Q else wpL P ops Q rest (a.put o.dst undef) w
theorem wpL_list {P : Program} {ops : Array Oper} {Q : Exit → Act → World → Prop} : ∀ {l : List Oper} {a : Act} {w : World}, wpL P ops Q l a w → wpList P ops Q l a w
  | [], a, w, h => h
  | o :: rest, a, w, h => by
    unfold wpL at h
    unfold wpList
    split at h
    · next hw => rw [if_pos hw]; exact .inl (Oper.wp_mono (fun a w h => wpL_list h) h)
    · next hw => rw [if_neg hw]; exact wpL_list h
def AtD (P : Program) (Q : Exit → Act → World → Prop) (c : Cf) (a : Act) (w : World) : Prop := match c.dn with
  | some e => Q e a w
  | none => wpL P c.ops (QK P Q c.ks) c.rest a w
/-- What is to be shown where a walk stands. -/
structure At (P : Program) (Q : Exit → Act → World → Prop) (c : Cf) (a : Act) (w : World) : Prop where
  out : AtD P Q c a w
def evQ (tm : Vs) : Operand → Option SV
  | .const v => some (Sum.inl v)
  | .tmp t => (tm[t]?).join
  | _ => none
section
variable (P : Program) (fo : Nat → Nat → Option Nat) (io : Nat → Int → Option Nat) (ze : Nat → Option (Array Value))
def natG (ev : Operand → Option SV) (rows : Rows) : Op → Option SV
  | .move x => ev x
  | .assign x => ev x
  | .nilCheck x => match ev x with
    | some (Sum.inr p) => some (Sum.inr p)
    | some (Sum.inl (.pointer (some a))) => some (Sum.inl (.pointer (some a)))
    | _ => none
  | .pick c x y => match plain (ev c) with
    | some (.bool true) => ev x
    | some (.bool false) => ev y
    | _ => none
  | .extract x i => match plain (ev x) with
    | some (.tuple vs) => (vs[i]?).map Sum.inl
    | _ => none
  | .load t x => match ev x with
    | some (Sum.inr (id, off)) => match y9 rows id with
      | some c => (loadV P t c off).map Sum.inl
      | none => none
    | _ => none
  | .fieldAddr t x f => match ev x with
    | some (Sum.inr (id, off)) => (fo t f).map fun d => Sum.inr (id, off + d)
    | some (Sum.inl (.pointer (some ⟨g, off, none⟩))) => (fo t f).map fun d => Sum.inl (.pointer (some ⟨g, off + d, none⟩))
    | _ => none
  | .indexAddr t x y => match ev x, plain (ev y) with
    | some (Sum.inr (id, off)), some (.int .i64 i) => (io t i).map fun d => Sum.inr (id, off + d)
    | _, _ => none
  | _ => none
abbrev natQ (tm : Vs) (rows : Rows) (op : Op) : Option SV := natG P fo io (evQ tm) rows op
def putQ (tm : Vs) (dst : Option Tmp) (s : Option SV) : Vs := match dst with
  | some d => tm.set d s
  | none => tm
def wantQ (ops : Array Oper) (tm : Vs) (o : Oper) : Option Bool := match o.guard with
  | none => some true
  | some (j, b) => match (ops[j]?).bind (·.dst) with
    | some d => match tm[d]? with
      | some (some (Sum.inl (.bool b'))) => some (b' == b)
      | some none => some false
      | _ => none
    | none => none
def qz (c : Cf) (dst : Option Tmp) (s : Option SV) : Cf := { c with rest := c.rest.tail, tm := putQ c.tm dst s }
/-- One operation that is run by itself, or by a fact. -/
def opQ (T : World → Prop) (fs : List (Fa P T)) (c : Cf) (o : Oper) : Option (Cf × List (Fa P T) × List (Value × Value)) :=
  match o.op with
  | .alloc t => match ze t with
    | some z => some ({ c with rest := c.rest.tail, tm := putQ c.tm o.dst (some (Sum.inr (c.nx, 0))), rows := (c.nx, z) :: c.rows, nx := c.nx + 1 }, fs, [])
    | none => none
  | .box t x => match plain (evQ c.tm x) with
    | some v => some ({ c with rest := c.rest.tail, tm := putQ c.tm o.dst (some (Sum.inr (c.nx, 0))), rows := (c.nx, v.cells) :: c.rows, nx := c.nx + 1 }, fs, [])
    | none => none
  | .store ty x y => match evQ c.tm x, plain (evQ c.tm y) with
    | some (Sum.inr (id, off)), some v => match y9 c.rows id with
      | some r => if fits P ty r off v = true then some ({ c with rest := c.rest.tail, tm := putQ c.tm o.dst none, rows := c.rows.map fun p => if p.1 = id then (p.1, over r off v.cells) else p }, fs, []) else none
      | none => none
    | _, _ => none
  | op => match natQ P fo io c.tm c.rows op with
    | some s => some (qz c o.dst (some s), fs, [])
    | none => match fs with
      | Sum.inr (Sum.inl f) :: fs' => match op with
        | .call { callee := .value (.func g), args := xs, argTypes := ts } => if g = f.f then (xs.toList.mapM fun x => plain (evQ c.tm x)).map fun vs => (qz c o.dst (some (Sum.inl f.v)), fs', [(.tuple vs.toArray, .tuple f.args)]) else none
        | _ => none
      | Sum.inr (Sum.inr f) :: fs' => if f.ok op = true then ((vm op).mapM fun x => plain (evQ c.tm x)).map fun vs => (qz c o.dst (some (Sum.inl f.v)), fs', [(.tuple vs.toArray, .tuple f.xs)]) else none
      | _ => none
/-- Codes that a walk stops at. -/
def haltC : Code → Bool
  | .loop _ => true
  | .region _ _ true => true
  | _ => false
/-- Into a code. -/
def xi (tm : Vs) : Code → List Ki → Option (Array Oper × List Oper × List Ki × Option Exit)
  | .skip, ks => some (#[], [], ks, none)
  | .region _ ops false, ks => some (ops, ops.toList, ks, none)
  | .seq x y, ks => xi tm x (Sum.inl y :: ks)
  | .cond c x y, ks => match condV tm c with
    | some true => xi tm x ks
    | some false => xi tm y ks
    | none => none
  | .block id x, ks => xi tm x (Sum.inr id :: ks)
  | .exit id, ks => some (exitQ id ks)
  | .ret, _ => some (#[], [], [], some .ret)
  | .loop x, ks => some (#[], [], Sum.inl (.loop x) :: ks, none)
  | .region id ops true, ks => some (#[], [], Sum.inl (.region id ops true) :: ks, none)
  | _, _ => none
  where exitQ (id : Nat) : List Ki → Array Oper × List Oper × List Ki × Option Exit
  | [] => (#[], [], [], some (.exit id))
  | Sum.inl _ :: ks => exitQ id ks
  | Sum.inr i :: ks => if id = i then (#[], [], ks, none) else exitQ id ks
def stepQ (T : World → Prop) (fs : List (Fa P T)) (c : Cf) : Option (Cf × List (Fa P T) × List (Value × Value)) :=
  match c.dn with
  | some _ => none
  | none => match c.rest with
    | o :: _ => match wantQ c.ops c.tm o with
      | some true => opQ P fo io ze T fs c o
      | some false => some (qz c o.dst none, fs, [])
      | none => none
    | [] => match c.ks with
      | [] => some ({ c with dn := some .normal }, fs, [])
      | Sum.inr _ :: ks => some ({ c with ks := ks }, fs, [])
      | Sum.inl x :: ks => if haltC x = true then none else (xi c.tm x ks).map fun r => ({ c with ops := r.1, rest := r.2.1, ks := r.2.2.1, dn := r.2.2.2 }, fs, [])
def runQ (T : World → Prop) : Nat → List (Fa P T) → Cf → Cf × List (Fa P T) × List (Value × Value)
  | 0, fs, c => (c, fs, [])
  | n + 1, fs, c => match stepQ P fo io ze T fs c with
    | some (c', fs', e) => let r := runQ T n fs' c'; (r.1, r.2.1, e ++ r.2.2)
    | none => (c, fs, [])
end
/-- Nothing turns but outside F. -/
structure zi (F : Nat → Prop) (w w' : World) : Prop where
  os : w'.os = w.os
  tape : w'.tape = w.tape
  output : w'.output = w.output
  size : w.heap.size ≤ w'.heap.size
  block : ∀ k, k < w.heap.size → F k → w'.heap[k]? = w.heap[k]?
/-- What a resource must be: told by its own places. -/
structure yw (J : World → Prop) (F : Nat → Prop) : Prop where
  loc : ∀ w w', J w → zi F w w' → J w'
  lt : ∀ w k, J w → F k → k < w.heap.size
/-- What stands between what is reckoned and what is run. -/
structure SI (J : World → Prop) (F : Nat → Prop) (ds : List Deferred) (β : Nat → Nat) (c : Cf) (a : Act) (w : World) : Prop where
  fr : a.tmps = (c.tm.map (upO β)).toArray
  df : a.defers = ds
  hJ : J w
  row : ∀ p ∈ c.rows, zb w (β p.1) p.2
  dis : ∀ p ∈ c.rows, ¬ F (β p.1)
  lt : ∀ p ∈ c.rows, p.1 < c.nx
  inj : ∀ p ∈ c.rows, ∀ q ∈ c.rows, p.1 ≠ q.1 → β p.1 ≠ β q.1
  ids : xo c.tm c.nx = true
section
variable {P : Program} {T : World → Prop} {fo : Nat → Nat → Option Nat} {io : Nat → Int → Option Nat} {ze : Nat → Option (Array Value)} {J : World → Prop} {F : Nat → Prop} {ds : List Deferred} {β : Nat → Nat} {c c' : Cf} {a : Act} {w : World} {Q : Exit → Act → World → Prop} {o : Oper}
theorem xn {tm : Vs} (ha : a.tmps = (tm.map (upO β)).toArray) {x : Operand} {s : SV} (h : evQ tm x = some s) : a.eval x = up β s := by
  cases x with
  | const v => simp only [evQ, Option.some.injEq] at h; subst h; rfl
  | tmp t => exact zbg ha h
  | global g => simp [evQ] at h
  | func f => simp [evQ] at h
theorem mapQ_ok {tm : Vs} (ha : a.tmps = (tm.map (upO β)).toArray) : ∀ {xs : List Operand} {vs : List Value}, (xs.mapM fun x => plain (evQ tm x)) = some vs → xs.map a.eval = vs
  | [], vs, h => by simp at h; subst h; rfl
  | x :: xs, vs, h => by
    rw [List.mapM_cons] at h
    cases h1 : plain (evQ tm x) with
    | none => rw [h1] at h; simp at h
    | some v =>
      cases h2 : (xs.mapM fun x => plain (evQ tm x)) with
      | none => rw [h1, h2] at h; simp at h
      | some us =>
        rw [h1, h2] at h
        simp at h
        subst h
        rw [List.map_cons, mapQ_ok ha h2, xn ha (zp h1)]
        rfl
theorem za7 {tm : Vs} (ha : a.tmps = (tm.map (upO β)).toArray) (dst : Option Tmp) (s : Option SV) : (a.put dst (upO β s)).tmps = ((putQ tm dst s).map (upO β)).toArray := by
  cases dst with
  | none => exact ha
  | some d =>
    show a.tmps.setIfInBounds d (upO β s) = _
    rw [ha, List.setIfInBounds_toArray, putQ, List.map_set]
theorem zag {tm : Vs} {nx : Nat} (h : xo tm nx = true) (dst : Option Tmp) {s : Option SV} (hs : ∀ i o, s = some (Sum.inr (i, o)) → i < nx) : xo (putQ tm dst s) nx = true := by
  cases dst with
  | none => exact h
  | some d =>
    unfold xo at h ⊢
    rw [List.all_eq_true] at h ⊢
    intro x hx
    rcases List.mem_or_eq_of_mem_set hx with hx | rfl
    · exact h x hx
    · rcases x with _ | v | ⟨i, o⟩
      · rfl
      · rfl
      · simpa using hs i o rfl
theorem idsB_get {tm : Vs} {nx : Nat} (h : xo tm nx = true) {t : Nat} {i o : Nat} (hs : (tm[t]?).join = some (Sum.inr (i, o))) : i < nx := by
  unfold xo at h
  rw [List.all_eq_true] at h
  have := h _ (List.mem_of_getElem? (join_some hs))
  simpa using this
theorem evQ_ids {tm : Vs} {nx : Nat} (h : xo tm nx = true) {x : Operand} {i o : Nat} (hs : evQ tm x = some (Sum.inr (i, o))) : i < nx := by
  cases x with
  | const v => simp [evQ] at hs
  | tmp t => exact idsB_get h hs
  | global g => simp [evQ] at hs
  | func f => simp [evQ] at hs
theorem natG_ids {ev : Operand → Option SV} {rows : Rows} {nx : Nat} (h : ∀ x i o, ev x = some (Sum.inr (i, o)) → i < nx) {op : Op} {i o : Nat} (hs : natG P fo io ev rows op = some (Sum.inr (i, o))) : i < nx := by
  unfold natG at hs
  split at hs
  · exact h _ _ _ hs
  · exact h _ _ _ hs
  · split at hs
    · next p hx => simp only [Option.some.injEq, Sum.inr.injEq] at hs; subst hs; exact h _ _ _ hx
    · simp at hs
    · cases hs
  · split at hs
    · exact h _ _ _ hs
    · exact h _ _ _ hs
    · cases hs
  · split at hs
    · simp [Option.map_eq_some_iff] at hs
    · cases hs
  · split at hs
    · split at hs
      · simp [Option.map_eq_some_iff] at hs
      · cases hs
    · cases hs
  · split at hs
    · next id off hx =>
      simp only [Option.map_eq_some_iff, Sum.inr.injEq, Prod.mk.injEq] at hs
      obtain ⟨d, _, rfl, _⟩ := hs
      exact h _ _ _ hx
    · simp [Option.map_eq_some_iff] at hs
    · cases hs
  · split at hs
    · next id off i hx hy =>
      simp only [Option.map_eq_some_iff, Sum.inr.injEq, Prod.mk.injEq] at hs
      obtain ⟨d, _, rfl, _⟩ := hs
      exact h _ _ _ hx
    · cases hs
  · cases hs
theorem natQ_ids {tm : Vs} {rows : Rows} {nx : Nat} (h : xo tm nx = true) {op : Op} {i o : Nat} (hs : natQ P fo io tm rows op = some (Sum.inr (i, o))) : i < nx := natG_ids (fun x i o h2 => evQ_ids h h2) hs
theorem zi.of_below {w' : World} (h : Below w.heap.size w w') : zi F w w' := ⟨h.os, h.tape, h.output, h.size, fun k hk _ => h.block k hk⟩
theorem SI.put (I : SI J F ds β c a w) (R : yw J F) (dst : Option Tmp) {s : Option SV} (hs : ∀ i o, s = some (Sum.inr (i, o)) → i < c.nx) {w' : World} (hb : Below w.heap.size w w') : SI J F ds β (qz c dst s) (a.put dst (upO β s)) w' := by
  refine ⟨za7 I.fr dst s, ?_, R.loc w w' I.hJ (zi.of_below hb), fun p hp => (I.row p hp).below hb, I.dis, I.lt, I.inj, zag I.ids dst hs⟩
  cases dst <;> exact I.df
theorem xb {v : Value} {K : Act → World → Prop} {w' : World} (h : (execOp a.eval o).run P w = .ok (.value v) w') (k : K (a.put o.dst v) w') : o.wp P a w K Q := by
  unfold Oper.wp
  rw [h]
  exact k
theorem zb3 (Y : Ty P fo io ze) {ev : Operand → Option SV} {rows : Rows} (hev : ∀ x s, ev x = some s → a.eval x = up β s) (hrow : ∀ id c, y9 rows id = some c → zb w (β id) c) {s : SV} (h : natG P fo io ev rows o.op = some s) {K : Act → World → Prop} (k : ∀ w', Below w.heap.size w w' → K (a.put o.dst (up β s)) w') : o.wp P a w K Q := by
  have key : o.wp P a w (fun a'' w'' => a'' = a.put o.dst (up β s) ∧ Below w.heap.size w w'') Q := by
    cases hop : o.op with
    | move x => rw [hop] at h; exact ob_move x hop (hev _ _ h)
    | assign x => rw [hop] at h; exact ob_assign x hop (hev _ _ h)
    | nilCheck x =>
      rw [hop] at h
      simp only [natG] at h
      refine xb (v := up β s) (w' := w) ?_ ⟨rfl, Below.refl _ _⟩
      unfold execOp
      split at h
      · next p hx => cases h; simp [hop, hev _ _ hx, up]
      · next b hx => cases h; simp [hop, hev _ _ hx, up]
      · cases h
    | pick cc x y =>
      rw [hop] at h
      simp only [natG] at h
      split at h
      · next hc => exact ob_pick cc x y hop (hev _ _ (zp hc)) (by simp only [if_true]; exact hev _ _ h)
      · next hc => exact ob_pick cc x y hop (hev _ _ (zp hc)) (by simp only [Bool.false_eq_true, if_false]; exact hev _ _ h)
      · cases h
    | extract x i =>
      rw [hop] at h
      simp only [natG] at h
      split at h
      · next vs hx =>
        cases hv : vs[i]? with
        | none => rw [hv] at h; cases h
        | some v =>
          rw [hv] at h
          simp only [Option.map_some, Option.some.injEq] at h
          subst h
          exact ob_extract x i hop (hev _ _ (zp hx)) hv
      · cases h
    | load t x =>
      rw [hop] at h
      simp only [natG] at h
      split at h
      · next id off hx =>
        split at h
        · next r hc =>
          cases hv : loadV P t r off with
          | none => rw [hv] at h; cases h
          | some v =>
            rw [hv] at h
            simp only [Option.map_some, Option.some.injEq] at h
            subst h
            exact run_loadV hop (hev _ _ hx) (hrow _ _ hc) hv
        · cases h
      · cases h
    | fieldAddr t x f =>
      rw [hop] at h
      simp only [natG] at h
      split at h
      · next id off hx =>
        cases hv : fo t f with
        | none => rw [hv] at h; cases h
        | some d =>
          rw [hv] at h
          simp only [Option.map_some, Option.some.injEq] at h
          subst h
          exact zb6 t x f hop (hev _ _ hx) (Y.hfo t f d hv _ _ _)
      · next g off hx =>
        cases hv : fo t f with
        | none => rw [hv] at h; cases h
        | some d =>
          rw [hv] at h
          simp only [Option.map_some, Option.some.injEq] at h
          subst h
          exact zb6 t x f hop (hev _ _ hx) (Y.hfo t f d hv _ _ _)
      · cases h
    | indexAddr t x y =>
      rw [hop] at h
      simp only [natG] at h
      split at h
      · next id off i hx hy =>
        cases hv : io t i with
        | none => rw [hv] at h; cases h
        | some d =>
          rw [hv] at h
          simp only [Option.map_some, Option.some.injEq] at h
          subst h
          exact ob_indexAddr t x y hop (hev _ _ hx) (hev _ _ (zp hy)) (Y.hio t i d hv _ _ _)
      · cases h
    | _ => rw [hop] at h; simp [natG] at h
  refine Oper.wp_mono ?_ key
  rintro a2 w2 ⟨rfl, hb⟩
  exact k w2 hb
theorem natQ_ok (Y : Ty P fo io ze) (I : SI J F ds β c a w) {s : SV} (h : natQ P fo io c.tm c.rows o.op = some s) {K : Act → World → Prop} (k : ∀ w', Below w.heap.size w w' → K (a.put o.dst (up β s)) w') : o.wp P a w K Q :=
  zb3 Y (fun x s h => xn I.fr h) (fun id c h => I.row _ (zy h)) h k
theorem v7 (I : SI J F ds β c a w) {b : Bool} (h : wantQ c.ops c.tm o = some b) : Region.wanted o (yielded c.ops a.tmps) = b := by
  unfold wantQ at h
  unfold Region.wanted
  split at h
  · next hg => rw [hg]; cases h; rfl
  · next j b' hg =>
    rw [hg]
    simp only []
    split at h
    · next d hd =>
      have ey : ∀ s, c.tm[d]? = some s → yielded c.ops a.tmps j = (match upO β s with | .bool q => some q | _ => none) := by
        intro s hs
        unfold yielded
        rw [hd]
        simp only [Option.bind_some]
        have : a.tmps[d]? = some (upO β s) := by rw [I.fr]; simp [hs]
        rw [this]
        cases upO β s <;> rfl
      split at h
      · next q hq =>
        rw [ey _ hq]
        cases h
        cases q <;> cases b' <;> rfl
      · next hq =>
        rw [ey _ hq]
        cases h
        cases b' <;> rfl
      · cases h
    · cases h
theorem qh {rows : Rows} (id : Nat) (r : Array Value) (p : Nat × Array Value) (hp : p ∈ rows.map fun p => if p.1 = id then (p.1, r) else p) : ∃ q ∈ rows, q.1 = p.1 ∧ ((p.1 = id ∧ p.2 = r) ∨ (p.1 ≠ id ∧ p = q)) := by
  obtain ⟨q, hq, rfl⟩ := List.mem_map.1 hp
  by_cases h : q.1 = id
  · rw [if_pos h]; exact ⟨q, hq, rfl, .inl ⟨h, rfl⟩⟩
  · rw [if_neg h]; exact ⟨q, hq, rfl, .inr ⟨h, rfl⟩⟩
theorem yh (w : World) (o : Obj) : Below w.heap.size w (w.alloc o) := by
  have := World.grownBy_alloc w o none
  exact ⟨this.os, this.tape, this.output, this.size, fun k hk => this.block k hk (by simp)⟩
theorem SI.fresh (I : SI J F ds β c a w) (R : yw J F) (dst : Option Tmp) (z : Array Value) (t : TypeId) :
    SI J F ds (fun i => if i = c.nx then w.heap.size else β i) { c with rest := c.rest.tail, tm := putQ c.tm dst (some (Sum.inr (c.nx, 0))), rows := (c.nx, z) :: c.rows, nx := c.nx + 1 } (a.put dst (ye w.heap.size)) (w.alloc (.cells z t)) := by
  have hb := yh w (.cells z t)
  have hβ : ∀ i, i < c.nx → (if i = c.nx then w.heap.size else β i) = β i := fun i hi => by rw [if_neg (by omega)]
  have hfr : a.tmps = (c.tm.map (upO fun i => if i = c.nx then w.heap.size else β i)).toArray := by
    rw [I.fr]
    refine congrArg List.toArray (List.map_congr_left fun s hs => ?_)
    obtain ⟨t, ht⟩ := List.mem_iff_getElem?.1 hs
    exact (upO_agree I.ids hβ ht).symm
  have h0 := za7 hfr dst (some (Sum.inr (c.nx, 0)))
  have h1 : upO (fun i => if i = c.nx then w.heap.size else β i) (some (Sum.inr (c.nx, 0))) = ye w.heap.size := by simp [upO, up]
  rw [h1] at h0
  refine ⟨h0, ?_, R.loc _ _ I.hJ (zi.of_below hb), ?_, ?_, ?_, ?_, ?_⟩
  · cases dst <;> exact I.df
  · intro p hp
    rcases List.mem_cons.1 hp with rfl | hp
    · simp only [if_true]; exact zb.last rfl
    · have := (I.row p hp).below hb
      simp only [hβ _ (I.lt p hp)]
      exact this
  · intro p hp
    rcases List.mem_cons.1 hp with rfl | hp
    · simp only [if_true]; exact fun h => Nat.lt_irrefl _ (R.lt w _ I.hJ h)
    · simp only [hβ _ (I.lt p hp)]; exact I.dis p hp
  · intro p hp
    rcases List.mem_cons.1 hp with rfl | hp
    · exact Nat.lt_succ_self _
    · exact Nat.lt_succ_of_lt (I.lt p hp)
  · intro p hp q hq hpq
    have hrow : ∀ p ∈ c.rows, β p.1 < w.heap.size := fun p hp => (I.row p hp).lt
    rcases List.mem_cons.1 hp with rfl | hp
    · rcases List.mem_cons.1 hq with rfl | hq
      · exact absurd rfl hpq
      · simp only [if_true, hβ _ (I.lt q hq)]
        have := hrow q hq
        omega
    · rcases List.mem_cons.1 hq with rfl | hq
      · simp only [if_true, hβ _ (I.lt p hp)]
        have := hrow p hp
        omega
      · simp only [hβ _ (I.lt p hp), hβ _ (I.lt q hq)]
        exact I.inj p hp q hq hpq
  · have h2 : xo c.tm (c.nx + 1) = true := by
      have := I.ids
      unfold xo at this ⊢
      rw [List.all_eq_true] at this ⊢
      intro x hx
      have := this x hx
      rcases x with _ | v | ⟨i, o⟩
      · rfl
      · rfl
      · simp only [decide_eq_true_eq] at this ⊢; omega
    exact zag h2 dst (by intro i o h; simp only [Option.some.injEq, Sum.inr.injEq, Prod.mk.injEq] at h; omega)
theorem grow_setRow {F : Nat → Prop} (w : World) (g : Nat) (r : Array Value) (h : ¬ F g) : zi F w (w.setRow g r) := by
  refine ⟨rfl, rfl, rfl, by simp, fun k hk hF => setRow_other w g k _ (fun e => h (by rw [← e]; exact hF))⟩
theorem SI.stored (I : SI J F ds β c a w) (R : yw J F) (dst : Option Tmp) {id : Nat} {r r' : Array Value} (hr : y9 c.rows id = some r) :
    SI J F ds β { c with rest := c.rest.tail, tm := putQ c.tm dst none, rows := c.rows.map fun p => if p.1 = id then (p.1, r') else p } (a.put dst undef) (w.setRow (β id) r') := by
  have hm := zy hr
  refine ⟨za7 I.fr dst none, ?_, R.loc _ _ I.hJ (grow_setRow w _ _ (I.dis _ hm)), ?_, ?_, ?_, ?_, zag I.ids dst (by intro i o h; cases h)⟩
  · cases dst <;> exact I.df
  · intro p hp
    obtain ⟨q, hq, e, ⟨h1, h2⟩ | ⟨h1, rfl⟩⟩ := qh id r' p hp
    · rw [h1, h2]; exact (I.row _ hm).set_same r'
    · exact (I.row p hq).set_other r' (fun e => I.inj p hq _ hm h1 e.symm)
  · intro p hp
    obtain ⟨q, hq, e, _⟩ := qh id r' p hp
    rw [← e]; exact I.dis q hq
  · intro p hp
    obtain ⟨q, hq, e, _⟩ := qh id r' p hp
    rw [← e]; exact I.lt q hq
  · intro p hp q hq hpq
    obtain ⟨p', hp', e1, _⟩ := qh id r' p hp
    obtain ⟨q', hq', e2, _⟩ := qh id r' q hq
    rw [← e1, ← e2]
    rw [← e1, ← e2] at hpq
    exact I.inj p' hp' q' hq' hpq
abbrev Agree (n : Nat) (β β' : Nat → Nat) : Prop := ∀ i, i < n → β' i = β i
theorem zbb (hd : c.dn = none) {rest : List Oper} (hr : c.rest = o :: rest) (hw : Region.wanted o (yielded c.ops a.tmps) = true) (h : o.wp P a w (wpL P c.ops (QK P Q c.ks) rest) (QK P Q c.ks)) : At P Q c a w := by
  refine ⟨?_⟩
  unfold AtD
  rw [hd, hr]
  simp only [wpL, hw, if_true]
  exact h
theorem opQ_ok (Y : Ty P fo io ze) (R : yw J F) (hT : ∀ w, J w → T w) {fs fs' : List (Fa P T)} {e : List (Value × Value)} (h : opQ P fo io ze T fs c o = some (c', fs', e)) (he : ∀ p ∈ e, p.1 = p.2) (I : SI J F ds β c a w)
    (hd : c.dn = none) {rest : List Oper} (hr : c.rest = o :: rest) (hw : Region.wanted o (yielded c.ops a.tmps) = true)
    (k : ∀ β' a' w', SI J F ds β' c' a' w' → Agree c.nx β β' → At P Q c' a' w') : At P Q c a w := by
  refine zbb hd hr hw ?_
  have cont : ∀ (cc : Cf) (a' : Act) (w' : World), cc.dn = none → cc.ops = c.ops → cc.ks = c.ks → cc.rest = rest → At P Q cc a' w' → wpL P c.ops (QK P Q c.ks) rest a' w' := by
    intro cc a' w' h1 h2 h3 h4 h5
    replace h5 := h5.out
    unfold AtD at h5
    rw [h1, h2, h3, h4] at h5
    exact h5
  have nat : ∀ {s : SV}, natQ P fo io c.tm c.rows o.op = some s → (qz c o.dst (some s), fs, ([] : List (Value × Value))) = (c', fs', e) → o.wp P a w (wpL P c.ops (QK P Q c.ks) rest) (QK P Q c.ks) := by
    intro s hs h
    cases h
    refine natQ_ok Y I hs fun w' hb => ?_
    refine cont _ _ _ ?_ ?_ ?_ ?_ (k β _ w' (I.put R o.dst (s := some s) (fun i o h => by cases h; exact natQ_ids I.ids hs) hb) fun i _ => rfl)
    · exact hd
    · rfl
    · rfl
    · simp [qz, hr]
  have val : ∀ {v : Value}, (qz c o.dst (some (Sum.inl v)), fs', e) = (c', fs', e) → o.wp P a w (fun a'' w'' => a'' = a.put o.dst v ∧ Below w.heap.size w w'') (QK P Q c.ks) → o.wp P a w (wpL P c.ops (QK P Q c.ks) rest) (QK P Q c.ks) := by
    intro v h hv
    cases h
    refine Oper.wp_mono ?_ hv
    rintro a2 w2 ⟨rfl, hb⟩
    refine cont _ _ _ ?_ ?_ ?_ ?_ (k β _ w2 (I.put R o.dst (s := some (Sum.inl v)) (fun i o h => by cases h) hb) fun i _ => rfl)
    · exact hd
    · rfl
    · rfl
    · simp [qz, hr]
  unfold opQ at h
  split at h
  · next t hop =>
    split at h
    · next z hz =>
      cases h
      obtain ⟨t', ht⟩ := Y.hze t z hz a.eval o w hop
      refine xb ht ?_
      refine cont _ _ _ ?_ ?_ ?_ ?_ (k _ _ _ (I.fresh R o.dst z t') fun i hi => if_neg (by omega))
      · exact hd
      · rfl
      · rfl
      · simp [hr]
    · cases h
  · next t x hop =>
    split at h
    · next v hv =>
      cases h
      have ht : (execOp a.eval o).run P w = .ok (.value (ye w.heap.size)) (w.alloc (.cells v.cells t)) := by
        unfold execOp
        simp only [hop, xn I.fr (zp hv), up, Sem.run_bind, Instr.box, newVar, newRow, run_newObj_alloc, Sem.run_pure, Result.andThen_ok]
      refine xb ht ?_
      refine cont _ _ _ ?_ ?_ ?_ ?_ (k _ _ _ (I.fresh R o.dst v.cells t) fun i hi => if_neg (by omega))
      · exact hd
      · rfl
      · rfl
      · simp [hr]
    · cases h
  · next ty x y hop =>
    split at h
    · next id off v hx hy =>
      split at h
      · next r hrow =>
        split at h
        · next hf =>
          cases h
          obtain ⟨f1, f2, f3⟩ := fits_ok hf
          refine Oper.wp_mono ?_ (v5 ty x y hop (xn I.fr hx) (xn I.fr (zp hy)) rfl (I.row _ (zy hrow)) f1 f2 f3 rfl)
          rintro a2 w2 ⟨rfl, rfl⟩
          refine cont _ _ _ ?_ ?_ ?_ ?_ (k β _ _ (I.stored R o.dst hrow) fun i _ => rfl)
          · exact hd
          · rfl
          · rfl
          · simp [hr]
        · cases h
      · cases h
    · cases h
  · split at h
    · next s hs => simp only [Option.some.injEq] at h; exact nat hs h
    · next hs =>
      split at h
      · next f fs1 =>
        split at h
        · next g xs ts hop =>
          split at h
          · next hf =>
            subst hf
            cases hm : (xs.toList.mapM fun x => plain (evQ c.tm x)) with
            | none => rw [hm] at h; cases h
            | some vs =>
              rw [hm] at h
              simp only [Option.map_some, Option.some.injEq] at h
              have h0 := h
              cases h
              have h1 := mapQ_ok I.fr hm
              have h2 := he _ (List.mem_singleton.2 rfl)
              simp only [Value.tuple.injEq] at h2
              refine val rfl (zae f.f xs ts hop (vs := f.args) ?_ (f.hr xs ts) (f.hc w (hT w I.hJ)))
              rw [← h2, ← h1]
              apply Array.ext'
              simp
          · cases h
        · cases h
      · next f fs1 =>
        split at h
        · next hf =>
          cases hm : ((vm o.op).mapM fun x => plain (evQ c.tm x)) with
          | none => rw [hm] at h; cases h
          | some vs =>
            rw [hm] at h
            simp only [Option.map_some, Option.some.injEq] at h
            cases h
            have h1 := mapQ_ok I.fr hm
            have h2 := he _ (List.mem_singleton.2 rfl)
            simp only [Value.tuple.injEq] at h2
            refine val rfl (xb (f.h a w o (.inr (hT w I.hJ)) hf (by rw [h1, h2])) ⟨rfl, Below.refl _ _⟩)
        · cases h
      · cases h
theorem condQ_ok (I : SI J F ds β c a w) {x : Operand} {b : Bool} (h : condV c.tm x = some b) : a.eval x = .bool b := by
  cases x with
  | tmp t =>
    simp only [condV] at h
    split at h
    · next b' hb =>
      cases h
      exact zbg I.fr (zp hb)
    · cases h
  | const v => cases v <;> simp [condV] at h; subst h; rfl
  | global g => simp [condV] at h
  | func f => simp [condV] at h
abbrev Er : Type := Array Oper × List Oper × List Ki × Option Exit
def AtE (P : Program) (Q : Exit → Act → World → Prop) (r : Er) (a : Act) (w : World) : Prop := match r.2.2.2 with
  | some e => Q e a w
  | none => wpL P r.1 (QK P Q r.2.2.1) r.2.1 a w
theorem exitQ_ok (id : Nat) : ∀ {ks : List Ki}, AtE P Q (xi.exitQ id ks) a w → QK P Q ks (.exit id) a w
  | [], h => h
  | Sum.inl x :: ks, h => exitQ_ok (ks := ks) id h
  | Sum.inr i :: ks, h => by
    simp only [QK, Exit.inBlock]
    by_cases hi : id = i
    · rw [if_pos hi]
      simp only [xi.exitQ, if_pos hi] at h
      exact h
    · rw [if_neg hi]
      simp only [xi.exitQ, if_neg hi] at h
      exact exitQ_ok (ks := ks) id h
theorem retQ_ok : ∀ {ks : List Ki}, Q .ret a w → QK P Q ks .ret a w
  | [], h => h
  | Sum.inl x :: ks, h => retQ_ok (ks := ks) h
  | Sum.inr i :: ks, h => retQ_ok (ks := ks) h
theorem k8 {ch : List PanicEntry} : ∀ {ks : List Ki}, Q (.panic ch) a w → QK P Q ks (.panic ch) a w
  | [], h => h
  | Sum.inl x :: ks, h => k8 (ks := ks) h
  | Sum.inr i :: ks, h => k8 (ks := ks) h
theorem zbk (I : SI J F ds β c a w) : ∀ {x : Code} {ks : List Ki} {r : Er}, xi c.tm x ks = some r → AtE P Q r a w → x.wp P (QK P Q ks) a w
  | .skip, ks, r, h, k => by simp only [xi, Option.some.injEq] at h; subst h; exact wp_skip k
  | .region id ops false, ks, r, h, k => by
    simp only [xi, Option.some.injEq] at h
    subst h
    have : wpL P ops.toList.toArray (QK P Q ks) ops.toList a w := by simpa [AtE] using k
    have := wp_region_lit (id := id) (wpL_list this)
    simpa using this
  | .region id ops true, ks, r, h, k => by simp only [xi, Option.some.injEq] at h; subst h; exact k
  | .seq x y, ks, r, h, k => by
    simp only [xi] at h
    exact wp_seq (zbk I (ks := Sum.inl y :: ks) h k)
  | .cond cc x y, ks, r, h, k => by
    simp only [xi] at h
    split at h
    · next hc => exact wp_cond_true (condQ_ok I hc) (zbk I h k)
    · next hc => exact wp_cond_false (condQ_ok I hc) (zbk I h k)
    · cases h
  | .block id x, ks, r, h, k => by
    simp only [xi] at h
    exact wp_block (zbk I (ks := Sum.inr id :: ks) h k)
  | .exit id, ks, r, h, k => by
    simp only [xi, Option.some.injEq] at h
    subst h
    exact wp_exit (exitQ_ok id k)
  | .ret, ks, r, h, k => by
    simp only [xi, Option.some.injEq] at h
    subst h
    exact wp_ret (retQ_ok k)
  | .loop x, ks, r, h, k => by simp only [xi, Option.some.injEq] at h; subst h; exact k
  | .rangeFunc f ps x y, ks, r, h, k => by simp [xi] at h
  | .scope x, ks, r, h, k => by simp [xi] at h
  | .label l, ks, r, h, k => by simp [xi] at h
  | .goto l, ks, r, h, k => by simp [xi] at h
  | .refuse l, ks, r, h, k => by simp [xi] at h
theorem SI.cf (I : SI J F ds β c a w) (h1 : c'.tm = c.tm) (h2 : c'.rows = c.rows) (h3 : c'.nx = c.nx) : SI J F ds β c' a w := by
  refine ⟨by rw [h1]; exact I.fr, I.df, I.hJ, ?_, ?_, ?_, ?_, by rw [h1, h3]; exact I.ids⟩ <;> rw [h2]
  · exact I.row
  · exact I.dis
  · rw [h3]; exact I.lt
  · exact I.inj
theorem stepQ_ok (Y : Ty P fo io ze) (R : yw J F) (hT : ∀ w, J w → T w) {fs fs' : List (Fa P T)} {e : List (Value × Value)} (h : stepQ P fo io ze T fs c = some (c', fs', e)) (he : ∀ p ∈ e, p.1 = p.2) (I : SI J F ds β c a w)
    (k : ∀ β' a' w', SI J F ds β' c' a' w' → Agree c.nx β β' → At P Q c' a' w') : At P Q c a w := by
  unfold stepQ at h
  split at h
  · cases h
  · next hd =>
    split at h
    · next o rest hr =>
      split at h
      · next hw => exact opQ_ok Y R hT h he I hd hr (v7 I hw) k
      · next hw =>
        simp only [Option.some.injEq, Prod.mk.injEq] at h
        obtain ⟨rfl, rfl, rfl⟩ := h
        have := k β _ w (I.put R o.dst (s := none) (fun i o h => by cases h) (Below.refl _ _)) fun i _ => rfl
        replace this := this.out
        refine ⟨?_⟩
        unfold AtD at this ⊢
        simp only [qz, hd, hr, List.tail_cons] at this
        rw [hd, hr]
        simp only [wpL, v7 I hw]
        exact this
      · cases h
    · next hr =>
      split at h
      · next hk =>
        simp only [Option.some.injEq, Prod.mk.injEq] at h
        obtain ⟨rfl, rfl, rfl⟩ := h
        have := k β a w (I.cf rfl rfl rfl) fun i _ => rfl
        replace this := this.out
        refine ⟨?_⟩
        unfold AtD at this ⊢
        rw [hd, hr, hk]
        exact this
      · next id ks hk =>
        simp only [Option.some.injEq, Prod.mk.injEq] at h
        obtain ⟨rfl, rfl, rfl⟩ := h
        have := k β a w (I.cf rfl rfl rfl) fun i _ => rfl
        replace this := this.out
        refine ⟨?_⟩
        unfold AtD at this ⊢
        simp only [hd, hr] at this
        rw [hd, hr, hk]
        exact this
      · next x ks hk =>
        split at h
        · cases h
        cases hx : xi c.tm x ks with
        | none => rw [hx] at h; cases h
        | some r =>
          rw [hx] at h
          simp only [Option.map_some, Option.some.injEq, Prod.mk.injEq] at h
          obtain ⟨rfl, rfl, rfl⟩ := h
          have := k β a w (I.cf rfl rfl rfl) fun i _ => rfl
          refine ⟨?_⟩
          unfold AtD
          rw [hd, hr, hk]
          refine zbk I hx ?_
          exact this.out
theorem opQ_nx {fs fs' : List (Fa P T)} {e : List (Value × Value)} (h : opQ P fo io ze T fs c o = some (c', fs', e)) : c.nx ≤ c'.nx := by
  unfold opQ at h
  split at h
  · split at h
    · cases h; exact Nat.le_succ _
    · cases h
  · split at h
    · cases h; exact Nat.le_succ _
    · cases h
  · split at h
    · split at h
      · split at h
        · cases h; exact Nat.le_refl _
        · cases h
      · cases h
    · cases h
  · split at h
    · cases h; exact Nat.le_refl _
    · split at h
      · split at h
        · split at h
          · simp only [Option.map_eq_some_iff] at h
            obtain ⟨vs, _, h⟩ := h
            cases h; exact Nat.le_refl _
          · cases h
        · cases h
      · split at h
        · simp only [Option.map_eq_some_iff] at h
          obtain ⟨vs, _, h⟩ := h
          cases h; exact Nat.le_refl _
        · cases h
      · cases h
theorem stepQ_nx {fs fs' : List (Fa P T)} {e : List (Value × Value)} (h : stepQ P fo io ze T fs c = some (c', fs', e)) : c.nx ≤ c'.nx := by
  unfold stepQ at h
  split at h
  · cases h
  · split at h
    · split at h
      · exact opQ_nx h
      · cases h; exact Nat.le_refl _
      · cases h
    · split at h
      · cases h; exact Nat.le_refl _
      · cases h; exact Nat.le_refl _
      · split at h
        · cases h
        simp only [Option.map_eq_some_iff] at h
        obtain ⟨r, _, h⟩ := h
        cases h; exact Nat.le_refl _
theorem runQ_ok (Y : Ty P fo io ze) (R : yw J F) (hT : ∀ w, J w → T w) : ∀ (n : Nat) {fs : List (Fa P T)} {c : Cf} {β : Nat → Nat} {a : Act} {w : World}, (∀ p ∈ (runQ P fo io ze T n fs c).2.2, p.1 = p.2) → SI J F ds β c a w →
    (∀ β' a' w', SI J F ds β' (runQ P fo io ze T n fs c).1 a' w' → Agree c.nx β β' → At P Q (runQ P fo io ze T n fs c).1 a' w') → At P Q c a w
  | 0, fs, c, β, a, w, he, I, k => k β a w I fun _ _ => rfl
  | n + 1, fs, c, β, a, w, he, I, k => by
    unfold runQ at he k
    cases hs : stepQ P fo io ze T fs c with
    | none => rw [hs] at k; exact k β a w I fun _ _ => rfl
    | some r =>
      obtain ⟨c', fs', e⟩ := r
      rw [hs] at he k
      simp only [] at he k
      refine stepQ_ok Y R hT hs (fun p hp => he p (List.mem_append_left _ hp)) I fun β' a' w' I' hb => ?_
      have hnx : c.nx ≤ c'.nx := stepQ_nx hs
      exact runQ_ok Y R hT n (fun p hp => he p (List.mem_append_right _ hp)) I' fun β2 a2 w2 I2 hb2 => k β2 a2 w2 I2 fun i hi => (hb2 i (Nat.lt_of_lt_of_le hi hnx)).trans (hb i hi)
/-- As far as it goes by itself, and by facts. -/
abbrev rn (P : Program) {T : World → Prop} (fs : List (Fa P T)) (c : Cf) : Cf × List (Fa P T) × List (Value × Value) := runQ P (foV P) (ioV P) (zeV P) T 2000 fs c
theorem goQ (fs : List (Fa P fun _ => True)) (R : yw J F) (I : SI J F ds β c a w) (k : ∀ β' a' w', SI J F ds β' (rn P fs c).1 a' w' → Agree c.nx β β' → At P Q (rn P fs c).1 a' w') (hm : P.follows .mixedOrders = true := by kernel_rfl)
    (he : (rn P fs c).2.2.map (·.1) = (rn P fs c).2.2.map (·.2) := by kernel_rfl) : At P Q c a w :=
  runQ_ok (ty_ok hm) R (fun _ _ => trivial) 2000 (zb2 he) I k
/-- The same, where facts ask for what stays. -/
theorem goT (fs : List (Fa P T)) (R : yw J F) (hT : ∀ w, J w → T w) (I : SI J F ds β c a w) (k : ∀ β' a' w', SI J F ds β' (rn P fs c).1 a' w' → Agree c.nx β β' → At P Q (rn P fs c).1 a' w') (hm : P.follows .mixedOrders = true := by kernel_rfl)
    (he : (rn P fs c).2.2.map (·.1) = (rn P fs c).2.2.map (·.2) := by kernel_rfl) : At P Q c a w :=
  runQ_ok (ty_ok hm) R hT 2000 (zb2 he) I k
/-- The operation that is next. -/
def kq (c : Cf) : Option Oper := match c.dn, c.rest with
  | none, o :: _ => if wantQ c.ops c.tm o = some true then some o else none
  | _, _ => none
def yu (c : Cf) : Option Tmp := (c.rest.head?).bind (·.dst)
def xa (c : Cf) (v : Value) : Cf := qz c (yu c) (some (Sum.inl v))
theorem vq (h : kq c = some o) : c.dn = none ∧ (∃ rest, c.rest = o :: rest) ∧ wantQ c.ops c.tm o = some true := by
  unfold kq at h
  split at h
  · next o' rest hd hr =>
    split at h
    · next hw => cases h; exact ⟨hd, ⟨rest, hr⟩, hw⟩
    · cases h
  · cases h
theorem vstep (ho : kq c = some o) (I : SI J F ds β c a w) {v : Value} {w' : World} (hrun : (execOp a.eval o).run P w = .ok (.value v) w') (k : At P Q (xa c v) (a.put (yu c) v) w') : At P Q c a w := by
  obtain ⟨hd, ⟨rest, hr⟩, hw⟩ := vq ho
  refine zbb hd hr (v7 I hw) (xb hrun ?_)
  replace k := k.out
  unfold AtD at k
  simp only [xa, qz, hd, yu, hr, List.tail_cons, List.head?_cons, Option.bind_some] at k
  exact k
theorem SI.move {J' : World → Prop} {F' : Nat → Prop} {w' : World} (I : SI J F ds β c a w) (g : zi (fun k => ¬ F k) w w') (hJ : J' w') (hF : ∀ k, k < w.heap.size → F' k → F k) (dst : Option Tmp) (s : Option Value) : SI J' F' ds β (qz c dst (s.map Sum.inl)) (a.put dst (s.getD undef)) w' := by
  have hr : ∀ p ∈ c.rows, w'.heap[β p.1]? = w.heap[β p.1]? := fun p hp => g.block _ (I.row p hp).lt (I.dis p hp)
  have e : upO β (s.map Sum.inl) = s.getD undef := by cases s <;> rfl
  refine ⟨by rw [← e]; exact za7 I.fr dst _, ?_, hJ, ?_, fun p hp h => I.dis p hp (hF _ (I.row p hp).lt h), I.lt, I.inj, zag I.ids dst (by intro i o h; cases s <;> cases h)⟩
  · cases dst <;> exact I.df
  · intro p hp
    obtain ⟨t, ht⟩ := I.row p hp
    exact ⟨t, (hr p hp).trans ht⟩
theorem SI.moved {J' : World → Prop} {F' : Nat → Prop} {w' : World} (I : SI J F ds β c a w) (g : zi (fun k => ¬ F k) w w') (hJ : J' w') (hF : ∀ k, k < w.heap.size → F' k → F k) (v : Value) : SI J' F' ds β (xa c v) (a.put (yu c) v) w' := I.move g hJ hF (yu c) (some v)
theorem zi.refl (F : Nat → Prop) (w : World) : zi F w w := ⟨rfl, rfl, rfl, Nat.le_refl _, fun _ _ _ => rfl⟩
theorem SI.same (I : SI J F ds β c a w) (v : Value) : SI J F ds β (xa c v) (a.put (yu c) v) w := I.moved (zi.refl _ _) I.hJ (fun _ _ h => h) v
/-- The call that is next. -/
def callQ (c : Cf) : Option (Nat × List SV) := match kq c with
  | some o => match o.op with
    | .call { callee := .value (.func f), args := xs, argTypes := _ } => (xs.toList.mapM (evQ c.tm)).map fun ss => (f, ss)
    | _ => none
  | none => none
theorem mapS_ok {tm : Vs} (ha : a.tmps = (tm.map (upO β)).toArray) : ∀ {xs : List Operand} {ss : List SV}, xs.mapM (evQ tm) = some ss → xs.map a.eval = ss.map (up β)
  | [], vs, h => by simp at h; subst h; rfl
  | x :: xs, vs, h => by
    rw [List.mapM_cons] at h
    cases h1 : evQ tm x with
    | none => rw [h1] at h; simp at h
    | some v =>
      cases h2 : xs.mapM (evQ tm) with
      | none => rw [h1, h2] at h; simp at h
      | some us =>
        rw [h1, h2] at h
        simp at h
        subst h
        rw [List.map_cons, mapS_ok ha h2, xn ha h1]
        rfl
def CallE (P : Program) (Q : Exit → Act → World → Prop) (c : Cf) (a : Act) : Ending → World → Prop
  | .returned v, w' => At P Q (xa c v) (a.put (yu c) v) w'
  | .panicked ch, w' => Q (.panic ch) a w'
  | .outgrown, _ => False
theorem yp {f : Nat} {fn : Func} {ss : List SV} (hf : P.funcs[f]? = some fn) (I : SI J F ds β c a w) (h : Calls P f (ss.map (up β)).toArray w (CallE P Q c a)) (hc : callQ c = some (f, ss) := by kernel_rfl)
    (hb : fn.body.isNone = false := by kernel_rfl) (hn : (fn.name == "runtime.NumGoroutine") = false := by kernel_rfl) : At P Q c a w := by
  unfold callQ at hc
  split at hc
  · next o ho =>
    obtain ⟨hd, ⟨rest, hr⟩, hw⟩ := vq ho
    refine zbb hd hr (v7 I hw) ?_
    split at hc
    · next g xs ts hop =>
      simp only [Option.map_eq_some_iff, Prod.mk.injEq] at hc
      obtain ⟨ss', hm, rfl, rfl⟩ := hc
      have hx := mapS_ok I.fr hm
      have he : (execOp a.eval o).run P w = .ok (.enter g (xs.map a.eval)) w := by
        unfold execOp
        simp only [hop]
        exact fc_any hf hb hn xs ts a o.type w
      have hxa : xs.map a.eval = (ss'.map (up β)).toArray := by rw [← hx]; apply Array.ext'; simp
      unfold Oper.wp
      rw [he, hxa, Oper.upon_enter]
      refine h.mono fun e w' he => ?_
      cases e with
      | returned v =>
        have he' : At P Q (xa c v) (a.put (yu c) v) w' := he
        replace he' := he'.out
        unfold AtD at he'
        simp only [xa, qz, hd, yu, hr, List.tail_cons, List.head?_cons, Option.bind_some] at he'
        exact he'
      | panicked ch => exact k8 he
      | outgrown => exact he.elim
    · cases hc
  · cases hc
/-- The loop that is next. -/
def loopQ (c : Cf) : Option (Code × List Ki) := match c.dn, c.rest, c.ks with
  | none, [], Sum.inl (.loop x) :: ks => some (x, ks)
  | _, _, _ => none
theorem lpQ {x : Code} {ks : List Ki} (hc : loopQ c = some (x, ks)) (St : Nat → Act → World → Prop)
    (step : ∀ i a w, St i a w → x.wp P (Exit.then (fun a' w' => ∃ j, j < i ∧ St j a' w') (QK P Q ks)) a w) {i : Nat} (h : St i a w) : At P Q c a w := by
  unfold loopQ at hc
  split at hc
  · next x' ks' hd hr hk =>
    cases hc
    refine ⟨?_⟩
    unfold AtD
    rw [hd, hr, hk]
    show (Code.loop x).wp P (QK P Q ks) a w
    have key : ∀ (k i : Nat) (a : Act) (w : World), i ≤ k → St i a w → Code.rounds P x (QK P Q ks) (k + 1) a w := by
      intro k
      induction k with
      | zero =>
        intro i a w hi hs
        rw [rounds_succ]
        refine Code.wp_mono (fun e a' w' h => ?_) (step i a w hs)
        cases e <;> first | (obtain ⟨j, hj, _⟩ := h; omega) | exact h
      | succ k ih =>
        intro i a w hi hs
        rw [rounds_succ]
        refine Code.wp_mono (fun e a' w' h => ?_) (step i a w hs)
        cases e <;> first | (obtain ⟨j, hj, h⟩ := h; exact ih j a' w' (by omega) h) | exact h
    exact wp_loop_rounds (i + 1) (key i i a w (Nat.le_refl _) h)
  · cases hc
/-- A code from its head. -/
abbrev cfC (x : Code) (tm : Vs) (rows : Rows) (nx : Nat) : Cf := { ops := #[], rest := [], ks := [Sum.inl x], tm := tm, rows := rows, nx := nx, dn := none }
theorem zv {x : Code} {tm : Vs} {rows : Rows} {nx : Nat} (h : At P Q (cfC x tm rows nx) a w) : x.wp P Q a w := h.out
abbrev cfE (r : Er) (tm : Vs) (rows : Rows) (nx : Nat) : Cf := { ops := r.1, rest := r.2.1, ks := r.2.2.1, tm := tm, rows := rows, nx := nx, dn := r.2.2.2 }
/-- Out of a block. -/
theorem outB {ks : List Ki} {id : Nat} {tm : Vs} {rows : Rows} {nx : Nat} (h : At P Q (cfE (xi.exitQ id ks) tm rows nx) a w) : QK P Q ks (.exit id) a w := exitQ_ok id h.out
/-- A function from its head. -/
abbrev cfF (fn : Func) (args : Array Value) : Cf := cfC (fn.body.getD .skip) (begX fn args).1 [] 0
theorem inQ {f : Nat} {fn : Func} {args : Array Value} {Rt : Ending → World → Prop} (hf : P.funcs[f]? = some fn) (hJ : J w)
    (k : ∀ a, SI J F [] (fun _ => 0) (cfF fn args) a w → At P (bodyPost P fn Rt) (cfF fn args) a w) (hb : fn.body.isSome = true := by kernel_rfl) : Calls P f args w Rt := by
  have hb' : fn.body = some (fn.body.getD .skip) := by
    cases h : fn.body with
    | none => rw [h] at hb; cases hb
    | some x => rfl
  refine calls_of_wp hf hb' (zv (k _ ⟨?_, rfl, hJ, ?_, ?_, ?_, ?_, ?_⟩))
  · apply Array.ext'
    simp [begX, upO]
    exact (List.map_id _).symm
  · intro p hp; cases hp
  · intro p hp; cases hp
  · intro p hp; cases hp
  · intro p hp; cases hp
  · simp [begX, xo]
theorem SI.inv (I : SI J F ds β c a w) : Inv (w, 0, β, ds) { w with heap := #[] } β c.tm c.rows c.nx a w :=
  ⟨I.fr, I.df, ⟨rfl, rfl, rfl, Nat.zero_le _, fun k hk => absurd hk (Nat.not_lt_zero k)⟩, I.row, fun p hp => Nat.zero_le _, I.lt, I.inj, ⟨Nat.le_refl _, fun k o h _ => h⟩, Nat.zero_le _, fun i h => absurd h (Nat.not_lt_zero i)⟩
theorem zh {fn : Func} {v : Value} {Rt : Ending → World → Prop} (I : SI J F [] β c a w) (h : Rt (.returned v) w) (hr : resX P fn (c.tm, c.rows, c.nx) = some v := by kernel_rfl) (hd : (c.dn = some .ret ∨ c.dn = some .normal) := by first | exact .inl (by kernel_rfl) | exact .inr (by kernel_rfl)) : At P (bodyPost P fn Rt) c a w := by
  have hres := resX_ok (st := (c.tm, c.rows, c.nx)) I.inv hr
  refine ⟨?_⟩
  unfold AtD
  rcases hd with hd | hd <;> rw [hd] <;> exact ⟨I.df, v, hres, h⟩
end
theorem inZ{P:Program}{w:World}{f:Nat}{fn:Func}{args:Array Value}{Rt:Ending→World→Prop}(hf:P.funcs[f]? = some fn)(k:∀ a,SI (Below w.heap.size w) (· < w.heap.size) [] (fun _=>0) (cfF fn args) a w→At P (bodyPost P fn Rt) (cfF fn args) a w)(hb:fn.body.isSome=true:=by kernel_rfl):Calls P f args w Rt:=inQ hf (Below.refl _ _) k hb
theorem xj{P:Program}{N w:World}{F:Nat→Prop}{β:Nat→Nat}{c:Cf}{a:Act}{fn:Func}{v:Value}(I:SI (Below N.heap.size N) F [] β c a w)(hr:resX P fn (c.tm,c.rows,c.nx)=some v:=by kernel_rfl)(hd:(c.dn=some .ret∨c.dn=some .normal):=by first | exact .inl (by kernel_rfl) | exact .inr (by kernel_rfl)):At P (bodyPost P fn fun e w'=>e=.returned v∧Below N.heap.size N w') c a w:=zh I ⟨rfl,I.hJ⟩ hr hd
end Go.Proofs.YtdeompgdhaomgaaGreatDoor
