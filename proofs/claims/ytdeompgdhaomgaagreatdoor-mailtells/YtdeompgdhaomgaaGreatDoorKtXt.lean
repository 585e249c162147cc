/- Out of Xt. -/
import Derived.Test.YtdeompgdhaomgaaGreatDoorKtXs
namespace Go.Proofs.YtdeompgdhaomgaaGreatDoor
open Go.RowKit Go.Sort Tryz
set_option linter.unusedVariables false
set_option maxRecDepth 100000
set_option maxHeartbeats 4000000
/-- Operations that may stand behind the quiet ones. -/
def tailOk : Op → Bool
  | .call { callee := .value (.func _), .. } => true
  | .call { callee := .builtin _, .. } => true
  | .store .. | .assign _ | .move _ | .nilCheck _ | .fieldAddr .. | .build .. | .buildSlice .. | .binOp .. | .load .. | .convert .. | .unOp .. => true
  | _ => false
def zba : Op → List Operand
  | .call c => c.args.toList
  | .store _ x y => [x, y]
  | .assign x | .move x | .nilCheck x | .fieldAddr _ x _ | .load _ x | .convert _ _ x | .unOp _ _ x => [x]
  | .binOp _ _ x y _ => [x, y]
  | .build _ ps | .buildSlice _ _ ps => ps.toList.map (·.2)
  | _ => []
theorem arr_congr {α : Type} {xs : Array Operand} {ρ ρ' : Operand → α} (h : ∀ x ∈ xs.toList, ρ x = ρ' x) : xs.map ρ = xs.map ρ' := by
  apply Array.ext'
  simp only [Array.toList_map]
  exact List.map_congr_left h
theorem pairs_congr {xs : Array (Nat × Operand)} {ρ ρ' : Operand → Value} (h : ∀ x ∈ xs.toList.map (·.2), ρ x = ρ' x) : (xs.map fun (i, x) => (i, ρ x)) = xs.map fun (i, x) => (i, ρ' x) := by
  apply Array.ext'
  simp only [Array.toList_map]
  refine List.map_congr_left fun p hp => ?_
  have := h p.2 (List.mem_map.2 ⟨p, hp, rfl⟩)
  obtain ⟨i, x⟩ := p
  simp only [] at this ⊢
  rw [this]
theorem execOp_congr {a a' : Act} {o : Oper} (h : tailOk o.op = true) (hx : ∀ x ∈ zba o.op, a.eval x = a'.eval x) : execOp a.eval o = execOp a'.eval o := by
  cases hop : o.op with
  | call c =>
    rw [hop] at h hx
    obtain ⟨callee, xs, ts⟩ := c
    have hm : xs.map a.eval = xs.map a'.eval := arr_congr hx
    cases callee with
    | value f =>
      cases f with
      | func f => unfold execOp; simp only [hop, resolve, hm]; rfl
      | _ => simp [tailOk] at h
    | builtin b => unfold execOp; simp only [hop, resolve, hm]
    | invoke r n => simp [tailOk] at h
  | store t x y =>
    rw [hop] at hx
    have h1 := hx x (by simp [zba])
    have h2 := hx y (by simp [zba])
    unfold execOp; simp only [hop, h1, h2]
  | binOp b t x y t2 =>
    rw [hop] at hx
    have h1 := hx x (by simp [zba])
    have h2 := hx y (by simp [zba])
    unfold execOp; simp only [hop, h1, h2]
  | assign x => rw [hop] at hx; have h1 := hx x (by simp [zba]); unfold execOp; simp only [hop, h1]
  | move x => rw [hop] at hx; have h1 := hx x (by simp [zba]); unfold execOp; simp only [hop, h1]
  | nilCheck x => rw [hop] at hx; have h1 := hx x (by simp [zba]); unfold execOp; simp only [hop, h1]
  | fieldAddr t x f => rw [hop] at hx; have h1 := hx x (by simp [zba]); unfold execOp; simp only [hop, h1]
  | load t x => rw [hop] at hx; have h1 := hx x (by simp [zba]); unfold execOp; simp only [hop, h1]
  | convert s t x => rw [hop] at hx; have h1 := hx x (by simp [zba]); unfold execOp; simp only [hop, h1]
  | unOp u t x => rw [hop] at hx; have h1 := hx x (by simp [zba]); unfold execOp; simp only [hop, h1]
  | build t ps => rw [hop] at hx; have h1 := pairs_congr hx; unfold execOp; simp only [hop, h1]
  | buildSlice t n ps => rw [hop] at hx; have h1 := pairs_congr hx; unfold execOp; simp only [hop, h1]
  | _ => rw [hop] at h; simp [tailOk] at h
/-- An exit by panic does not look at the frame's slots. -/
structure zd (Q : Exit → Act → World → Prop) : Prop where
  out : ∀ ch a a' w, a.defers = a'.defers → Q (.panic ch) a w → Q (.panic ch) a' w
theorem zd.post {P : Program} {fn : Func} {R : Ending → World → Prop} : zd (bodyPost P fn R) := ⟨fun ch a a' w h h1 => ⟨h ▸ h1.1, h1.2⟩⟩
theorem zd.qk {P : Program} {Q : Exit → Act → World → Prop} (h : zd Q) : ∀ {ks : List Ki}, zd (QK P Q ks)
  | [] => h
  | Sum.inl x :: ks => ⟨(zd.qk (ks := ks) h).out⟩
  | Sum.inr i :: ks => ⟨(zd.qk (ks := ks) h).out⟩
theorem upon_congr {P : Program} {o : Oper} {a a' : Act} {K K' : Act → World → Prop} {Q : Exit → Act → World → Prop} (hd : a.defers = a'.defers) (hQ : zd Q) (hK : ∀ ds v w, K ({ a with defers := ds }.put o.dst v) w → K' ({ a' with defers := ds }.put o.dst v) w) {r : Result Next}
    (h : o.upon P a K Q r) : o.upon P a' K' Q r := by
  have hK' : ∀ v w, K (a.put o.dst v) w → K' (a'.put o.dst v) w := fun v w h => by
    have := hK a.defers v w h
    rw [hd] at this
    exact this
  unfold Oper.upon at h ⊢
  split at h
  · exact hK' _ _ h
  · exact hK' _ _ h
  · rw [hd] at h; exact hK _ _ _ h
  · refine h.mono fun e w' he => ?_
    cases e with
    | returned v => exact hK' _ _ he
    | panicked ch => exact hQ.out _ _ _ _ hd he
    | outgrown => exact he
  · exact h.mono fun v w' he => hK' _ _ he
  · exact hQ.out _ _ _ _ hd h
  · exact h.elim
section
variable (P : Program) (T : World → Prop) (fo : Nat → Nat → Option Nat) (io : Nat → Int → Option Nat)
/-- Whether a quiet operation is run. -/
def wantD (ops : Array Oper) (vals : Vs) (k : Nat) (o : Oper) : Option Bool := match o.guard with
  | none => some true
  | some (j, b) => if ya ops k j = true ∧ ((ops[j]?).bind (·.dst)).isSome = true then match vals[j]? with
      | some (some (Sum.inl (.bool b'))) => some (b' == b)
      | some none => some false
      | _ => none
    else none
def qop (ops : Array Oper) (tm : Vs) (rows : Rows) (vals : Vs) (k : Nat) (o : Oper) (fa : Fa P T) : Option (Option SV × List (Value × Value)) :=
  match wantD ops vals k o with
  | some false => some (none, [])
  | none => none
  | some true => match fa with
    | Sum.inl _ => (natG P fo io (evS ops tm vals k) rows o.op).map fun s => (some s, [])
    | Sum.inr (Sum.inl f) => match o.op with
      | .call { callee := .value (.func g), args := xs, argTypes := ts } => if g = f.f then (xs.toList.mapM fun x => plain (evS ops tm vals k x)).map fun vs => (some (Sum.inl f.v), [(.tuple vs.toArray, .tuple f.args)]) else none
      | _ => none
    | Sum.inr (Sum.inr f) => if f.ok o.op = true then ((vm o.op).mapM fun x => plain (evS ops tm vals k x)).map fun vs => (some (Sum.inl f.v), [(.tuple vs.toArray, .tuple f.xs)]) else none
/-- The quiet operations, one by one: facts are taken where an operation is not told by itself. -/
def goD (ops : Array Oper) (tm : Vs) (rows : Rows) : List Oper → Nat → Vs → List (Fa P T) → Option (Vs × List (Fa P T) × List (Value × Value))
  | [], _, vals, _ => some (vals, [], [])
  | o :: os, k, vals, fs => match qop P T fo io ops tm rows vals k o (Sum.inl ()) with
    | some (s, e) => (goD ops tm rows os (k + 1) (vals ++ [s]) fs).map fun r => (r.1, Sum.inl () :: r.2.1, e ++ r.2.2)
    | none => match fs with
      | [] => none
      | f :: fs' => match qop P T fo io ops tm rows vals k o f with
        | some (s, e) => (goD ops tm rows os (k + 1) (vals ++ [s]) fs').map fun r => (r.1, f :: r.2.1, e ++ r.2.2)
        | none => none
/-- An operation that reads memory, or calls. -/
def memB (o : Oper) (fa : Fa P T) : Bool := match fa, o.op with
  | Sum.inl _, .load .. => true
  | Sum.inr (Sum.inl _), _ => true
  | Sum.inr (Sum.inr f), _ => !f.fr
  | _, _ => false
end
def ancB (ops : Array Oper) : Nat → Nat → Nat → Bool
  | 0, _, _ => false
  | n + 1, k, j => ya ops k j || (List.range k).any fun i => ya ops k i && ancB ops n i j
/-- The operations behind the quiet ones come one by one, and wait for what they read. -/
def tailB (ops : Array Oper) (m : Nat) : Bool := qi ops && kn ops && (List.range ops.size).all fun n => decide (n < m) || (match ops[n]? with
  | some o => o.guard.isNone && tailOk o.op && (n == m || ya ops n (n - 1)) && (zba o.op).all fun x => match x with
    | .tmp t => match wr ops t with
      | some j => !decide (j < m) || ya ops n j
      | none => true
    | .const _ => true
    | _ => false
  | none => false)
def memOk {P : Program} {T : World → Prop} (ops : Array Oper) (m : Nat) (us : List (Fa P T)) : Bool := (List.range m).all fun j => !memB P T (yx ops j) (us[j]?.getD (Sum.inl ())) || m == ops.size || ancB ops ops.size m j
def tmD (ops : Array Oper) (m : Nat) (tm vals : Vs) : Vs := (List.range tm.length).map fun t => match wr ops t with
  | some j => if j < m then (vals[j]?).join else (tm[t]?).join
  | none => (tm[t]?).join
section
variable {P : Program} {T : World → Prop} {fo : Nat → Nat → Option Nat} {io : Nat → Int → Option Nat} {ze : Nat → Option (Array Value)} {ops : Array Oper} {tm : Vs} {rows : Rows}
theorem goD_spec : ∀ {os : List Oper} {k : Nat} {v0 vals : Vs} {fs us : List (Fa P T)} {e : List (Value × Value)}, v0.length = k → goD P T fo io ops tm rows os k v0 fs = some (vals, us, e) → (∀ p ∈ e, p.1 = p.2) →
    vals.length = k + os.length ∧ vals.take k = v0 ∧ ∀ j o, os[j]? = some o → ∃ s e', qop P T fo io ops tm rows (vals.take (k + j)) (k + j) o (us[j]?.getD (Sum.inl ())) = some (s, e') ∧ (∀ p ∈ e', p.1 = p.2) ∧ vals[k + j]? = some s
  | [], k, v0, vals, fs, us, e, hk, h, he => by
    simp only [goD, Option.some.injEq, Prod.mk.injEq] at h
    obtain ⟨rfl, rfl, rfl⟩ := h
    exact ⟨by simp [hk], by rw [← hk, List.take_length], fun j o ho => by simp at ho⟩
  | o :: os, k, v0, vals, fs, us, e, hk, h, he => by
    have main : ∀ {f : Fa P T} {s : Option SV} {e1 : List (Value × Value)} {fs' us' : List (Fa P T)} {e2 : List (Value × Value)}, qop P T fo io ops tm rows v0 k o f = some (s, e1) → goD P T fo io ops tm rows os (k + 1) (v0 ++ [s]) fs' = some (vals, us', e2) → us = f :: us' → e = e1 ++ e2 →
        vals.length = k + (o :: os).length ∧ vals.take k = v0 ∧ ∀ j o', (o :: os)[j]? = some o' → ∃ s e', qop P T fo io ops tm rows (vals.take (k + j)) (k + j) o' (us[j]?.getD (Sum.inl ())) = some (s, e') ∧ (∀ p ∈ e', p.1 = p.2) ∧ vals[k + j]? = some s := by
      intro f s e1 fs' us' e2 hq hg hu hee
      subst hu hee
      obtain ⟨h1, h2, h3⟩ := goD_spec (by simp [hk]) hg fun p hp => he p (List.mem_append_right _ hp)
      have ht : vals.take k = v0 := by
        have := congrArg (List.take k) h2
        rw [List.take_take, Nat.min_eq_left (Nat.le_succ k), List.take_append_of_le_length (by omega), ← hk, List.take_length] at this
        rw [← hk]; exact this
      refine ⟨by simp only [List.length_cons]; omega, ht, fun j o' ho => ?_⟩
      cases j with
      | zero =>
        simp only [List.getElem?_cons_zero, Option.some.injEq] at ho
        subst ho
        refine ⟨s, e1, ?_, fun p hp => he p (List.mem_append_left _ hp), ?_⟩
        · simp only [Nat.add_zero, ht, List.getElem?_cons_zero, Option.getD_some]; exact hq
        · have := congrArg (·[k]?) h2
          simp only [List.getElem?_take, Nat.lt_succ_self, if_true] at this
          rw [Nat.add_zero, this]
          simp [hk]
      | succ j =>
        obtain ⟨s', e', k1, k2, k3⟩ := h3 j o' (by simpa using ho)
        refine ⟨s', e', ?_, k2, ?_⟩
        · rw [show k + (j + 1) = k + 1 + j by omega]; simpa using k1
        · rw [show k + (j + 1) = k + 1 + j by omega]; exact k3
    simp only [goD] at h
    split at h
    · next s e1 hq =>
      simp only [Option.map_eq_some_iff, Prod.mk.injEq] at h
      obtain ⟨⟨v, u, e2⟩, hg, rfl, rfl, rfl⟩ := h
      exact main hq hg rfl rfl
    · split at h
      · cases h
      · next f fs' =>
        split at h
        · next s e1 hq =>
          simp only [Option.map_eq_some_iff, Prod.mk.injEq] at h
          obtain ⟨⟨v, u, e2⟩, hg, rfl, rfl, rfl⟩ := h
          exact main hq hg rfl rfl
        · cases h
theorem natF_run (Y : Ty P fo io ze) {β : Nat → Nat} {a : Act} {o : Oper} {ev : Operand → Option SV} (hev : ∀ x s, ev x = some s → a.eval x = up β s) (hl : ∀ t x, o.op ≠ .load t x) {s : SV} (h : natG P fo io ev rows o.op = some s) (w : World) : (execOp a.eval o).run P w = .ok (.value (up β s)) w := by
  cases hop : o.op with
  | move x => rw [hop] at h; unfold execOp; simp only [hop, hev _ _ h, Sem.run_pure]
  | assign x => rw [hop] at h; unfold execOp; simp only [hop, hev _ _ h, Sem.run_pure]
  | nilCheck x =>
    rw [hop] at h
    simp only [natG] at h
    unfold execOp
    split at h
    · next p hx => cases h; simp [hop, hev _ _ hx, up]
    · next b hx => cases h; simp [hop, hev _ _ hx, up]
    · cases h
  | pick cc x y =>
    rw [hop] at h
    simp only [natG] at h
    unfold execOp
    split at h
    · next hc => simp [hop, hev _ _ (zp hc), hev _ _ h, up, asBool]
    · next hc => simp [hop, hev _ _ (zp hc), hev _ _ h, up, asBool]
    · cases h
  | extract x i =>
    rw [hop] at h
    simp only [natG] at h
    unfold execOp
    split at h
    · next vs hx =>
      cases hv : vs[i]? with
      | none => rw [hv] at h; cases h
      | some v =>
        rw [hv] at h
        simp only [Option.map_some, Option.some.injEq] at h
        subst h
        simp [hop, hev _ _ (zp hx), up, Instr.extract, hv]
    · cases h
  | load t x => exact absurd hop (hl t x)
  | fieldAddr t x f =>
    rw [hop] at h
    simp only [natG] at h
    unfold execOp
    split at h
    · next id off hx =>
      cases hv : fo t f with
      | none => rw [hv] at h; cases h
      | some d =>
        rw [hv] at h
        simp only [Option.map_some, Option.some.injEq] at h
        subst h
        simp only [hop, hev _ _ hx, up, Sem.run_bind, Y.hfo t f d hv, Result.andThen_ok, Sem.run_pure]
    · next g off hx =>
      cases hv : fo t f with
      | none => rw [hv] at h; cases h
      | some d =>
        rw [hv] at h
        simp only [Option.map_some, Option.some.injEq] at h
        subst h
        simp only [hop, hev _ _ hx, up, Sem.run_bind, Y.hfo t f d hv, Result.andThen_ok, Sem.run_pure]
    · cases h
  | indexAddr t x y =>
    rw [hop] at h
    simp only [natG] at h
    unfold execOp
    split at h
    · next id off i hx hy =>
      cases hv : io t i with
      | none => rw [hv] at h; cases h
      | some d =>
        rw [hv] at h
        simp only [Option.map_some, Option.some.injEq] at h
        subst h
        simp only [hop, hev _ _ hx, hev _ _ (zp hy), up, Sem.run_bind, Y.hio t i d hv, Result.andThen_ok, Sem.run_pure]
    · cases h
  | _ => rw [hop] at h; simp [natG] at h
/-- What is at hand while a region is drawn. -/
structure DI (ops : Array Oper) (m : Nat) (β : Nat → Nat) (vals : Vs) (a : Act) (za : Array Bool) (a' : Act) : Prop where
  fs : a'.tmps.size = a.tmps.size
  un : ∀ t, wr ops t = none → a'.tmps[t]? = a.tmps[t]?
  qd : ∀ t j, wr ops t = some j → j < m → za.getD j false = true → t < a.tmps.size → a'.tmps[t]? = some (upO β (vals[j]?).join)
  qn : ∀ t j, wr ops t = some j → ¬ za.getD j false = true → a'.tmps[t]? = a.tmps[t]?
  wt : ∀ j k, ya ops k j = true → za.getD k false = true → za.getD j false = true
theorem DI.put {m : Nat} {β : Nat → Nat} {vals : Vs} {a a' : Act} {za : Array Bool} (D : DI ops m β vals a za a') (hB : kn ops = true) {i : Nat} {o : Oper} (ho : ops[i]? = some o) (hs : za.size = ops.size) (hi : i ∈ Region.ready .any ops za) (v : Value) (hv : i < m → v = upO β (vals[i]?).join) (ds : List Deferred) :
    DI ops m β vals a (za.setIfInBounds i true) ({ a' with defers := ds }.put o.dst v) := by
  have hun := zai hi hs
  have hd := qp hB ho
  have hsz : ({ a' with defers := ds }.put o.dst v : Act).tmps.size = a'.tmps.size := by unfold Act.put; split <;> simp
  have key : ∀ t, ({ a' with defers := ds }.put o.dst v : Act).tmps[t]? = if o.dst = some t ∧ t < a'.tmps.size then some v else a'.tmps[t]? := by
    intro t
    unfold Act.put
    split
    · next d hdd =>
      rw [hdd]
      simp only [Array.getElem?_setIfInBounds, Option.some.injEq]
      by_cases h : d = t
      · subst h
        by_cases hl : d < a'.tmps.size
        · simp [hl]
        · simp [hl]
      · simp [h]
    · next hdd => rw [hdd]; simp
  refine ⟨hsz.trans D.fs, fun t ht => ?_, fun t j hw hj hl ht => ?_, fun t j hw hl => ?_, fun j k hjk hk => ?_⟩
  · rw [key t, if_neg, D.un t ht]
    rintro ⟨h, _⟩
    rw [hd t h] at ht; cases ht
  · rw [key t]
    by_cases hji : j = i
    · subst hji
      have hdst : o.dst = some t := by
        have h2 : (ops[j]?).bind (·.dst) = some t := (zb4 hw).1
        rw [ho] at h2
        exact h2
      rw [if_pos ⟨hdst, by rw [D.fs]; exact ht⟩, hv hj]
    · rw [if_neg, D.qd t j hw hj ((zm hl).resolve_left hji) ht]
      rintro ⟨h, _⟩
      rw [hd t h] at hw; cases hw; exact hji rfl
  · have hji : j ≠ i := by
      rintro rfl
      have : j < ops.size := (Array.getElem?_eq_some_iff.1 ho).1
      exact hl (by rw [Array.getD_eq_getD_getElem?, Array.getElem?_setIfInBounds, if_pos rfl, if_pos (by omega)]; rfl)
    rw [key t, if_neg, D.qn t j hw (fun h => hl (z6 h))]
    rintro ⟨h, _⟩
    rw [hd t h] at hw; cases hw; exact hji rfl
  · rcases zm hk with rfl | hk
    · exact z6 (zk hjk hi)
    · exact z6 (D.wt j k hjk hk)
theorem evD_ok {m : Nat} {β : Nat → Nat} {vals : Vs} {a a' : Act} {za : Array Bool} (D : DI ops m β vals a za a') (hb : qi ops = true) (ha : a.tmps = (tm.map (upO β)).toArray) {i : Nat} (him : i < m) (hs : za.size = ops.size) (hi : i ∈ Region.ready .any ops za) {x : Operand} {s : SV} (h : evS ops tm (vals.take i) i x = some s) : a'.eval x = up β s := by
  have hun := zai hi hs
  have old : ∀ t, a'.tmps[t]? = a.tmps[t]? → (tm[t]?).join = some s → a'.eval (.tmp t) = up β s := by
    intro t ht hj
    rw [← zbg ha hj]
    show a'.tmps.getD t undef = a.tmps.getD t undef
    rw [Array.getD_eq_getD_getElem?, Array.getD_eq_getD_getElem?, ht]
  cases x with
  | const v => simp only [evS, Option.some.injEq] at h; subst h; rfl
  | tmp t =>
    simp only [evS] at h
    cases hw : wr ops t with
    | none => rw [hw] at h; exact old t (D.un t hw) h
    | some j =>
      rw [hw] at h
      simp only [] at h
      by_cases hn : newB ops tm.length i t j = true
      · rw [if_pos hn] at h
        simp only [newB, Bool.and_eq_true, beq_iff_eq, decide_eq_true_eq] at hn
        have hl := zk hn.1.2 hi
        have h2 := join_some h
        rw [List.getElem?_take] at h2
        split at h2
        · next hlt =>
          have h3 := D.qd t j hw (Nat.lt_trans hlt him) hl (by rw [ha]; simpa using hn.2)
          rw [h2] at h3
          show a'.tmps.getD t undef = up β s
          rw [Array.getD_eq_getD_getElem?, h3]
          rfl
        · cases h2
      · rw [if_neg hn] at h
        by_cases hq : ya ops j i = true
        · rw [if_pos hq] at h
          exact old t (D.qn t j hw fun hl => hun (D.wt i j hq hl)) h
        · rw [if_neg hq] at h; cases h
  | global g => simp [evS] at h
  | func f => simp [evS] at h
theorem wantD_ok {m : Nat} {β : Nat → Nat} {vals : Vs} {a a' : Act} {za : Array Bool} (D : DI ops m β vals a za a') {i : Nat} {o : Oper} (him : i < m) (hB : kn ops = true) (hdl : ∀ t j, wr ops t = some j → t < a.tmps.size) (hi : i ∈ Region.ready .any ops za) {b : Bool} (h : wantD ops (vals.take i) i o = some b) : Region.wanted o (yielded ops a'.tmps) = b := by
  unfold wantD at h
  unfold Region.wanted
  split at h
  · next hg => rw [hg]; cases h; rfl
  · next j b' hg =>
    rw [hg]
    simp only []
    split at h
    · next hj =>
      obtain ⟨hw, hd⟩ := hj
      obtain ⟨t, ht⟩ := Option.isSome_iff_exists.1 hd
      obtain ⟨oj, hoj, hojd⟩ : ∃ oj, ops[j]? = some oj ∧ oj.dst = some t := by
        cases hq : ops[j]? with
        | none => rw [hq] at ht; cases ht
        | some oj => rw [hq] at ht; exact ⟨oj, rfl, ht⟩
      have hwr := qp hB hoj t hojd
      have hl := zk hw hi
      have ey : ∀ s, (vals.take i)[j]? = some s → yielded ops a'.tmps j = (match upO β s with | .bool q => some q | _ => none) := by
        intro s hs
        rw [List.getElem?_take] at hs
        split at hs
        · next hlt =>
          have h3 := D.qd t j hwr (Nat.lt_trans hlt him) hl (hdl t j hwr)
          rw [hs] at h3
          unfold yielded
          rw [ht]
          simp only [Option.bind_some]
          rw [h3]
          simp only [Option.join_some]
          cases upO β s <;> rfl
        · cases hs
      split at h
      · next q hq => rw [ey _ hq]; cases h; cases q <;> cases b' <;> rfl
      · next hq => rw [ey _ hq]; cases h; cases b' <;> rfl
      · cases h
    · cases h
def dstB (ops : Array Oper) (n : Nat) : Bool := ops.all fun o => match o.dst with | some t => decide (t < n) | none => true
theorem dstB_ok {n : Nat} (h : dstB ops n = true) {t j : Nat} (hw : wr ops t = some j) : t < n := by
  obtain ⟨h1, h2⟩ := zb4 hw
  rw [Array.getElem?_eq_getElem h2] at h1
  unfold dstB at h
  have := Array.all_eq_true.1 h j h2
  simp only [Option.bind_some] at h1
  rw [h1] at this
  simpa using this
/-- The region that is next, and draws. -/
def drQ (c : Cf) : Option (Array Oper × List Ki) := match c.dn, c.rest, c.ks with
  | none, [], Sum.inl (.region _ ops true) :: ks => some (ops, ks)
  | _, _, _ => none
theorem ancB_ok {za : Array Bool} (wt : ∀ j k, ya ops k j = true → za.getD k false = true → za.getD j false = true) : ∀ {n k j : Nat}, ancB ops n k j = true → za.getD k false = true → za.getD j false = true
  | 0, k, j, h, _ => by simp [ancB] at h
  | n + 1, k, j, h, hk => by
    simp only [ancB, Bool.or_eq_true, List.any_eq_true, Bool.and_eq_true] at h
    rcases h with h | ⟨i, _, h1, h2⟩
    · exact wt j k h hk
    · exact ancB_ok wt h2 (wt i k h1 hk)
theorem ancB_ready {za : Array Bool} (wt : ∀ j k, ya ops k j = true → za.getD k false = true → za.getD j false = true) {n k j : Nat} (h : ancB ops n k j = true) (hk : k ∈ Region.ready .any ops za) : za.getD j false = true := by
  cases n with
  | zero => simp [ancB] at h
  | succ n =>
    simp only [ancB, Bool.or_eq_true, List.any_eq_true, Bool.and_eq_true] at h
    rcases h with h | ⟨i, _, h1, h2⟩
    · exact zk h hk
    · exact ancB_ok wt h2 (zk h1 hk)
theorem tail_spec {m : Nat} (h : tailB ops m = true) : qi ops = true ∧ kn ops = true ∧ ∀ n o, m ≤ n → ops[n]? = some o → o.guard = none ∧ tailOk o.op = true ∧ (n = m ∨ ya ops n (n - 1) = true) ∧ ∀ x ∈ zba o.op, (∃ v, x = .const v) ∨ ∃ t, x = .tmp t ∧ ∀ j, wr ops t = some j → j < m → ya ops n j = true := by
  unfold tailB at h
  simp only [Bool.and_eq_true] at h
  refine ⟨h.1.1, h.1.2, fun n o hn ho => ?_⟩
  have hlt : n < ops.size := (Array.getElem?_eq_some_iff.1 ho).1
  have h2 := List.all_eq_true.1 h.2 n (by simpa using hlt)
  rw [ho] at h2
  have hnm : decide (n < m) = false := by simp; omega
  simp only [hnm, Bool.false_or, Bool.and_eq_true, Bool.or_eq_true, beq_iff_eq, Option.isNone_iff_eq_none, List.all_eq_true] at h2
  refine ⟨h2.1.1.1, h2.1.1.2, h2.1.2, fun x hx => ?_⟩
  have h3 := h2.2 x hx
  cases x with
  | const v => exact .inl ⟨v, rfl⟩
  | tmp t =>
    refine .inr ⟨t, rfl, fun j hj hjm => ?_⟩
    simp only [hj] at h3
    simpa [hjm] using h3
  | global g => simp at h3
  | func f => simp at h3
theorem nat_drop {α : Type} {l : List α} {n : Nat} {x : α} (h : l[n]? = some x) : l.drop n = x :: l.drop (n + 1) := by
  obtain ⟨hn, rfl⟩ := List.getElem?_eq_some_iff.1 h
  exact List.drop_eq_getElem_cons hn
theorem drawQ {J : World → Prop} {F : Nat → Prop} {ds : List Deferred} {β : Nat → Nat} {c : Cf} {a : Act} {w : World} {Q : Exit → Act → World → Prop} (Y : Ty P fo io ze) (R : yw J F) (hT : ∀ w, J w → T w) (hQ : zd Q) (m : Nat) {ks : List Ki} {fs us : List (Fa P T)} {vals : Vs} {e : List (Value × Value)}
    (hc : drQ c = some (ops, ks)) (hg : goD P T fo io ops c.tm c.rows (ops.toList.take m) 0 [] fs = some (vals, us, e)) (he : ∀ p ∈ e, p.1 = p.2) (hml : m ≤ ops.size) (htl : tailB ops m = true) (hmo : memOk ops m us = true) (hds : dstB ops c.tm.length = true)
    (hids : xo (tmD ops m c.tm vals) c.nx = true) (I : SI J F ds β c a w)
    (k : ∀ a' w', SI J F ds β { ops := ops, rest := ops.toList.drop m, ks := ks, tm := tmD ops m c.tm vals, rows := c.rows, nx := c.nx, dn := none } a' w' → wpL P ops (QK P Q ks) (ops.toList.drop m) a' w') : At P Q c a w := by
  obtain ⟨hb, hB, htail⟩ := tail_spec htl
  obtain ⟨hvl, _, hspec⟩ := goD_spec (k := 0) (v0 := []) rfl hg he
  have hvl' : vals.length = m := by rw [hvl]; simp; omega
  have htm : a.tmps.size = c.tm.length := by rw [I.fr]; simp
  have hQ' : zd (QK P Q ks) := hQ.qk
  unfold drQ at hc
  split at hc
  · next rid ops' ks' hd hr hk =>
    cases hc
    refine ⟨?_⟩
    unfold AtD
    rw [hd, hr, hk]
    show (Code.region rid ops true).wp P (QK P Q ks) a w
    have dl : ∀ t j, wr ops t = some j → t < a.tmps.size := fun t j h => by rw [htm]; exact dstB_ok hds h
    -- the frame behind the quiet ones
    have full : ∀ (a' : Act) (w' : World) (za : Array Bool), DI ops m β vals a za a' → a'.defers = ds → Below w.heap.size w w' → ∃ b : Act, b.defers = a'.defers ∧ b.tmps = ((tmD ops m c.tm vals).map (upO β)).toArray ∧
        SI J F ds β { ops := ops, rest := ops.toList.drop m, ks := ks, tm := tmD ops m c.tm vals, rows := c.rows, nx := c.nx, dn := none } b w' := by
      intro a' w' za D hdd hbl
      exact ⟨{ tmps := ((tmD ops m c.tm vals).map (upO β)).toArray, defers := a'.defers }, rfl, rfl, rfl, hdd, R.loc w w' I.hJ (zi.of_below hbl), fun p hp => (I.row p hp).below hbl, I.dis, I.lt, I.inj, hids⟩
    have tmAt : ∀ t, t < a.tmps.size → ((tmD ops m c.tm vals).map (upO β)).toArray[t]? = match wr ops t with | some j => if j < m then some (upO β (vals[j]?).join) else a.tmps[t]? | none => a.tmps[t]? := by
      intro t ht
      have ht' : t < c.tm.length := by rw [← htm]; exact ht
      have e0 : a.tmps[t]? = some (upO β (c.tm[t]?).join) := by
        rw [I.fr]
        simp [List.getElem?_eq_getElem ht']
      simp only [List.getElem?_toArray, tmD, List.getElem?_map, List.getElem?_range ht', Option.map_some]
      cases wr ops t with
      | none => exact e0.symm
      | some j =>
        simp only []
        split
        · rfl
        · exact e0.symm
    let PB : Array Bool → Act → World → Prop := fun za a' w' => ∃ n b, m ≤ n ∧ n ≤ ops.size ∧ (∀ j, m ≤ j → (za.getD j false = true ↔ j < n)) ∧ (∀ j, j < m → memB P T (yx ops j) (us[j]?.getD (Sum.inl ())) = true → za.getD j false = true) ∧
      wpL P ops (QK P Q ks) (ops.toList.drop n) b w' ∧ b.defers = a'.defers ∧ b.tmps.size = a'.tmps.size ∧ (∀ t, (∀ j, wr ops t = some j → j < m → za.getD j false = true) → a'.tmps[t]? = b.tmps[t]?) ∧
      (∀ t j, wr ops t = some j → j < m → b.tmps[t]? = some (upO β (vals[j]?).join))
    let PA : Array Bool → Act → World → Prop := fun za a' w' => (∀ j, m ≤ j → ¬ za.getD j false = true) ∧ a'.defers = ds ∧ Below w.heap.size w w'
    -- from the quiet phase to the other
    have toB : ∀ (za : Array Bool) (a' : Act) (w' : World), DI ops m β vals a za a' → PA za a' w' → (∀ j, j < m → memB P T (yx ops j) (us[j]?.getD (Sum.inl ())) = true → za.getD j false = true) → PB za a' w' := by
      rintro za a' w' D ⟨h1, h2, h3⟩ h4
      obtain ⟨b, hb1, hb2, hS⟩ := full a' w' za D h2 h3
      have hbs : b.tmps.size = a.tmps.size := by rw [hb2, htm]; simp [tmD]
      refine ⟨m, b, Nat.le_refl _, hml, fun j hj => ⟨fun h => absurd h (h1 j hj), fun h => absurd h (by omega)⟩, h4, k b w' hS, hb1, hbs.trans D.fs.symm, fun t ht => ?_, fun t j hw hj => ?_⟩
      · by_cases htl : t < a.tmps.size
        · rw [hb2, tmAt t htl]
          cases hw : wr ops t with
          | none => exact D.un t hw
          | some j =>
            simp only []
            split
            · next hj => exact D.qd t j hw hj (ht j hw hj) htl
            · next hj => exact D.qn t j hw (h1 j (by omega))
        · rw [Array.getElem?_eq_none (by have := D.fs; omega), Array.getElem?_eq_none (by omega)]
      · rw [hb2, tmAt t (dl t j hw), hw]
        simp only []
        rw [if_pos hj]
    refine RegV.wp Y.hm ⟨hb, fun za a' w' => DI ops m β vals a za a' ∧ (PA za a' w' ∨ PB za a' w'), ?_, ?_, ?_⟩
    · intro w1 h1
      have hf : ∀ j, ¬ (Array.replicate ops.size false).getD j false = true := fun j h => by
        rw [Array.getD_eq_getD_getElem?, Array.getElem?_replicate] at h
        split at h <;> simp at h
      refine ⟨⟨rfl, fun t _ => rfl, fun t j _ _ h => absurd h (hf j), fun t j _ _ => rfl, fun j k _ h => absurd h (hf k)⟩, .inl ⟨fun j _ => hf j, I.df, ?_⟩⟩
      rcases h1 with rfl | rfl
      · exact Below.refl _ _
      · exact ⟨rfl, rfl, rfl, Nat.le_refl _, fun _ _ => rfl⟩
    · rintro za a' w' i o hs ho ⟨D, hAB⟩ hi
      have hun := zai hi hs
      have hio : i < ops.size := (Array.getElem?_eq_some_iff.1 ho).1
      have hoa : yx ops i = o := opAt_eq ho
      rcases Nat.lt_or_ge i m with him | him
      · -- a quiet one
        obtain ⟨s, e', hq, he', hvi⟩ := hspec i o (by rw [List.getElem?_take, if_pos him]; simpa using ho)
        rw [Nat.zero_add] at hq hvi
        have hvj : upO β (vals[i]?).join = upO β s := by rw [hvi]; rfl
        have stepA : ∀ v, v = upO β s → DI ops m β vals a (za.setIfInBounds i true) (a'.put o.dst v) := fun v hv => D.put hB ho hs hi v (fun _ => by rw [hvj]; exact hv) a'.defers
        have putD : ∀ v, (a'.put o.dst v).defers = a'.defers := fun v => by unfold Act.put; split <;> rfl
        have nextA : ∀ v w2, v = upO β s → Below w'.heap.size w' w2 → PA za a' w' → DI ops m β vals a (za.setIfInBounds i true) (a'.put o.dst v) ∧ (PA (za.setIfInBounds i true) (a'.put o.dst v) w2 ∨ PB (za.setIfInBounds i true) (a'.put o.dst v) w2) := by
          rintro v w2 hv hb2 ⟨h1, h2, h3⟩
          refine ⟨stepA v hv, .inl ⟨fun j hj h => ?_, (putD v).trans h2, h3.trans (hb2.mono h3.size)⟩⟩
          rcases zm h with rfl | h
          · omega
          · exact h1 j hj h
        have nextB : ∀ v, v = upO β s → PB za a' w' → DI ops m β vals a (za.setIfInBounds i true) (a'.put o.dst v) ∧ (PA (za.setIfInBounds i true) (a'.put o.dst v) w' ∨ PB (za.setIfInBounds i true) (a'.put o.dst v) w') := by
          rintro v hv ⟨n, b, h1, h2, h3, h4, h5, h6, h7, h8, h9⟩
          refine ⟨stepA v hv, .inr ⟨n, b, h1, h2, fun j hj => ?_, fun j hj hm => z6 (h4 j hj hm), h5, h6.trans (putD v).symm, ?_, fun t ht => ?_, h9⟩⟩
          · rw [← h3 j hj]
            exact ⟨fun h => (zm h).resolve_left (by omega), z6⟩
          · rw [h7]; unfold Act.put; split <;> simp
          · by_cases hdt : wr ops t = some i
            · rw [h9 t i hdt him, hvj]
              have := (stepA v hv).qd t i hdt him (ht i hdt him) (dl t i hdt)
              rw [this, hvj]
            · have e1 : (a'.put o.dst v).tmps[t]? = a'.tmps[t]? := by
                unfold Act.put
                split
                · next d hdd =>
                  have hne : d ≠ t := fun h => hdt (by rw [← h]; exact qp hB ho d hdd)
                  simp [hne]
                · rfl
              rw [e1]
              exact h8 t fun j hj hjm => (zm (ht j hj hjm)).resolve_left fun e => hdt (by rw [← e]; exact hj)
        unfold qop at hq
        split at hq
        · next hw =>
          cases hq
          have hnw := wantD_ok D him hB dl hi hw
          unfold wpG
          rw [hnw]
          simp only [Bool.false_eq_true, if_false]
          rcases hAB with hA | hB'
          · exact nextA undef w' rfl (Below.refl _ _) hA
          · exact nextB undef rfl hB'
        · cases hq
        · next hw =>
          have hnw := wantD_ok D him hB dl hi hw
          unfold wpG
          rw [hnw]
          simp only [if_true]
          have hev : ∀ x s, evS ops c.tm (vals.take i) i x = some s → a'.eval x = up β s := fun x s h => evD_ok D hb I.fr him hs hi h
          have hevL : ∀ {xs : List Operand} {vs : List Value}, (xs.mapM fun x => plain (evS ops c.tm (vals.take i) i x)) = some vs → xs.map a'.eval = vs := by
            intro xs
            induction xs with
            | nil => intro vs h; simp at h; subst h; rfl
            | cons x xs ih =>
              intro vs h
              rw [List.mapM_cons] at h
              cases h1 : plain (evS ops c.tm (vals.take i) i x) with
              | none => rw [h1] at h; simp at h
              | some v =>
                cases h2 : (xs.mapM fun x => plain (evS ops c.tm (vals.take i) i x)) with
                | none => rw [h1, h2] at h; simp at h
                | some us =>
                  rw [h1, h2] at h
                  simp at h
                  subst h
                  rw [List.map_cons, ih h2, hev _ _ (zp h1)]
                  rfl
          have memDone : memB P T o (us[i]?.getD (Sum.inl ())) = true → PB za a' w' → PA za a' w' := by
            rintro hmb ⟨n, b, h1, h2, h3, h4, _⟩
            exact (hun (h4 i him (by rw [hoa]; exact hmb))).elim
          split at hq
          · next hf =>
            simp only [Option.map_eq_some_iff, Prod.mk.injEq] at hq
            obtain ⟨sv, hn, rfl, rfl⟩ := hq
            by_cases hl : ∃ t x, o.op = .load t x
            · have hmb : memB P T o (us[i]?.getD (Sum.inl ())) = true := by
                obtain ⟨t, x, hop⟩ := hl
                unfold memB
                rw [hf, hop]
              have hA : PA za a' w' := hAB.elim id (memDone hmb)
              exact zb3 Y hev (fun id r h => (I.row _ (zy h)).below hA.2.2) hn fun w2 hb2 => nextA _ w2 rfl hb2 hA
            · have hrun := natF_run Y hev (fun t x h => hl ⟨t, x, h⟩) hn w'
              refine xb hrun ?_
              rcases hAB with hA | hB'
              · exact nextA _ w' rfl (Below.refl _ _) hA
              · exact nextB _ rfl hB'
          · next f hf =>
            have hmb : memB P T o (us[i]?.getD (Sum.inl ())) = true := by unfold memB; rw [hf]
            have hA : PA za a' w' := hAB.elim id (memDone hmb)
            split at hq
            · next g xs ts hop =>
              split at hq
              · next hfg =>
                subst hfg
                simp only [Option.map_eq_some_iff, Prod.mk.injEq] at hq
                obtain ⟨vs, hm2, rfl, rfl⟩ := hq
                have h1 := hevL hm2
                have h2 := he' _ (List.mem_singleton.2 rfl)
                simp only [Value.tuple.injEq] at h2
                refine Oper.wp_mono ?_ (zae f.f xs ts hop (vs := f.args) ?_ (f.hr xs ts) (f.hc w' (hT w' (R.loc w w' I.hJ (zi.of_below hA.2.2)))))
                · rintro a2 w2 ⟨rfl, hb2⟩
                  exact nextA _ w2 rfl hb2 hA
                · rw [← h2, ← h1]
                  apply Array.ext'
                  simp
              · cases hq
            · cases hq
          · next f hf =>
            split at hq
            · next hok =>
              simp only [Option.map_eq_some_iff, Prod.mk.injEq] at hq
              obtain ⟨vs, hm2, rfl, rfl⟩ := hq
              have h1 := hevL hm2
              have h2 := he' _ (List.mem_singleton.2 rfl)
              simp only [Value.tuple.injEq] at h2
              cases hfr : f.fr with
              | true =>
                refine xb (f.h a' w' o (.inl hfr) hok (by rw [h1, h2])) ?_
                rcases hAB with hA | hB'
                · exact nextA _ w' rfl (Below.refl _ _) hA
                · exact nextB _ rfl hB'
              | false =>
                have hmb : memB P T o (us[i]?.getD (Sum.inl ())) = true := by unfold memB; rw [hf]; simp only [hfr, Bool.not_false]
                have hA : PA za a' w' := hAB.elim (fun h => h) (memDone hmb)
                exact xb (f.h a' w' o (.inr (hT w' (R.loc w w' I.hJ (zi.of_below hA.2.2)))) hok (by rw [h1, h2])) (nextA _ w' rfl (Below.refl _ _) hA)
            · cases hq
      · -- one behind them
        obtain ⟨t1, t2, t3, t4⟩ := htail i o him ho
        have hBB : PB za a' w' := by
          rcases hAB with hA | hB'
          · refine toB za a' w' D hA fun j hj hmb => ?_
            have h5 := List.all_eq_true.1 hmo j (by simpa using hj)
            simp only [hmb, Bool.not_true, Bool.false_or, Bool.or_eq_true, beq_iff_eq] at h5
            rcases h5 with h5 | h5
            · omega
            · have him' : i = m := by
                rcases t3 with h | h
                · exact h
                · have h6 := zk h hi
                  rcases Nat.lt_or_ge (i - 1) m with h7 | h7
                  · omega
                  · exact absurd h6 (hA.1 _ h7)
              exact ancB_ready D.wt h5 (him' ▸ hi)
          · exact hB'
        obtain ⟨n, b, h1, h2, h3, h4, h5, h6, h7, h8, h9⟩ := hBB
        have hin : i = n := by
          have hge : n ≤ i := Nat.le_of_not_lt fun h => hun ((h3 i him).2 h)
          rcases Nat.eq_or_lt_of_le hge with h | h
          · exact h.symm
          · rcases t3 with h' | h'
            · omega
            · have h10 := zk h' hi
              rcases Nat.lt_or_ge (i - 1) m with h11 | h11
              · omega
              · have := (h3 (i - 1) h11).1 h10
                omega
        subst hin
        have hdr : ops.toList.drop i = o :: ops.toList.drop (i + 1) := nat_drop (by simpa using ho)
        rw [hdr] at h5
        unfold wpL at h5
        have hwn : ∀ x, Region.wanted o x = true := fun x => by unfold Region.wanted; rw [t1]
        rw [hwn, if_pos rfl] at h5
        unfold wpG
        rw [hwn, if_pos rfl]
        have hcg : execOp b.eval o = execOp a'.eval o := by
          refine execOp_congr t2 fun x hx => ?_
          rcases t4 x hx with ⟨v, rfl⟩ | ⟨t, rfl, ht⟩
          · rfl
          · show b.tmps.getD t undef = a'.tmps.getD t undef
            rw [Array.getD_eq_getD_getElem?, Array.getD_eq_getD_getElem?, h8 t fun j hj hjm => zk (ht j hj hjm) hi]
        unfold Oper.wp at h5 ⊢
        rw [← hcg]
        refine upon_congr h6 hQ' (fun dsv v w2 hK => ?_) h5
        refine ⟨D.put hB ho hs hi v (fun h => absurd h (by omega)) dsv, .inr ⟨i + 1, _, by omega, by omega, fun j hj => ?_, fun j hj hmb => z6 (h4 j hj hmb), hK, ?_, ?_, fun t ht => ?_, fun t j hw hj => ?_⟩⟩
        · by_cases hji : j = i
          · subst hji
            refine ⟨fun _ => Nat.lt_succ_self _, fun _ => ?_⟩
            rw [Array.getD_eq_getD_getElem?, Array.getElem?_setIfInBounds, if_pos rfl, if_pos (by omega)]
            rfl
          · have h12 := h3 j hj
            exact ⟨fun h => Nat.lt_succ_of_lt (h12.1 ((zm h).resolve_left hji)), fun h => z6 (h12.2 (by omega))⟩
        · unfold Act.put; split <;> rfl
        · unfold Act.put; split <;> simp [h7]
        · have hold : a'.tmps[t]? = b.tmps[t]? ∨ ∃ j, wr ops t = some j ∧ j < m := by
            by_cases hq : ∃ j, wr ops t = some j ∧ j < m
            · exact .inr hq
            · exact .inl (h8 t fun j hj hjm => absurd ⟨j, hj, hjm⟩ hq)
          have h8' : a'.tmps[t]? = b.tmps[t]? := by
            rcases hold with h | ⟨j, hj, hjm⟩
            · exact h
            · exact h8 t fun j' hj' hjm' => (zm (ht j' hj' hjm')).resolve_left (by omega)
          unfold Act.put
          split
          · next d hdd => simp only [Array.getElem?_setIfInBounds, h7, h8']
          · exact h8'
        · have : ({ b with defers := dsv }.put o.dst v : Act).tmps[t]? = b.tmps[t]? := by
            unfold Act.put
            split
            · next d hdd =>
              have hne : d ≠ t := fun h => by
                have := qp hB ho d hdd
                rw [h, hw] at this
                cases this
                omega
              simp [hne]
            · rfl
          rw [this]
          exact h9 t j hw hj
    · rintro za a' w' hs hall ⟨D, hAB⟩
      have hBB : PB za a' w' := by
        rcases hAB with hA | hB'
        · exact toB za a' w' D hA fun j hj _ => hall j (by omega)
        · exact hB'
      obtain ⟨n, b, h1, h2, h3, h4, h5, h6, h7, h8, h9⟩ := hBB
      have hn : n = ops.size := by
        rcases Nat.eq_or_lt_of_le h2 with h | h
        · exact h
        · have := (h3 n h1).1 (hall n h)
          omega
      have hab : a' = b := by
        have : a'.tmps = b.tmps := Array.ext_getElem? fun t => h8 t fun j hj hjm => hall j (by omega)
        cases a'; cases b
        simp only at this h6
        rw [this, h6]
      subst hab
      rw [hn, List.drop_eq_nil_of_le (by simp)] at h5
      exact h5
  · cases hc
end
section
variable {P : Program} {J : World → Prop} {F : Nat → Prop} {ds : List Deferred} {β : Nat → Nat} {c : Cf} {a : Act} {w : World} {Q : Exit → Act → World → Prop}
def dwX (P : Program) {T : World → Prop} (m : Nat) (fs : List (Fa P T)) (c : Cf) : Option (Cf × List (Value × Value)) :=
  match drQ c with
  | some (ops, ks) => match goD P T (foV P) (ioV P) ops c.tm c.rows (ops.toList.take m) 0 [] fs with
    | some (vals, us, e) => if (decide (m ≤ ops.size) && tailB ops m && memOk ops m us && dstB ops c.tm.length && xo (tmD ops m c.tm vals) c.nx) = true then
        some ({ ops := ops, rest := ops.toList.drop m, ks := ks, tm := tmD ops m c.tm vals, rows := c.rows, nx := c.nx, dn := none }, e) else none
    | none => none
  | none => none
abbrev dw (P : Program) {T : World → Prop} (m : Nat) (fs : List (Fa P T)) (c : Cf) : Cf := ((dwX P m fs c).map (·.1)).getD c
theorem dwT {T : World → Prop} (m : Nat) (fs : List (Fa P T)) (R : yw J F) (hT : ∀ w, J w → T w) (hQ : zd Q) (I : SI J F ds β c a w) (k : ∀ a' w', SI J F ds β (dw P m fs c) a' w' → At P Q (dw P m fs c) a' w') (hm : P.follows .mixedOrders = true := by kernel_rfl)
    (hs : (dwX P m fs c).isSome = true := by kernel_rfl) (he : (dwX P m fs c).map (fun r => r.2.map (·.1)) = (dwX P m fs c).map (fun r => r.2.map (·.2)) := by kernel_rfl) : At P Q c a w := by
  cases hx : dwX P m fs c with
  | none => rw [hx] at hs; cases hs
  | some r =>
    unfold dw at k
    rw [hx] at he k
    simp only [Option.map_some, Option.some.injEq, Option.getD_some] at he k
    unfold dwX at hx
    split at hx
    · next ops ks hc =>
      split at hx
      · next vals us e hg =>
        split at hx
        · next hb =>
          cases hx
          simp only [Bool.and_eq_true, decide_eq_true_eq] at hb
          exact drawQ (ty_ok hm) R hT hQ m hc hg (zb2 he) hb.1.1.1.1 hb.1.1.1.2 hb.1.1.2 hb.1.2 hb.2 I fun a' w' I' => (k a' w' I').out
        · cases hx
      · cases hx
    · cases hx
theorem dwQ (m : Nat) (fs : List (Fa P fun _ => True)) (R : yw J F) (hQ : zd Q) (I : SI J F ds β c a w) (k : ∀ a' w', SI J F ds β (dw P m fs c) a' w' → At P Q (dw P m fs c) a' w') (hm : P.follows .mixedOrders = true := by kernel_rfl)
    (hs : (dwX P m fs c).isSome = true := by kernel_rfl) (he : (dwX P m fs c).map (fun r => r.2.map (·.1)) = (dwX P m fs c).map (fun r => r.2.map (·.2)) := by kernel_rfl) : At P Q c a w := dwT m fs R (fun _ _ => trivial) hQ I k hm hs he
/-- A function from its head; its first argument may be a known row. -/
abbrev cfR (fn : Func) (ss : List SV) (rows : Rows) (nx : Nat) : Cf := cfC (fn.body.getD .skip) (ss.map some ++ List.replicate (fn.ntmps - ss.length) none) rows nx
theorem inR {f : Nat} {fn : Func} (ss : List SV) {rows : Rows} {nx : Nat} {Rt : Ending → World → Prop} (hf : P.funcs[f]? = some fn) (hJ : J w) (hr : ∀ p ∈ rows, zb w (β p.1) p.2) (hd : ∀ p ∈ rows, ¬ F (β p.1)) (hi : ∀ p ∈ rows, ∀ q ∈ rows, p.1 ≠ q.1 → β p.1 ≠ β q.1)
    (k : ∀ a, SI J F [] β (cfR fn ss rows nx) a w → At P (bodyPost P fn Rt) (cfR fn ss rows nx) a w) (hl : ∀ p ∈ rows, p.1 < nx := by decide) (hb : fn.body.isSome = true := by kernel_rfl) (hids : xo (ss.map some) nx = true := by kernel_rfl) : Calls P f (ss.map (up β)).toArray w Rt := by
  have hb' : fn.body = some (fn.body.getD .skip) := by
    cases h : fn.body with
    | none => rw [h] at hb; cases hb
    | some x => rfl
  refine calls_of_wp hf hb' (zv (k _ ⟨?_, rfl, hJ, hr, hd, hl, hi, ?_⟩))
  · apply Array.ext'
    simp [upO, Function.comp_def]
  · unfold xo at hids ⊢
    rw [List.all_append, hids]
    simp
theorem inG {f : Nat} {fn : Func} {g : Nat} {r : Array Value} (vs : List Value) {Rt : Ending → World → Prop} (hf : P.funcs[f]? = some fn) (hJ : J w) (hr : zb w g r) (hd : ¬ F g)
    (k : ∀ a, SI J F [] (fun _ => g) (cfR fn (Sum.inr (0, 0) :: vs.map Sum.inl) [(0, r)] 1) a w → At P (bodyPost P fn Rt) (cfR fn (Sum.inr (0, 0) :: vs.map Sum.inl) [(0, r)] 1) a w) (hb : fn.body.isSome = true := by kernel_rfl) (hids : xo ((Sum.inr (0, 0) :: vs.map Sum.inl).map some) 1 = true := by kernel_rfl) : Calls P f (ye g :: vs).toArray w Rt := by
  have h := inR (P := P) (J := J) (F := F) (β := fun _ => g) (f := f) (fn := fn) (Sum.inr (0, 0) :: vs.map Sum.inl) (rows := [(0, r)]) (nx := 1) (Rt := Rt) hf hJ (by intro p hp; simp only [List.mem_singleton] at hp; subst hp; exact hr) (by intro p hp; exact hd)
    (by intro p hp q hq hpq; simp only [List.mem_singleton] at hp hq; subst hp; subst hq; exact absurd rfl hpq) k (by intro p hp; simp only [List.mem_singleton] at hp; subst hp; exact Nat.one_pos) hb hids
  have e : ((Sum.inr (0, 0) :: vs.map Sum.inl).map (up fun _ => g)) = ye g :: vs := by
    simp only [List.map_cons, List.map_map, up, List.cons.injEq]
    exact ⟨trivial, List.map_id _⟩
  rw [e] at h
  exact h
/-- A row with other contents. -/
def rowQ (c : Cf) (id : Nat) (r : Array Value) : Cf := { c with rows := c.rows.map fun p => if p.1 = id then (p.1, r) else p }
theorem vp {id : Nat} {r : Array Value} : At P Q (rowQ c id r) a w ↔ At P Q c a w := ⟨fun h => ⟨h.out⟩, fun h => ⟨h.out⟩⟩
theorem SI.rowed {J' : World → Prop} {F' : Nat → Prop} {w' : World} (I : SI J F ds β c a w) {id : Nat} {r0 r : Array Value} (hid : y9 c.rows id = some r0) (g : zi (fun k => ¬ F k ∧ k ≠ β id) w w') (hr : zb w' (β id) r) (hJ : J' w') (hF : ∀ k, k < w.heap.size → F' k → F k) (v : Value) :
    SI J' F' ds β (rowQ (xa c v) id r) (a.put (yu c) v) w' := by
  have hm := zy hid
  refine ⟨za7 I.fr (yu c) (some (Sum.inl v)), ?_, hJ, ?_, ?_, ?_, ?_, zag I.ids (yu c) (by intro i o h; cases h)⟩
  · cases yu c <;> exact I.df
  · intro p hp
    obtain ⟨q, hq, e, ⟨h1, h2⟩ | ⟨h1, rfl⟩⟩ := qh id r p hp
    · rw [h1, h2]; exact hr
    · obtain ⟨t, ht⟩ := I.row p hq
      exact ⟨t, (g.block _ (I.row p hq).lt ⟨I.dis p hq, I.inj p hq _ hm h1⟩).trans ht⟩
  · intro p hp h
    obtain ⟨q, hq, e, _⟩ := qh id r p hp
    rw [← e] at h
    exact I.dis q hq (hF _ (I.row q hq).lt h)
  · intro p hp
    obtain ⟨q, hq, e, _⟩ := qh id r p hp
    rw [← e]; exact I.lt q hq
  · intro p hp q hq hpq
    obtain ⟨p', hp', e1, _⟩ := qh id r p hp
    obtain ⟨q', hq', e2, _⟩ := qh id r q hq
    rw [← e1, ← e2]
    rw [← e1, ← e2] at hpq
    exact I.inj p' hp' q' hq' hpq
theorem SI.rowAt (I : SI J F ds β c a w) (id : Nat) {r : Array Value} (h : y9 c.rows id = some r := by kernel_rfl) : zb w (β id) r := I.row _ (zy h)
theorem SI.rowG (I : SI J F ds β c a w) (id : Nat) {g : Nat} (hg : β id = g) {r : Array Value} (h : y9 c.rows id = some r := by kernel_rfl) : zb w g r := hg ▸ I.row _ (zy h)
theorem agr {n : Nat} {β β' : Nat → Nat} (h : Agree n β β') (i : Nat) {g : Nat} (hg : β i = g) (hi : decide (i < n) = true := by kernel_rfl) : β' i = g := (h i (of_decide_eq_true hi)).trans hg
theorem out0 {fn : Func} {Rt : Ending → World → Prop} (I : SI J F [] β c a w) (h : Rt (.returned (.tuple #[])) w) (hr : fn.results = #[] := by kernel_rfl) (hd : (c.dn = some .normal) := by kernel_rfl) : At P (bodyPost P fn Rt) c a w := by
  refine ⟨?_⟩
  unfold AtD
  rw [hd]
  exact ⟨I.df, _, results_none hr _ _ _, h⟩
/-- Slots that hold whatever. -/
def zl (scr : List Nat) (u : Nat → Value) : Nat → Vs → Vs
  | _, [] => []
  | n, s :: tm => (if scr.contains n then some (Sum.inl (u n)) else s) :: zl scr u (n + 1) tm
def vf (scr : List Nat) : Nat → Vs → Vs
  | _, [] => []
  | n, s :: tm => (if scr.contains n then none else s) :: vf scr (n + 1) tm
theorem fill_ext {scr : List Nat} {u u' : Nat → Value} : ∀ (k : Nat) (l : Vs), (∀ t, k ≤ t → u t = u' t) → zl scr u k l = zl scr u' k l
  | k, [], _ => rfl
  | k, x :: l, hu => by simp only [zl]; rw [hu k (Nat.le_refl _), fill_ext (k + 1) l (fun t ht => hu t (by omega))]
theorem fill_of {scr : List Nat} {β : Nat → Nat} : ∀ (n : Nat) {tm tm' : Vs}, vf scr n tm = vf scr n tm' →
    tm.map (upO β) = (zl scr (fun t => match tm[t - n]? with | some s => upO β s | none => undef) n tm').map (upO β)
  | n, [], [], _ => rfl
  | n, [], s :: l, h => by simp [vf] at h
  | n, s :: l, [], h => by simp [vf] at h
  | n, s :: l, s' :: l', h => by
    simp only [vf, List.cons.injEq] at h
    obtain ⟨h1, h2⟩ := h
    have ih := fill_of (scr := scr) (β := β) (n + 1) h2
    simp only [zl, List.map_cons]
    congr 1
    · by_cases hc : scr.contains n = true
      · rw [if_pos hc]
        simp [upO, up]
      · rw [if_neg hc] at h1 ⊢
        rw [if_neg hc] at h1
        rw [h1]
    · rw [ih]
      congr 1
      refine fill_ext _ _ fun t ht => ?_
      have : t - n = (t - (n + 1)) + 1 := by omega
      rw [this]
      rfl
theorem ids_fill {scr : List Nat} {u : Nat → Value} {nx : Nat} : ∀ (n : Nat) {tm : Vs}, xo (vf scr n tm) nx = true → xo (zl scr u n tm) nx = true
  | n, [], _ => rfl
  | n, s :: l, h => by
    simp only [vf, xo, List.all_cons, Bool.and_eq_true] at h
    simp only [zl, xo, List.all_cons, Bool.and_eq_true]
    refine ⟨?_, ids_fill (n + 1) h.2⟩
    by_cases hc : scr.contains n = true
    · rw [if_pos hc]
    · rw [if_neg hc] at h ⊢
      exact h.1
/-- At the head of a piece again: slots and rows that are no longer asked for are let go. -/
theorem SI.scr (I : SI J F ds β c a w) (x : Code) (scr : List Nat) (tm0 : Vs) (rows0 : Rows) (nx0 : Nat) (h1 : vf scr 0 c.tm = vf scr 0 tm0 := by kernel_rfl) (h2 : rows0.map (fun p => y9 c.rows p.1) = rows0.map (fun p => some p.2) := by kernel_rfl) (h3 : (rows0.all fun p => decide (p.1 < nx0)) = true := by kernel_rfl) (h4 : xo (vf scr 0 tm0) nx0 = true := by kernel_rfl) :
    ∃ u, SI J F ds β (cfC x (zl scr u 0 tm0) rows0 nx0) a w := by
  have hm : ∀ p ∈ rows0, p ∈ c.rows := by
    intro p hp
    obtain ⟨i, hi⟩ := List.mem_iff_getElem?.1 hp
    have h5 := congrArg (·[i]?) h2
    simp only [List.getElem?_map, hi, Option.map_some, Option.some.injEq] at h5
    exact zy h5
  refine ⟨fun t => match c.tm[t - 0]? with | some s => upO β s | none => undef, ?_, I.df, I.hJ, fun p hp => I.row p (hm p hp), fun p hp => I.dis p (hm p hp), fun p hp => ?_, fun p hp q hq => I.inj p (hm p hp) q (hm q hq), ids_fill 0 h4⟩
  · rw [I.fr]
    exact congrArg List.toArray (fill_of 0 h1)
  · simpa using List.all_eq_true.1 h3 p hp
def lpK (c : Cf) : List Ki := ((loopQ c).map (·.2)).getD []
def loopOf : Code → Option Code
  | .loop x => some x
  | .seq x y => (loopOf x).or (loopOf y)
  | .block _ x => loopOf x
  | .cond _ x y => (loopOf x).or (loopOf y)
  | _ => none
/-- The body of a function's first loop. -/
def zc (fn : Func) : Code := (fn.body.bind loopOf).getD .skip
/-- A loop: the number falls. -/
theorem lpN (X : Code) (ks : List Ki) (St : Nat → Act → World → Prop) (i : Nat) (h : St i a w)
    (step : ∀ i a w, St i a w → X.wp P (Exit.then (fun a' w' => ∃ j, j < i ∧ St j a' w') (QK P Q ks)) a w) (hl : loopQ c = some (X, ks) := by kernel_rfl) : At P Q c a w := lpQ hl St step h
theorem lpM (X : Code) (St : Nat → Act → World → Prop) (i : Nat) (h : St i a w)
    (step : ∀ i a w, St i a w → X.wp P (Exit.then (fun a' w' => ∃ j, j < i ∧ St j a' w') (QK P Q (lpK c))) a w) (hl : loopQ c = some (X, lpK c) := by kernel_rfl) : At P Q c a w := lpQ hl St step h
/-- A frame by its slots; the other ones. -/
def frm (n : Nat) (kv : List (Nat × SV)) : Vs := (List.range n).map fun t => (kv.find? fun p => p.1 == t).map (·.2)
def zg (n : Nat) (ks : List Nat) : List Nat := (List.range n).filter fun t => !ks.contains t
section
variable {i : Nat} {St : Nat → Act → World → Prop} {ks : List Ki}
theorem xc (h : ∃ j, j < i ∧ St j a w) (hd : c.dn = some .normal := by kernel_rfl) : At P (Exit.then (fun a' w' => ∃ j, j < i ∧ St j a' w') (QK P Q ks)) c a w := ⟨by unfold AtD; rw [hd]; exact h⟩
theorem xg {N : Act → World → Prop} (id : Nat) (k : At P Q (cfE (xi.exitQ id ks) c.tm c.rows c.nx) a w) (hd : c.dn = some (.exit id) := by kernel_rfl) : At P (Exit.then N (QK P Q ks)) c a w := ⟨by unfold AtD; rw [hd]; exact outB k⟩
theorem qc {N : Act → World → Prop} (k : Q .ret a w) (hd : c.dn = some .ret := by kernel_rfl) : At P (Exit.then N (QK P Q ks)) c a w := ⟨by unfold AtD; rw [hd]; exact retQ_ok k⟩
end
theorem qb {fn : Func} {v : Value} {Rt : Ending → World → Prop} (I : SI J F [] β c a w) (h : Rt (.returned v) w) (hr : resX P fn (c.tm, c.rows, c.nx) = some v := by kernel_rfl) : bodyPost P fn Rt .ret a w := ⟨I.df, v, resX_ok (st := (c.tm, c.rows, c.nx)) I.inv hr, h⟩
theorem zd.then {N : Act → World → Prop} (h : zd Q) : zd (Exit.then N Q) := ⟨h.out⟩
end
end Go.Proofs.YtdeompgdhaomgaaGreatDoor
