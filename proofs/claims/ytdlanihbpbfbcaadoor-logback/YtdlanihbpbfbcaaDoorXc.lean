/- A walk by reckoning, fourth part: a function as a whole. -/
import Derived.Test.YtdlanihbpbfbcaaDoorSz
import Derived.LoopN
namespace Go.Proofs.YtdlanihbpbfbcaaDoor
open Go.RowKit Go.Sort
set_option linter.unusedVariables false
/-- A truth value in a slot. -/
def condV (tm : Vs) : Operand → Option Bool
  | .tmp t => match plain ((tm[t]?).join) with
    | some (.bool b) => some b
    | _ => none
  | .const (.bool b) => some b
  | _ => none
def addE (e e' : Eqs) : Eqs := (e.1 ++ e'.1, e.2 ++ e'.2)
theorem EqOk.left {e e' : Eqs} (h : EqOk (addE e e')) : EqOk e := ⟨fun p hp => h.1 p (List.mem_append_left _ hp), fun p hp => h.2 p (List.mem_append_left _ hp)⟩
theorem EqOk.right {e e' : Eqs} (h : EqOk (addE e e')) : EqOk e' := ⟨fun p hp => h.1 p (List.mem_append_right _ hp), fun p hp => h.2 p (List.mem_append_right _ hp)⟩
/-- Facts for regions, in the order in which they are run. -/
abbrev Fq (P : Program) (T : World → Prop) : Type := List (Nat × List (Fa P T))
def takeQ {P : Program} {T : World → Prop} (id : Nat) : Fq P T → List (Fa P T) × Fq P T
  | (i, f) :: q => if i = id then (f, q) else ([], (i, f) :: q)
  | [] => ([], [])
abbrev Rn (P : Program) (T : World → Prop) : Type := Option (Exit × St × Fq P T × Eqs)
section
variable {P : Program} {T : World → Prop}
def seqX (r : Rn P T) (f : Fq P T → St → Rn P T) : Rn P T := match r with
  | some (.normal, st, q, e) => (f q st).map fun x => (x.1, x.2.1, x.2.2.1, addE e x.2.2.2)
  | r => r
def blkX (id : Nat) : Rn P T → Rn P T
  | some (.exit id', st, q, e) => if id' = id then some (.normal, st, q, e) else some (.exit id', st, q, e)
  | r => r
/-- Rounds of a loop. -/
def itX (f : Fq P T → St → Rn P T) : Nat → Fq P T → St → Rn P T
  | 0, _, _ => none
  | n + 1, q, st => seqX (f q st) (itX f n)
end
section
variable (P : Program) (T : World → Prop) (fo : Nat → Nat → Option Nat) (io : Nat → Int → Option Nat) (ze : Nat → Option (Array Value))
/-- A code, reckoned. -/
def runC : Code → Fq P T → St → Rn P T
  | .skip, q, st => some (.normal, st, q, [], [])
  | .ret, q, st => some (.ret, st, q, [], [])
  | .exit id, q, st => some (.exit id, st, q, [], [])
  | .region id ops _, q, st => (regX P T fo io ze ops (takeQ id q).1 st).map fun x => (.normal, x.1, (takeQ id q).2, x.2)
  | .seq x y, q, st => seqX (runC x q st) (runC y)
  | .cond c x y, q, st => match condV st.1 c with
    | some true => runC x q st
    | some false => runC y q st
    | none => none
  | .block id c, q, st => blkX id (runC c q st)
  | .loop c, q, st => itX (runC c) 100 q st
  | _, _, _ => none
/-- A result. -/
def resV (st : St) : ResultVar → Option Value
  | .tmp t => plain ((st.1[t]?).join)
  | .cell p ty => match (st.1[p]?).join with
    | some (Sum.inr (id, off)) => match rowOf st.2.1 id with
      | some c => loadV P ty c off
      | none => none
    | _ => none
def resX (fn : Func) (st : St) : Option Value := match fn.results.toList with
  | [r] => resV P st r
  | [r, r'] => match resV P st r, resV P st r' with
    | some v, some v' => some (.tuple #[v, v'])
    | _, _ => none
  | [] => some (.tuple #[])
  | [.tmp x, .tmp y, .tmp z] => match resV P st (.tmp x), resV P st (.tmp y), resV P st (.tmp z) with
    | some v, some v', some u => some (.tuple #[v, v', u])
    | _, _, _ => none
  | _ => none
def begX (fn : Func) (args : Array Value) : St := (args.toList.map (fun v => some (Sum.inl v)) ++ List.replicate (fn.ntmps - args.size) none, [], 0)
def endX (fn : Func) : Rn P T → Option (Value × Eqs)
  | some (.ret, st, _, e) => (resX P fn st).map fun v => (v, e)
  | some (.normal, st, _, e) => (resX P fn st).map fun v => (v, e)
  | _ => none
/-- A function, reckoned. -/
def runF (fs : Fq P T) (fn : Func) (args : Array Value) : Option (Value × Eqs) := match fn.body with
  | some c => endX P T fn (runC P T fo io ze c fs (begX fn args))
  | none => none
end
theorem run_lv {P : Program} {w : World} {g off : Nat} {c : Array Value} {t : TypeId} {v : Value} (hr : HasRow w g c) (h : loadV P t c off = some v) : (loadVar t ⟨g, off, none⟩).run P w = .ok v w := by
  unfold loadV at h
  cases hu : P.underlying t with
  | none => rw [hu] at h; cases h
  | some d =>
    rw [hu] at h
    simp only [] at h
    by_cases hd : aggB d = true
    · rw [if_pos hd] at h
      cases hi : P.info? t with
      | none => rw [hi] at h; cases h
      | some i =>
        rw [hi] at h
        simp only [] at h
        by_cases hs : off + i.size ≤ c.size
        · rw [if_pos hs] at h
          cases h
          generalize hcs : c.extract off (off + i.size) = cs
          have hz : cs.size = i.size := by rw [← hcs, Array.size_extract]; omega
          have hl : (loadCells ⟨g, off, none⟩ cs.toList.length).run P w = .ok cs.toList.toArray w :=
            run_loadCells_list (P := P) w ⟨g, off, none⟩ cs.toList (fun j v hv => by
              have hadd : (⟨g, off, none⟩ : Addr).add j = ⟨g, off + j, none⟩ := by unfold Addr.add; split <;> simp_all
              rw [hadd, hr.cell]
              have hj : j < cs.size := by simpa using (List.getElem?_eq_some_iff.1 hv).1
              have h2 : cs[j]? = some v := by simpa using hv
              rw [← h2, ← hcs, Array.getElem?_extract, if_pos (by omega)])
          have hA : (isAgg t).run P w = .ok true w := by
            unfold isAgg
            simp only [Sem.run_bind, run_underlying hu, Result.andThen_ok]
            cases d <;> first | rfl | simp [aggB] at hd
          have hS : (sizeOf t).run P w = .ok cs.toList.length w := by
            simp [sizeOf, typeInfo, hi, hz]
          unfold loadVar
          simp only [Sem.run_bind, hA, Result.andThen_ok, if_true, hS, hl, Sem.run_pure, Array.toArray_toList]
        · rw [if_neg hs] at h; cases h
    · rw [if_neg hd] at h
      have hA : (isAgg t).run P w = .ok false w := by
        unfold isAgg
        simp only [Sem.run_bind, run_underlying hu, Result.andThen_ok]
        cases d <;> first | rfl | simp [aggB] at hd
      have hcell : w.cell? ⟨g, off, none⟩ = some v := by rw [hr.cell]; exact h
      unfold loadVar
      simp only [Sem.run_bind, hA, Result.andThen_ok, Bool.false_eq_true, if_false]
      rw [run_load, hcell]
section
variable {P : Program} {T : World → Prop} {fo : Nat → Nat → Option Nat} {io : Nat → Int → Option Nat} {ze : Nat → Option (Array Value)} {fs : Fq P T} {w0 : World} {κ : World × Nat × (Nat → Nat) × List Deferred}
/-- What is known of types: places of fields and members, what is laid first. -/
structure Ty (P : Program) (fo : Nat → Nat → Option Nat) (io : Nat → Int → Option Nat) (ze : Nat → Option (Array Value)) : Prop where
  hm : P.follows .mixedOrders = true
  hfo : ∀ t f d, fo t f = some d → ∀ g off w, (Instr.fieldAt t (.pointer (some ⟨g, off, none⟩)) f).run P w = .ok (.pointer (some ⟨g, off + d, none⟩)) w
  hio : ∀ t i d, io t i = some d → ∀ g off w, (Instr.indexAt t (.pointer (some ⟨g, off, none⟩)) (.int .i64 i)).run P w = .ok (.pointer (some ⟨g, off + d, none⟩)) w
  hze : ∀ t z, ze t = some z → ∀ (ρ : Operand → Value) (o : Oper) w, o.op = .alloc t → ∃ t', (execOp ρ o).run P w = .ok (.value (ptr0 w.heap.size)) (w.alloc (.cells z t'))
theorem cond_ok {β : Nat → Nat} {st : St} {a : Act} {w : World} (I : Inv κ w0 β st.1 st.2.1 st.2.2 a w) {c : Operand} {b : Bool} (h : condV st.1 c = some b) : a.eval c = .bool b := by
  cases c with
  | tmp t =>
    simp only [condV] at h
    split at h
    · next b' hb =>
      cases h
      exact tm_get I.fr (plain_some hb)
    · cases h
  | const v => cases v <;> simp [condV] at h; subst h; rfl
  | global g => simp [condV] at h
  | func f => simp [condV] at h
/-- Rounds by a logic of codes. -/
def rndW (wp : Code → (Exit → Act → World → Prop) → Act → World → Prop) (c : Code) (Q : Exit → Act → World → Prop) : Nat → Act → World → Prop
  | 0, _, _ => False
  | n + 1, a, w => wp c (Exit.then (rndW wp c Q n) Q) a w
/-- A logic of codes: plain, or in a round of a loop. -/
structure Lg (P : Program) where
  wp : Code → (Exit → Act → World → Prop) → Act → World → Prop
  skip : ∀ {Q : Exit → Act → World → Prop} {a : Act} {w : World}, Q .normal a w → wp .skip Q a w
  ret : ∀ {Q : Exit → Act → World → Prop} {a : Act} {w : World}, Q .ret a w → wp .ret Q a w
  exit : ∀ {id : Nat} {Q : Exit → Act → World → Prop} {a : Act} {w : World}, Q (.exit id) a w → wp (.exit id) Q a w
  region : ∀ {id : Nat} {ops : Array Oper} {d : Bool} {Q : Exit → Act → World → Prop} {a : Act} {w : World}, RegV P ops Q a w ∧ noDefB ops = true → wp (.region id ops d) Q a w
  seq : ∀ {x y : Code} {Q : Exit → Act → World → Prop} {a : Act} {w : World}, wp x (Exit.then (wp y Q) Q) a w → wp (.seq x y) Q a w
  condT : ∀ {c : Operand} {x y : Code} {Q : Exit → Act → World → Prop} {a : Act} {w : World}, a.eval c = .bool true → wp x Q a w → wp (.cond c x y) Q a w
  condF : ∀ {c : Operand} {x y : Code} {Q : Exit → Act → World → Prop} {a : Act} {w : World}, a.eval c = .bool false → wp y Q a w → wp (.cond c x y) Q a w
  block : ∀ {id : Nat} {c : Code} {Q : Exit → Act → World → Prop} {a : Act} {w : World}, wp c (Exit.inBlock id Q) a w → wp (.block id c) Q a w
  loop : ∀ {c : Code} {Q : Exit → Act → World → Prop} {a : Act} {w : World} (n : Nat), rndW wp c Q n a w → wp (.loop c) Q a w
theorem rnd_plain {P : Program} {c : Code} {Q : Exit → Act → World → Prop} : ∀ n, rndW (fun c Q a w => c.wp P Q a w) c Q n = Code.rounds P c Q n
  | 0 => rfl
  | n + 1 => by
    funext a w
    show c.wp P (Exit.then (rndW (fun c Q a w => c.wp P Q a w) c Q n) Q) a w = c.wp P (Exit.then (Code.rounds P c Q n) Q) a w
    rw [rnd_plain n]
def Lg.plain {P : Program} (hm : P.follows .mixedOrders = true) : Lg P where
  wp c Q a w := c.wp P Q a w
  skip := wp_skip
  ret := wp_ret
  exit := wp_exit
  region h := h.1.wp hm
  seq := wp_seq
  condT := wp_cond_true
  condF := wp_cond_false
  block := wp_block
  loop n h := wp_loop_rounds n (by rw [← rnd_plain n]; exact h)
/-- Rounds do what was reckoned. -/
theorem it_ok (L : Lg P) {c : Code} (hc : ∀ {q q' : Fq P T} {st st' : St} {ex : Exit} {e : Eqs} {Q : Exit → Act → World → Prop} {β : Nat → Nat} {a : Act} {w : World},
    runC P T fo io ze c q st = some (ex, st', q', e) → EqOk e → Inv κ w0 β st.1 st.2.1 st.2.2 a w → (∀ β' a' w', Inv κ w0 β' st'.1 st'.2.1 st'.2.2 a' w' → Q ex a' w') → L.wp c Q a w) :
    ∀ (n : Nat) {q q' : Fq P T} {st st' : St} {ex : Exit} {e : Eqs} {Q : Exit → Act → World → Prop} {β : Nat → Nat} {a : Act} {w : World},
    itX (runC P T fo io ze c) n q st = some (ex, st', q', e) → EqOk e → Inv κ w0 β st.1 st.2.1 st.2.2 a w → (∀ β' a' w', Inv κ w0 β' st'.1 st'.2.1 st'.2.2 a' w' → Q ex a' w') → rndW L.wp c Q n a w
  | 0, q, q', st, st', ex, e, Q, β, a, w, h, he, I, hK => by simp [itX] at h
  | n + 1, q, q', st, st', ex, e, Q, β, a, w, h, he, I, hK => by
    simp only [itX] at h
    show L.wp c _ a w
    cases hx : runC P T fo io ze c q st with
    | none => rw [hx] at h; cases h
    | some r =>
      obtain ⟨ex1, st1, q1, e1⟩ := r
      rw [hx] at h
      by_cases hn : ex1 = .normal
      · subst hn
        simp only [seqX] at h
        cases hy : itX (runC P T fo io ze c) n q1 st1 with
        | none => rw [hy] at h; cases h
        | some r =>
          obtain ⟨ex2, st2, q2, e2⟩ := r
          rw [hy] at h
          simp only [Option.map_some, Option.some.injEq, Prod.mk.injEq] at h
          obtain ⟨rfl, rfl, rfl, rfl⟩ := h
          exact hc hx he.left I fun β' a' w' I' => it_ok L hc n hy he.right I' hK
      · have h2 : some (ex1, st1, q1, e1) = some (ex, st', q', e) := by
          cases ex1 <;> first | exact absurd rfl hn | exact h
        simp only [Option.some.injEq, Prod.mk.injEq] at h2
        obtain ⟨rfl, rfl, rfl, rfl⟩ := h2
        refine hc hx he I fun β' a' w' I' => ?_
        have := hK β' a' w' I'
        cases ex1 <;> first | exact absurd rfl hn | exact this
theorem runC_ok (L : Lg P) (Y : Ty P fo io ze) (hT : ∀ w', Below w0.heap.size w0 w' → T w') : ∀ {c : Code} {q q' : Fq P T} {st st' : St} {ex : Exit} {e : Eqs} {Q : Exit → Act → World → Prop} {β : Nat → Nat} {a : Act} {w : World},
    runC P T fo io ze c q st = some (ex, st', q', e) → EqOk e → Inv κ w0 β st.1 st.2.1 st.2.2 a w → (∀ β' a' w', Inv κ w0 β' st'.1 st'.2.1 st'.2.2 a' w' → Q ex a' w') → L.wp c Q a w
  | .skip, q, q', st, st', ex, e, Q, β, a, w, h, he, I, hK => by
    simp only [runC, Option.some.injEq, Prod.mk.injEq] at h
    obtain ⟨rfl, rfl, _, _⟩ := h
    exact L.skip (hK _ _ _ I)
  | .ret, q, q', st, st', ex, e, Q, β, a, w, h, he, I, hK => by
    simp only [runC, Option.some.injEq, Prod.mk.injEq] at h
    obtain ⟨rfl, rfl, _, _⟩ := h
    exact L.ret (hK _ _ _ I)
  | .exit id, q, q', st, st', ex, e, Q, β, a, w, h, he, I, hK => by
    simp only [runC, Option.some.injEq, Prod.mk.injEq] at h
    obtain ⟨rfl, rfl, _, _⟩ := h
    exact L.exit (hK _ _ _ I)
  | .region id ops d, q, q', st, st', ex, e, Q, β, a, w, h, he, I, hK => by
    simp only [runC] at h
    cases hx : regX P T fo io ze ops (takeQ id q).1 st with
    | none => rw [hx] at h; cases h
    | some x =>
      rw [hx] at h
      simp only [Option.map_some, Option.some.injEq, Prod.mk.injEq] at h
      obtain ⟨rfl, rfl, rfl, rfl⟩ := h
      exact L.region (regX_ok hT Y.hfo Y.hio Y.hze hx he I hK)
  | .seq x y, q, q', st, st', ex, e, Q, β, a, w, h, he, I, hK => by
    simp only [runC] at h
    cases hx : runC P T fo io ze x q st with
    | none => rw [hx] at h; cases h
    | some r =>
      obtain ⟨ex1, st1, q1, e1⟩ := r
      rw [hx] at h
      by_cases hn : ex1 = .normal
      · subst hn
        simp only [seqX] at h
        cases hy : runC P T fo io ze y q1 st1 with
        | none => rw [hy] at h; cases h
        | some r =>
          obtain ⟨ex2, st2, q2, e2⟩ := r
          rw [hy] at h
          simp only [Option.map_some, Option.some.injEq, Prod.mk.injEq] at h
          obtain ⟨rfl, rfl, rfl, rfl⟩ := h
          exact L.seq (runC_ok L Y hT hx he.left I fun β' a' w' I' => runC_ok L Y hT hy he.right I' hK)
      · have h2 : some (ex1, st1, q1, e1) = some (ex, st', q', e) := by
          cases ex1 <;> first | exact absurd rfl hn | exact h
        simp only [Option.some.injEq, Prod.mk.injEq] at h2
        obtain ⟨rfl, rfl, rfl, rfl⟩ := h2
        refine L.seq (runC_ok L Y hT hx he I fun β' a' w' I' => ?_)
        have := hK β' a' w' I'
        cases ex1 <;> first | exact absurd rfl hn | exact this
  | .cond c x y, q, q', st, st', ex, e, Q, β, a, w, h, he, I, hK => by
    simp only [runC] at h
    split at h
    · next hc => exact L.condT (cond_ok I hc) (runC_ok L Y hT h he I hK)
    · next hc => exact L.condF (cond_ok I hc) (runC_ok L Y hT h he I hK)
    · cases h
  | .block id c, q, q', st, st', ex, e, Q, β, a, w, h, he, I, hK => by
    simp only [runC] at h
    cases hx : runC P T fo io ze c q st with
    | none => rw [hx] at h; cases h
    | some r =>
      obtain ⟨ex1, st1, q1, e1⟩ := r
      rw [hx] at h
      refine L.block ?_
      by_cases hn : ∃ id', ex1 = .exit id'
      · obtain ⟨id', rfl⟩ := hn
        simp only [blkX] at h
        split at h
        · next hi =>
          simp only [Option.some.injEq, Prod.mk.injEq] at h
          obtain ⟨rfl, rfl, rfl, rfl⟩ := h
          refine runC_ok L Y hT hx he I fun β' a' w' I' => ?_
          simp only [Exit.inBlock, hi, if_true]
          exact hK β' a' w' I'
        · next hi =>
          simp only [Option.some.injEq, Prod.mk.injEq] at h
          obtain ⟨rfl, rfl, rfl, rfl⟩ := h
          refine runC_ok L Y hT hx he I fun β' a' w' I' => ?_
          simp only [Exit.inBlock, hi, if_false]
          exact hK β' a' w' I'
      · have h2 : some (ex1, st1, q1, e1) = some (ex, st', q', e) := by
          cases ex1 <;> first | exact absurd ⟨_, rfl⟩ hn | exact h
        simp only [Option.some.injEq, Prod.mk.injEq] at h2
        obtain ⟨rfl, rfl, rfl, rfl⟩ := h2
        refine runC_ok L Y hT hx he I fun β' a' w' I' => ?_
        have := hK β' a' w' I'
        cases ex1 <;> first | exact absurd ⟨_, rfl⟩ hn | exact this
  | .loop c, q, q', st, st', ex, e, Q, β, a, w, h, he, I, hK => by
    simp only [runC] at h
    exact L.loop 100 (it_ok L (fun h he I hK => runC_ok L Y hT h he I hK) 100 h he I hK)
  | .rangeFunc f ps x y, q, q', st, st', ex, e, Q, β, a, w, h, he, I, hK => by simp [runC] at h
  | .scope c, q, q', st, st', ex, e, Q, β, a, w, h, he, I, hK => by simp [runC] at h
  | .label l, q, q', st, st', ex, e, Q, β, a, w, h, he, I, hK => by simp [runC] at h
  | .goto l, q, q', st, st', ex, e, Q, β, a, w, h, he, I, hK => by simp [runC] at h
  | .refuse s, q, q', st, st', ex, e, Q, β, a, w, h, he, I, hK => by simp [runC] at h
theorem resT_ok {β : Nat → Nat} {st : St} {a : Act} {w : World} (I : Inv κ w0 β st.1 st.2.1 st.2.2 a w) {t : Nat} {v : Value} (h : resV P st (.tmp t) = some v) : a.tmps[t]?.getD undef = v := by
  have h2 : a.tmps.getD t undef = v := tm_get I.fr (plain_some h)
  rw [← h2]
  simp
theorem resC_ok {β : Nat → Nat} {st : St} {a : Act} {w : World} (I : Inv κ w0 β st.1 st.2.1 st.2.2 a w) {p ty : Nat} {v : Value} (h : resV P st (.cell p ty) = some v) : ∃ ad, a.tmps[p]?.getD undef = .pointer (some ad) ∧ (loadVar ty ad).run P w = .ok v w := by
  simp only [resV] at h
  split at h
  · next id off hx =>
    split at h
    · next c hc =>
      have h2 : a.tmps.getD p undef = .pointer (some ⟨β id, off, none⟩) := tm_get I.fr hx
      exact ⟨⟨β id, off, none⟩, by rw [← h2]; simp, run_lv (I.row _ (rowOf_mem hc)) h⟩
    · cases h
  · cases h
theorem resX_ok {β : Nat → Nat} {st : St} {a : Act} {w : World} (I : Inv κ w0 β st.1 st.2.1 st.2.2 a w) {fn : Func} {v : Value} (h : resX P fn st = some v) : (results fn a.tmps).run P w = .ok v w := by
  unfold resX at h
  split at h
  · next r hr =>
    have h0 : fn.results = #[r] := by rw [← hr]
    cases r with
    | tmp t => simp only [results, h0]; simp [resT_ok I h]
    | cell p ty =>
      obtain ⟨ad, h1, h2⟩ := resC_ok I h
      simp only [results, h0]; simp [h1, asAddr, h2]
  · next r r' hr =>
    have h0 : fn.results = #[r, r'] := by rw [← hr]
    split at h
    · next v1 v2 g1 g2 =>
      cases h
      cases r <;> cases r' <;> simp only [results, h0]
      · simp [resT_ok I g1, resT_ok I g2]
      · obtain ⟨ad, h1, h2⟩ := resC_ok I g2
        simp [resT_ok I g1, h1, asAddr, h2]
      · obtain ⟨ad, h1, h2⟩ := resC_ok I g1
        simp [resT_ok I g2, h1, asAddr, h2]
      · obtain ⟨ad, h1, h2⟩ := resC_ok I g1
        obtain ⟨ad', h1', h2'⟩ := resC_ok I g2
        simp [h1, asAddr, h2, h1', h2']
    · cases h
  · next hr =>
    have h0 : fn.results = #[] := by rw [← Array.toList_inj, hr]
    cases h
    simp [results, h0]
  · next x y z hr =>
    have h0 : fn.results = #[.tmp x, .tmp y, .tmp z] := by rw [← Array.toList_inj, hr]
    split at h
    · next v1 v2 v3 g1 g2 g3 =>
      cases h
      simp only [results, h0]
      simp [resT_ok I g1, resT_ok I g2, resT_ok I g3]
    · cases h
  · cases h
/-- A call does what was reckoned. -/
theorem runF_ok (Y : Ty P fo io ze) {f : Nat} {fn : Func} (hf : P.funcs[f]? = some fn) {args : Array Value} {v : Value} {w : World} (hT : ∀ w', Below w.heap.size w w' → T w')
    (h : (runF P T fo io ze fs fn args).map (·.1) = some v) (he : EqOk (((runF P T fo io ze fs fn args).map (·.2)).getD ([], []))) : Calls P f args w fun e w' => e = .returned v ∧ Below w.heap.size w w' := by
  cases hr : runF P T fo io ze fs fn args with
  | none => rw [hr] at h; cases h
  | some r =>
    obtain ⟨v', e⟩ := r
    rw [hr] at h he
    simp only [Option.map_some, Option.some.injEq, Option.getD_some] at h he
    subst h
    unfold runF at hr
    cases hb : fn.body with
    | none => rw [hb] at hr; cases hr
    | some c =>
      rw [hb] at hr
      simp only [] at hr
      have I : Inv (w, 0, (fun _ => 0), []) w (fun _ => 0) (begX fn args).1 (begX fn args).2.1 (begX fn args).2.2 { tmps := args ++ Array.replicate (fn.ntmps - args.size) undef, defers := [] } w := by
        refine ⟨?_, rfl, Below.refl _ _, ?_, ?_, ?_, ?_, ⟨Nat.le_refl _, fun k o h _ => h⟩, Nat.zero_le _, fun i h => absurd h (Nat.not_lt_zero i)⟩
        · apply Array.ext'
          simp [begX, upO]
          exact (List.map_id _).symm
        · intro p hp; simp [begX] at hp
        · intro p hp; simp [begX] at hp
        · intro p hp; simp [begX] at hp
        · intro p hp; simp [begX] at hp
      refine calls_of_wp hf hb ?_
      cases hc : runC P T fo io ze c fs (begX fn args) with
      | none => rw [hc] at hr; cases hr
      | some r =>
        obtain ⟨ex, st', q', e'⟩ := r
        rw [hc] at hr
        have fin : (ex = .ret ∨ ex = .normal) ∧ resX P fn st' = some v' ∧ e' = e := by
          cases ex <;> simp only [endX] at hr <;> first | (cases hr; done) | (
            cases hq : resX P fn st' with
            | none => rw [hq] at hr; cases hr
            | some u =>
              rw [hq] at hr
              simp only [Option.map_some, Option.some.injEq, Prod.mk.injEq] at hr
              obtain ⟨rfl, rfl⟩ := hr
              exact ⟨by simp, rfl, rfl⟩)
        obtain ⟨hex, hres, rfl⟩ := fin
        refine runC_ok (Lg.plain Y.hm) Y hT hc he I fun β' a' w' I' => ?_
        have hR := resX_ok I' hres
        rcases hex with rfl | rfl
        · exact bodyPost_ret hR I'.df ⟨rfl, I'.bw⟩
        · exact bodyPost_end hR I'.df ⟨rfl, I'.bw⟩
end
end Go.Proofs.YtdlanihbpbfbcaaDoor
