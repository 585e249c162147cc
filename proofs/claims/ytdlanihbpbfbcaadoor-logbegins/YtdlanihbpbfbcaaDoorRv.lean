/- A region that draws its order: each operation hands its slot a value; what holds of the values and of memory is kept, whatever has been done so far. -/
import Derived.Test.YtdlanihbpbfbcaaDoorRi
namespace Go.Proofs.YtdlanihbpbfbcaaDoor
open Go.RowKit Go.Sort
set_option linter.unusedVariables false
section
variable {P : Program} {ops : Array Oper} {Q : Exit → Act → World → Prop}

/-- The operation that fills slot t. -/
def wr (ops : Array Oper) (t : Nat) : Option Nat := (List.range ops.size).find? fun i => match ops[i]? with | some o => o.dst == some t | none => false
def onceB (ops : Array Oper) : Bool := (List.range ops.size).all fun i => match ops[i]? with | some o => o.guard.isNone && (match o.dst with | some t => wr ops t == some i | none => true) | none => true
theorem once_spec (h : onceB ops = true) {i : Nat} {o : Oper} (ho : ops[i]? = some o) : o.guard = none ∧ ∀ t, o.dst = some t → wr ops t = some i := by
  have hi : i < ops.size := (Array.getElem?_eq_some_iff.1 ho).1
  have h1 := (List.all_eq_true.1 h) i (by simpa using hi)
  simp only [ho, Bool.and_eq_true] at h1
  refine ⟨by simpa using h1.1, fun t ht => ?_⟩
  have h2 := h1.2
  rw [ht] at h2
  simpa using h2

/-- The frame behind the operations that are done. -/
def Frm (ops : Array Oper) (vs : Nat → Value) (a : Act) (listed : Array Bool) (a' : Act) : Prop :=
  a'.defers = a.defers ∧ a'.tmps.size = a.tmps.size ∧ ∀ t, t < a.tmps.size → a'.tmps[t]? = match wr ops t with | some i => (if listed.getD i false = true then some (vs i) else a.tmps[t]?) | none => a.tmps[t]?
theorem Frm.start (vs : Nat → Value) (a : Act) : Frm ops vs a (Array.replicate ops.size false) a := by
  refine ⟨rfl, rfl, fun t _ => ?_⟩
  cases wr ops t with
  | none => rfl
  | some i => simp [Array.getD, Array.getElem_replicate]
theorem Frm.old {vs : Nat → Value} {a a' : Act} {listed : Array Bool} (h : Frm ops vs a listed a') {t : Nat} (hw : wr ops t = none) : a'.eval (.tmp t) = a.eval (.tmp t) := by
  show a'.tmps.getD t undef = a.tmps.getD t undef
  rw [Array.getD_eq_getD_getElem?, Array.getD_eq_getD_getElem?]
  by_cases ht : t < a.tmps.size
  · rw [h.2.2 t ht, hw]
  · rw [Array.getElem?_eq_none (by have := h.2.1; omega), Array.getElem?_eq_none (by omega)]
theorem Frm.new {vs : Nat → Value} {a a' : Act} {listed : Array Bool} (h : Frm ops vs a listed a') {t i : Nat} (hw : wr ops t = some i) (ht : t < a.tmps.size) (hd : listed.getD i false = true) : a'.eval (.tmp t) = vs i := by
  show a'.tmps.getD t undef = vs i
  rw [Array.getD_eq_getD_getElem?, h.2.2 t ht, hw]
  simp [hd]
theorem Frm.step {vs : Nat → Value} {a a' : Act} {listed : Array Bool} (h : Frm ops vs a listed a') (hs : listed.size = ops.size) {i : Nat} {o : Oper} (ho : ops[i]? = some o) (hw : ∀ t, o.dst = some t → wr ops t = some i) (hun : listed.getD i false ≠ true) (v : Value) :
    Frm ops (fun j => if j = i then v else vs j) a (listed.setIfInBounds i true) (a'.put o.dst v) := by
  have hi : i < ops.size := (Array.getElem?_eq_some_iff.1 ho).1
  have hgen : ∀ j, (if (listed.setIfInBounds i true).getD j false = true then some (if j = i then v else vs j) else none) = if j = i then some v else (if listed.getD j false = true then some (vs j) else none) := by
    intro j
    by_cases hj : j = i
    · subst hj; have : j < listed.size := by omega
      simp [Array.getD, this]
    · rw [getD_set_ne false (Ne.symm hj)]; simp [hj]
  cases hd : o.dst with
  | none =>
    refine ⟨h.1, h.2.1, fun t ht => ?_⟩
    show a'.tmps[t]? = _
    rw [h.2.2 t ht]
    cases hwt : wr ops t with
    | none => rfl
    | some j =>
      have hj : j ≠ i := by
        rintro rfl
        have h1 := List.find?_some hwt
        simp [ho, hd] at h1
      simp only [hj, if_false]
      rw [getD_set_ne false (Ne.symm hj)]
  | some d =>
    have hwd := hw d hd
    refine ⟨h.1, by simpa [Act.put] using h.2.1, fun t ht => ?_⟩
    show (a'.tmps.setIfInBounds d v)[t]? = _
    rw [Array.getElem?_setIfInBounds, h.2.1]
    by_cases htd : d = t
    · subst htd
      rw [hwd]
      have : i < listed.size := by omega
      simp [Array.getD, this, ht]
    · rw [if_neg htd, h.2.2 t ht]
      cases hwt : wr ops t with
      | none => rfl
      | some j =>
        have hj : j ≠ i := by
          rintro rfl
          have h1 := List.find?_some hwt
          simp [ho, hd] at h1
          exact htd h1
        simp only [hj, if_false]
        rw [getD_set_ne false (Ne.symm hj)]
def putAll (ops : Array Oper) (vs : Nat → Value) (a : Act) : Act :=
  { a with tmps := Array.ofFn (n := a.tmps.size) fun t => match wr ops t.val with | some i => vs i | none => a.tmps[t.val] }
theorem Frm.all {vs : Nat → Value} {a a' : Act} {listed : Array Bool} (h : Frm ops vs a listed a') (hd : ∀ i, i < ops.size → listed.getD i false = true) : a' = putAll ops vs a := by
  obtain ⟨h1, h2, h3⟩ := h
  have e : a'.tmps = (putAll ops vs a).tmps := by
    apply Array.ext_getElem?
    intro t
    unfold putAll
    rw [Array.getElem?_ofFn]
    by_cases ht : t < a.tmps.size
    · rw [h3 t ht]
      simp only [ht]
      cases hw : wr ops t with
      | none => simp [ht]
      | some i =>
        have h4 := List.mem_of_find?_eq_some hw
        have hi : i < ops.size := by simpa using h4
        simp [hd i hi]
    · simp [ht]
      omega
  cases a'
  simp only [putAll] at *
  simp_all
theorem wp_region_vals {id : Nat} {a : Act} {w : World} (hm : P.follows .mixedOrders = true) (hb : backB ops = true) (hB : onceB ops = true)
    (C : Array Bool → (Nat → Value) → World → Prop)
    (h0 : C (Array.replicate ops.size false) (fun _ => undef) { w with drawn := w.drawn + 1 })
    (hop : ∀ listed vs a' w' i o, listed.size = ops.size → ops[i]? = some o → i ∈ Region.ready .any ops listed → Frm ops vs a listed a' → C listed vs w' →
      o.wp P a' w' (fun a'' w'' => ∃ v, a'' = a'.put o.dst v ∧ C (listed.setIfInBounds i true) (fun j => if j = i then v else vs j) w'') Q)
    (hend : ∀ listed vs a' w', (∀ i, i < ops.size → listed.getD i false = true) → Frm ops vs a listed a' → C listed vs w' → Q .normal a' w') : (Code.region id ops true).wp P Q a w := by
  refine wp_region_inv hm (fun listed a' w' => ∃ vs, Frm ops vs a listed a' ∧ C listed vs w') ⟨_, Frm.start _ a, h0⟩ ?_ ?_
  · rintro listed a' w' i hs ⟨vs, hF, hC⟩ hi
    obtain ⟨_, o, ho, _⟩ := mem_ready.1 hi
    refine wpOp_plain ho (once_spec hB ho).1 ?_
    have hun := undone hi hs
    have := hop listed vs a' w' i o hs ho hi hF hC
    refine Oper.wp_mono (fun a'' w'' h => ?_) this
    obtain ⟨v, rfl, hC'⟩ := h
    exact ⟨_, hF.step hs ho (once_spec hB ho).2 (fun h => hun h) v, hC'⟩
  · rintro listed a' w' hs ⟨vs, hF, hC⟩ hr
    have hd := all_done hb hs hr
    exact hend listed vs a' w' hd hF hC
theorem wp_callF {o : Oper} {a : Act} {w : World} {K : Act → World → Prop} {f : FuncId} {args : Array Value} {v : Value} (hrun : (execOp a.eval o).run P w = .ok (.enter f args) w)
    (hc : Calls P f args w fun e w' => e = .returned v ∧ Below w.heap.size w w') (h : ∀ w', Below w.heap.size w w' → K (a.put o.dst v) w') : o.wp P a w K Q := by
  unfold Oper.wp
  rw [hrun, Oper.upon_enter]
  refine hc.mono ?_
  rintro e w' ⟨rfl, hb⟩
  exact h w' hb
theorem wp_valF {o : Oper} {a : Act} {w w1 : World} {K : Act → World → Prop} {v : Value} (hrun : (execOp a.eval o).run P w = .ok (.value v) w1) (h : K (a.put o.dst v) w1) : o.wp P a w K Q := by
  unfold Oper.wp
  rw [hrun, Oper.upon_value]
  exact h
theorem wp_rowF {o : Oper} {a : Act} {w : World} {K : Act → World → Prop} (ty : TypeId) (x : Operand) (ho : o.op = .load ty x)
    (g : Nat) (hx : a.eval x = .pointer (some ⟨g, 0, none⟩)) {c : Array Value} {n : Nat} {e : TypeId} (hr : HasRow w g c) (hn : c.size = n)
    (hu : P.underlying ty = some (.array n e)) (hi : (P.info? ty).map (·.size) = some n) (h : K (a.put o.dst (.agg c)) w) : o.wp P a w K Q := by
  obtain ⟨t, hr⟩ := hr
  exact wp_load_row ty x ho g hx t c (0, 0) _ hr hu rfl (by rw [hn]; exact hi) h
theorem wp_rowS {o : Oper} {a : Act} {w : World} {K : Act → World → Prop} (ty : TypeId) (x y : Operand) (ho : o.op = .store ty x y)
    (g : Nat) {c c' : Array Value} {n : Nat} (hx : a.eval x = .pointer (some ⟨g, 0, none⟩)) (hy : a.eval y = .agg c') (hr : HasRow w g c) (hn : c.size = n) (hn' : c'.size = n) (h1 : c'.all (·.oneCell') = true)
    (hi : (P.info? ty).map (·.size) = some n) (h : K (a.put o.dst undef) (w.setRow g c')) : o.wp P a w K Q := by
  obtain ⟨t, hr⟩ := hr
  exact wp_store_row ty x y ho g c' hx hy t c hr (by rw [hn']; exact hi) (by rw [hn, hn']) h1 h
theorem ev {a : Act} {t : Nat} {v : Value} (h : a.eval (.tmp t) = v) : a.tmps[t]?.getD undef = v := by rw [← h]; simp [Act.eval]
theorem results_cell2 {fn : Func} {p q : Tmp} {ty ty2 : TypeId} (h : fn.results = #[.cell p ty, .cell q ty2]) (a : Act) (w : World) {g g2 : Nat} {c c2 : Array Value} {n n2 : Nat} {e e2 : TypeId}
    (h1 : a.eval (.tmp p) = .pointer (some ⟨g, 0, none⟩)) (h2 : a.eval (.tmp q) = .pointer (some ⟨g2, 0, none⟩)) (r1 : HasRow w g c) (r2 : HasRow w g2 c2) (n1 : c.size = n) (n2' : c2.size = n2)
    (hu : P.underlying ty = some (.array n e)) (hi : (P.info? ty).map (·.size) = some n) (hu2 : P.underlying ty2 = some (.array n2 e2)) (hi2 : (P.info? ty2).map (·.size) = some n2) :
    (results fn a.tmps).run P w = .ok (.tuple #[.agg c, .agg c2]) w := by
  obtain ⟨t, r1⟩ := r1
  obtain ⟨t2, r2⟩ := r2
  have k1 := run_loadVar_row (P := P) w g t ty c (0, 0) _ r1 hu rfl (by rw [n1]; exact hi)
  have k2 := run_loadVar_row (P := P) w g2 t2 ty2 c2 (0, 0) _ r2 hu2 rfl (by rw [n2']; exact hi2)
  have h1' : a.tmps.getD p undef = .pointer (some ⟨g, 0, none⟩) := h1
  have h2' : a.tmps.getD q undef = .pointer (some ⟨g2, 0, none⟩) := h2
  simp only [results, h]
  simp [Sem.run_bind, Result.andThen, ev h1, ev h2, asAddr, k1, k2]
end
end Go.Proofs.YtdlanihbpbfbcaaDoor
