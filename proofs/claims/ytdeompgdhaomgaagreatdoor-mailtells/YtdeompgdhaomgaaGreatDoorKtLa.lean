/- Laid one behind the other: Ri, Rv, Rz, Rg. -/
import Derived.Test.YtdeompgdhaomgaaGreatDoorKtNum
import Derived.Deep.Quiet
import Derived.Lib.QuietBelow
namespace Go.Proofs.YtdeompgdhaomgaaGreatDoor
open Go.RowKit Go.Sort Tryz
set_option linter.unusedVariables false
set_option maxRecDepth 100000
set_option maxHeartbeats 4000000
section
variable {P : Program} {ops : Array Oper} {Q : Exit → Act → World → Prop}

theorem count_set : ∀ (l : List Bool) (i : Nat), l[i]? = some false → (l.set i true).count false + 1 = l.count false
  | [], i, h => by simp at h
  | b :: l, 0, h => by simp at h; subst h; simp
  | b :: l, i + 1, h => by
    have := count_set l i (by simpa using h)
    simp only [List.set_cons_succ, List.count_cons]
    omega
theorem any_inv (I : Array Bool → Act → World → Prop)
    (hstep : ∀ za a w i, za.size = ops.size → I za a w → i ∈ Region.ready .any ops za → wpOp P ops Q i (fun a' w' => I (za.setIfInBounds i true) a' w') a w)
    (hend : ∀ za a w, za.size = ops.size → I za a w → Region.ready .any ops za = [] → Q .normal a w) :
    ∀ (fuel : Nat) (za : Array Bool) (a : Act) (w : World), za.size = ops.size → za.toList.count false ≤ fuel → I za a w → wpAny P .any ops Q fuel za a w
  | 0, za, a, w, hs, hc, hI => by
    have hr : Region.ready .any ops za = [] := by
      rw [List.eq_nil_iff_forall_not_mem]
      intro j hj
      obtain ⟨hun, o, ho, _⟩ := mem_ready.1 hj
      have hjs : j < za.size := by have := (Array.getElem?_eq_some_iff.1 ho).1; omega
      have h1 : za[j]? = some false := by
        rw [Array.getElem?_eq_getElem hjs]
        simp [Array.getD, hjs] at hun
        rw [hun]
      have h2 := count_set za.toList j (by simpa using h1)
      omega
    exact ⟨hr, hend za a w hs hI hr⟩
  | fuel + 1, za, a, w, hs, hc, hI => by
    refine ⟨fun hr => hend za a w hs hI hr, fun i hi => ?_⟩
    refine wpOp_mono (fun a' w' h' => any_inv I hstep hend fuel _ a' w' (by simpa using hs) ?_ h') (hstep za a w i hs hI hi)
    obtain ⟨hun, o, ho, _⟩ := mem_ready.1 hi
    have hjs : i < za.size := by have := (Array.getElem?_eq_some_iff.1 ho).1; omega
    have h1 : za[i]? = some false := by
      rw [Array.getElem?_eq_getElem hjs]
      simp [Array.getD, hjs] at hun
      rw [hun]
    have h2 := count_set za.toList i (by simpa using h1)
    rw [Array.toList_setIfInBounds]
    omega
theorem wp_region_inv {id : Nat} {a : Act} {w : World} (hm : P.follows .mixedOrders = true) (I : Array Bool → Act → World → Prop)
    (h0 : I (Array.replicate ops.size false) a { w with drawn := w.drawn + 1 })
    (hstep : ∀ za a w i, za.size = ops.size → I za a w → i ∈ Region.ready .any ops za → wpOp P ops Q i (fun a' w' => I (za.setIfInBounds i true) a' w') a w)
    (hend : ∀ za a w, za.size = ops.size → I za a w → Region.ready .any ops za = [] → Q .normal a w) : (Code.region id ops true).wp P Q a w :=
  wp_region_any hm (any_inv I hstep hend _ _ _ _ (by simp) (by simp) h0)
/-- Number i waits for number j. -/
def ya (ops : Array Oper) (i j : Nat) : Bool := match ops[i]? with | some o => o.after.any (fun e => Region.binds .any e && e.on == j) | none => false
theorem zk {i j : Nat} (h : ya ops i j = true) {za : Array Bool} (hi : i ∈ Region.ready .any ops za) : za.getD j false = true := by
  obtain ⟨_, o, ho, hall⟩ := mem_ready.1 hi
  simp only [ya, ho] at h
  obtain ⟨n, hn, hb⟩ := Array.any_eq_true.1 h
  have he := Array.getElem_mem hn
  generalize o.after[n] = e at *
  simp only [Bool.and_eq_true, beq_iff_eq] at hb
  have := hall e he hb.1
  rw [hb.2] at this
  exact this
theorem zm {za : Array Bool} {i j : Nat} (h : (za.setIfInBounds i true).getD j false = true) : j = i ∨ za.getD j false = true := by
  by_cases hij : i = j
  · exact .inl hij.symm
  · right; rwa [getD_set_ne false hij] at h
theorem z6 {za : Array Bool} {i j : Nat} (h : za.getD j false = true) : (za.setIfInBounds i true).getD j false = true := by
  by_cases hij : i = j
  · subst hij
    have hl : i < za.size := by
      rcases Nat.lt_or_ge i za.size with h' | h'
      · exact h'
      · simp [Array.getD, Nat.not_lt.2 h'] at h
    simp [Array.getD, hl]
  · rw [getD_set_ne false hij]; exact h
theorem zai {za : Array Bool} {i : Nat} (hi : i ∈ Region.ready .any ops za) (hs : za.size = ops.size) : za.getD i false = true → False := by
  intro h
  obtain ⟨hun, o, ho, _⟩ := mem_ready.1 hi
  have hjs : i < za.size := by have := (Array.getElem?_eq_some_iff.1 ho).1; omega
  simp [Array.getD, hjs] at hun h
  rw [hun] at h; cases h
end
section
variable {P : Program} {ops : Array Oper} {Q : Exit → Act → World → Prop}

/-- The operation that fills slot t. -/
def wr (ops : Array Oper) (t : Nat) : Option Nat := (List.range ops.size).find? fun i => match ops[i]? with | some o => o.dst == some t | none => false
/-- The frame behind the operations that are done. -/
def Frm (ops : Array Oper) (vs : Nat → Value) (a : Act) (za : Array Bool) (a' : Act) : Prop :=
  a'.defers = a.defers ∧ a'.tmps.size = a.tmps.size ∧ ∀ t, t < a.tmps.size → a'.tmps[t]? = match wr ops t with | some i => (if za.getD i false = true then some (vs i) else a.tmps[t]?) | none => a.tmps[t]?
theorem Frm.start (vs : Nat → Value) (a : Act) : Frm ops vs a (Array.replicate ops.size false) a := by
  refine ⟨rfl, rfl, fun t _ => ?_⟩
  cases wr ops t with
  | none => rfl
  | some i => simp [Array.getD, Array.getElem_replicate]
theorem Frm.old {vs : Nat → Value} {a a' : Act} {za : Array Bool} (h : Frm ops vs a za a') {t : Nat} (hw : wr ops t = none) : a'.eval (.tmp t) = a.eval (.tmp t) := by
  show a'.tmps.getD t undef = a.tmps.getD t undef
  rw [Array.getD_eq_getD_getElem?, Array.getD_eq_getD_getElem?]
  by_cases ht : t < a.tmps.size
  · rw [h.2.2 t ht, hw]
  · rw [Array.getElem?_eq_none (by have := h.2.1; omega), Array.getElem?_eq_none (by omega)]
theorem Frm.new {vs : Nat → Value} {a a' : Act} {za : Array Bool} (h : Frm ops vs a za a') {t i : Nat} (hw : wr ops t = some i) (ht : t < a.tmps.size) (hd : za.getD i false = true) : a'.eval (.tmp t) = vs i := by
  show a'.tmps.getD t undef = vs i
  rw [Array.getD_eq_getD_getElem?, h.2.2 t ht, hw]
  simp [hd]
theorem Frm.step {vs : Nat → Value} {a a' : Act} {za : Array Bool} (h : Frm ops vs a za a') (hs : za.size = ops.size) {i : Nat} {o : Oper} (ho : ops[i]? = some o) (hw : ∀ t, o.dst = some t → wr ops t = some i) (hun : za.getD i false ≠ true) (v : Value) :
    Frm ops (fun j => if j = i then v else vs j) a (za.setIfInBounds i true) (a'.put o.dst v) := by
  have hi : i < ops.size := (Array.getElem?_eq_some_iff.1 ho).1
  have hgen : ∀ j, (if (za.setIfInBounds i true).getD j false = true then some (if j = i then v else vs j) else none) = if j = i then some v else (if za.getD j false = true then some (vs j) else none) := by
    intro j
    by_cases hj : j = i
    · subst hj; have : j < za.size := by omega
      simp [Array.getD, this]
    · rw [getD_set_ne false (Ne.symm hj)]; simp [hj]
  cases hd : o.dst with
  | none =>
    refine ⟨h.1, h.2.1, fun t ht => ?_⟩
    show a'.tmps[t]? = _
    rw [h.2.2 t ht]
    cases hwt : wr ops t with
    | none => rfl
    | some j =>
      have hj : j ≠ i := by
        rintro rfl
        have h1 := List.find?_some hwt
        simp [ho, hd] at h1
      simp only [hj, if_false]
      rw [getD_set_ne false (Ne.symm hj)]
  | some d =>
    have hwd := hw d hd
    refine ⟨h.1, by simpa [Act.put] using h.2.1, fun t ht => ?_⟩
    show (a'.tmps.setIfInBounds d v)[t]? = _
    rw [Array.getElem?_setIfInBounds, h.2.1]
    by_cases htd : d = t
    · subst htd
      rw [hwd]
      have : i < za.size := by omega
      simp [Array.getD, this, ht]
    · rw [if_neg htd, h.2.2 t ht]
      cases hwt : wr ops t with
      | none => rfl
      | some j =>
        have hj : j ≠ i := by
          rintro rfl
          have h1 := List.find?_some hwt
          simp [ho, hd] at h1
          exact htd h1
        simp only [hj, if_false]
        rw [getD_set_ne false (Ne.symm hj)]
def zbd (ops : Array Oper) (vs : Nat → Value) (a : Act) : Act :=
  { a with tmps := Array.ofFn (n := a.tmps.size) fun t => match wr ops t.val with | some i => vs i | none => a.tmps[t.val] }
theorem Frm.all {vs : Nat → Value} {a a' : Act} {za : Array Bool} (h : Frm ops vs a za a') (hd : ∀ i, i < ops.size → za.getD i false = true) : a' = zbd ops vs a := by
  obtain ⟨h1, h2, h3⟩ := h
  have e : a'.tmps = (zbd ops vs a).tmps := by
    apply Array.ext_getElem?
    intro t
    unfold zbd
    rw [Array.getElem?_ofFn]
    by_cases ht : t < a.tmps.size
    · rw [h3 t ht]
      simp only [ht]
      cases hw : wr ops t with
      | none => simp [ht]
      | some i =>
        have h4 := List.mem_of_find?_eq_some hw
        have hi : i < ops.size := by simpa using h4
        simp [hd i hi]
    · simp [ht]
      omega
  cases a'
  simp only [zbd] at *
  simp_all
theorem wp_callF {o : Oper} {a : Act} {w : World} {K : Act → World → Prop} {f : FuncId} {args : Array Value} {v : Value} (hrun : (execOp a.eval o).run P w = .ok (.enter f args) w)
    (hc : Calls P f args w fun e w' => e = .returned v ∧ Below w.heap.size w w') (h : ∀ w', Below w.heap.size w w' → K (a.put o.dst v) w') : o.wp P a w K Q := by
  unfold Oper.wp
  rw [hrun, Oper.upon_enter]
  refine hc.mono ?_
  rintro e w' ⟨rfl, hb⟩
  exact h w' hb
theorem xy {o : Oper} {a : Act} {w w1 : World} {K : Act → World → Prop} {v : Value} (hrun : (execOp a.eval o).run P w = .ok (.value v) w1) (h : K (a.put o.dst v) w1) : o.wp P a w K Q := by
  unfold Oper.wp
  rw [hrun, Oper.upon_value]
  exact h
theorem ev {a : Act} {t : Nat} {v : Value} (h : a.eval (.tmp t) = v) : a.tmps[t]?.getD undef = v := by rw [← h]; simp [Act.eval]
end
theorem uz{l:Array Bool}{k j:Nat}{p:Prop}(c:l.getD j false=true→p)(hj:j≠k:=by decide)(h:(l.setIfInBounds k true).getD j false=true):p:=c ((zm h).resolve_left hj)
section
variable {P : Program} {ops : Array Oper} {Q : Exit → Act → World → Prop}
def qi (ops : Array Oper) : Bool := (List.range ops.size).all fun i => match ops[i]? with | some o => o.after.all (fun e => !Region.binds .any e || decide (e.on < i)) | none => true
theorem all_done2 (hb : qi ops = true) {za : Array Bool} (hs : za.size = ops.size) (hr : Region.ready .any ops za = []) : ∀ i, i < ops.size → za.getD i false = true := by
  intro i
  induction i using Nat.strongRecOn with
  | _ i ih =>
    intro hi
    by_cases h : za.getD i false = true
    · exact h
    · exfalso
      have ho : ops[i]? = some ops[i] := Array.getElem?_eq_getElem hi
      have hmem : i ∈ Region.ready .any ops za := by
        refine mem_ready.2 ⟨?_, ops[i], ho, fun e he hbd => ?_⟩
        · have hi' : i < za.size := by omega
          simp [Array.getD, hi'] at h ⊢
          exact h
        · have h1 := (List.all_eq_true.1 hb) i (by simpa using hi)
          simp only [ho] at h1
          have h2 := (Array.all_eq_true_iff_forall_mem.1 h1) e he
          have h3 : e.on < i := by simpa [hbd] using h2
          exact ih e.on h3 (by omega)
      rw [hr] at hmem; cases hmem
/-- An operation with what it hangs on: not wanted it hands its slot nothing. -/
def wpG (ops : Array Oper) (o : Oper) (P : Program) (a : Act) (w : World) (K : Act → World → Prop) (Q : Exit → Act → World → Prop) : Prop :=
  if Region.wanted o (yielded ops a.tmps) = true then o.wp P a w K Q else K (a.put o.dst undef) w
theorem yq {o : Oper} {a : Act} {w : World} {K K' : Act → World → Prop} (h : ∀ a w, K a w → K' a w) (hh : wpG ops o P a w K Q) : wpG ops o P a w K' Q := by
  unfold wpG at *
  split
  · next hw => rw [if_pos hw] at hh; exact Oper.wp_mono h hh
  · next hw => rw [if_neg hw] at hh; exact h _ _ hh
theorem yg {o : Oper} {a : Act} {w : World} {K : Act → World → Prop} (hg : o.guard = none) (h : o.wp P a w K Q) : wpG ops o P a w K Q := by
  unfold wpG
  rw [if_pos (by simp [Region.wanted, hg])]
  exact h
def kn (ops : Array Oper) : Bool := (List.range ops.size).all fun i => match ops[i]? with | some o => (match o.dst with | some t => wr ops t == some i | none => true) | none => true
theorem qp (h : kn ops = true) {i : Nat} {o : Oper} (ho : ops[i]? = some o) : ∀ t, o.dst = some t → wr ops t = some i := by
  intro t ht
  have hi : i < ops.size := (Array.getElem?_eq_some_iff.1 ho).1
  have h1 := (List.all_eq_true.1 h) i (by simpa using hi)
  simp only [ho, ht] at h1
  simpa using h1
/-- The same where the order is the listed one. -/
theorem wpList_inv (hb : qi ops = true) (I : Array Bool → Act → World → Prop)
    (hstep : ∀ (za : Array Bool) (a : Act) (w : World) (i : Nat) (o : Oper), za.size = ops.size → ops[i]? = some o → I za a w → i ∈ Region.ready .any ops za → wpG ops o P a w (fun a' w' => I (za.setIfInBounds i true) a' w') Q)
    (hend : ∀ (za : Array Bool) (a : Act) (w : World), za.size = ops.size → (∀ i, i < ops.size → za.getD i false = true) → I za a w → Q .normal a w) :
    ∀ (l : List Oper) (k : Nat) (za : Array Bool) (a : Act) (w : World), l = ops.toList.drop k → za.size = ops.size → (∀ i, i < ops.size → za.getD i false = decide (i < k)) → I za a w → wpList P ops Q l a w
  | [], k, za, a, w, hl, hs, hd, hI => by
    refine wpList_nil (hend za a w hs (fun i hi => ?_) hI)
    have hk : ops.size ≤ k := by
      have := congrArg List.length hl
      simp at this
      omega
    rw [hd i hi]
    exact decide_eq_true (by omega)
  | o :: rest, k, za, a, w, hl, hs, hd, hI => by
    have hk : k < ops.size := by
      have := congrArg List.length hl
      simp at this
      omega
    have hcons := List.drop_eq_getElem_cons (l := ops.toList) (i := k) (by simpa using hk)
    rw [hcons] at hl
    obtain ⟨h1, h2⟩ := List.cons.inj hl
    have ho : ops[k]? = some o := by rw [h1]; simp [hk]
    have hr : k ∈ Region.ready .any ops za := by
      refine mem_ready.2 ⟨?_, o, ho, fun e he hbd => ?_⟩
      · have h3 := hd k hk
        have hk' : k < za.size := by omega
        simp [Array.getD, hk'] at h3 ⊢
        exact h3
      · have h3 := (List.all_eq_true.1 hb) k (by simpa using hk)
        simp only [ho] at h3
        have h4 := (Array.all_eq_true_iff_forall_mem.1 h3) e he
        have h5 : e.on < k := by simpa [hbd] using h4
        rw [hd _ (by omega)]
        exact decide_eq_true h5
    refine wpList_step fun K hK => ?_
    show wpG ops o P a w K Q
    refine yq (fun a' w' h => ?_) (hstep za a w k o hs ho hI hr)
    refine hK _ _ (wpList_inv hb I hstep hend rest (k + 1) _ a' w' h2 (by simpa using hs) (fun i hi => ?_) h)
    have hi' : i < za.size := by omega
    by_cases e : i = k
    · subst e
      simp [Array.getD, hi']
    · have := hd i hi
      simp [Array.getD, hi'] at this ⊢
      rw [Array.getElem_setIfInBounds_ne hi' (fun h => e h.symm), this]
      exact decide_eq_decide.2 ⟨fun h => by omega, fun h => by omega⟩
/-- What a region's operations come to, in whatever order they may be run: something that holds whatever has been done so far. -/
def RegV (P : Program) (ops : Array Oper) (Q : Exit → Act → World → Prop) (a : Act) (w : World) : Prop :=
  qi ops = true ∧ ∃ I : Array Bool → Act → World → Prop, (∀ w1, w1 = w ∨ w1 = { w with drawn := w.drawn + 1 } → I (Array.replicate ops.size false) a w1) ∧
    (∀ (za : Array Bool) (a' : Act) (w' : World) (i : Nat) (o : Oper), za.size = ops.size → ops[i]? = some o → I za a' w' → i ∈ Region.ready .any ops za → wpG ops o P a' w' (fun a'' w'' => I (za.setIfInBounds i true) a'' w'') Q) ∧
    ∀ (za : Array Bool) (a' : Act) (w' : World), za.size = ops.size → (∀ i, i < ops.size → za.getD i false = true) → I za a' w' → Q .normal a' w'
theorem RegV.wp {id : Nat} {d : Bool} {a : Act} {w : World} (hm : P.follows .mixedOrders = true) (h : RegV P ops Q a w) : (Code.region id ops d).wp P Q a w := by
  obtain ⟨hb, I, h0, step, hend⟩ := h
  cases d with
  | true =>
    refine wp_region_inv hm I (h0 _ (.inr rfl)) ?_ ?_
    · rintro za a' w' i hs hI hi
      obtain ⟨_, o, ho, _⟩ := mem_ready.1 hi
      have h := step za a' w' i o hs ho hI hi
      unfold wpOp
      rw [ho]
      unfold wpG at h
      show if _ then _ else _
      split
      · next hw => rw [if_pos hw] at h; exact .inl h
      · next hw => rw [if_neg hw] at h; exact h
    · rintro za a' w' hs hI hr
      exact hend za a' w' hs (all_done2 hb hs hr) hI
  | false => exact wp_region_list (wpList_inv hb I step hend ops.toList 0 (Array.replicate ops.size false) a w rfl (by simp) (fun i hi => by simp [Array.getD, hi]) (h0 _ (.inl rfl)))
theorem vu {a : Act} {w : World} (hb : qi ops = true) (hB : kn ops = true)
    (C : Array Bool → (Nat → Value) → World → Prop)
    (h0 : ∀ w1, w1 = w ∨ w1 = { w with drawn := w.drawn + 1 } → C (Array.replicate ops.size false) (fun _ => undef) w1)
    (hop : ∀ za vs a' w' i o, za.size = ops.size → ops[i]? = some o → i ∈ Region.ready .any ops za → Frm ops vs a za a' → C za vs w' →
      wpG ops o P a' w' (fun a'' w'' => ∃ v, a'' = a'.put o.dst v ∧ C (za.setIfInBounds i true) (fun j => if j = i then v else vs j) w'') Q)
    (hend : ∀ za vs a' w', (∀ i, i < ops.size → za.getD i false = true) → Frm ops vs a za a' → C za vs w' → Q .normal a' w') : RegV P ops Q a w := by
  refine ⟨hb, fun za a' w' => ∃ vs, Frm ops vs a za a' ∧ C za vs w', fun w1 h1 => ⟨_, Frm.start _ a, h0 w1 h1⟩, ?_, ?_⟩
  · rintro za a' w' i o hs ho ⟨vs, hF, hC⟩ hi
    have hun := zai hi hs
    refine yq (fun a'' w'' h => ?_) (hop za vs a' w' i o hs ho hi hF hC)
    obtain ⟨v, rfl, hC'⟩ := h
    exact ⟨_, hF.step hs ho (qp hB ho) (fun h => hun h) v, hC'⟩
  · rintro za a' w' hs hd ⟨vs, hF, hC⟩
    exact hend za vs a' w' hd hF hC
end
/-- What an operation comes to: a value; a new block, with what it holds at first and behind its store; a store into a new block; a store into a block that was there. -/
abbrev Sp : Type := Value ⊕ ((Nat → Value) × Nat × Array Value × Array Value) ⊕ Nat ⊕ (Nat × Array Value × Array Value)
abbrev sV (v : Value) : Sp := Sum.inl v
abbrev sA (f : Nat → Value) (st : Nat) (ini fin : Array Value) : Sp := Sum.inr (Sum.inl (f, st, ini, fin))
abbrev sS (al : Nat) : Sp := Sum.inr (Sum.inr (Sum.inl al))
abbrev sK (g : Nat) (ini fin : Array Value) : Sp := Sum.inr (Sum.inr (Sum.inr (g, ini, fin)))
def noOp : Oper := { dst := none, op := .move (.const undef), type := 0, pos := "", after := #[], guard := none }
def yx (ops : Array Oper) (i : Nat) : Oper := ops.getD i noOp
theorem opAt_eq {ops : Array Oper} {i : Nat} {o : Oper} (h : ops[i]? = some o) : yx ops i = o := by
  unfold yx
  rw [Array.getD_eq_getD_getElem?, h]
  rfl
def pk (za : Array Bool) (k : Nat) (i e : Array Value) : Array Value := if za.getD k false = true then e else i
/-- The value that operation k comes to; bs: the blocks that were made. -/
def xv (L : List Sp) (bs : Nat → Nat) (k : Nat) : Value :=
  match L[k]? with
  | some (Sum.inl v) => v
  | some (Sum.inr (Sum.inl (f, _, _, _))) => f (bs k)
  | _ => undef
def isAl (L : List Sp) (k : Nat) : Bool := match L[k]? with | some (Sum.inr (Sum.inl _)) => true | _ => false
/-- Each new block's store is told at its place, and waits for it. -/
def stB (ops : Array Oper) (L : List Sp) : Bool :=
  decide (L.length = ops.size) && (List.range L.length).all fun k =>
    match L[k]? with
    | some (Sum.inr (Sum.inl (_, st, _, _))) => (decide (L.length ≤ st)) || ((match L[st]? with | some (Sum.inr (Sum.inr (Sum.inl al))) => al == k | _ => false) && ya ops st k)
    | some (Sum.inr (Sum.inr (Sum.inl al))) => match L[al]? with | some (Sum.inr (Sum.inl (_, st, _, _))) => st == k | _ => false
    | _ => true
/-- Slot t is laid by operation j, for which operation i waits. -/
def newB (ops : Array Oper) (n i t j : Nat) : Bool := wr ops t == some j && ya ops i j && decide (t < n)
/-- Whatever is no row of cells lies as it lay. -/
def KO (w w' : World) : Prop := w.heap.size ≤ w'.heap.size ∧ ∀ (k : Nat) (o : Obj), w.heap[k]? = some o → (∀ c t, o ≠ .cells c t) → w'.heap[k]? = some o
theorem KO.trans {a b c : World} (h : KO a b) (k : KO b c) : KO a c := ⟨Nat.le_trans h.1 k.1, fun i o hi ho => k.2 i o (h.2 i o hi ho) ho⟩
theorem KO.below {w w' : World} (h : Below w.heap.size w w') : KO w w' := ⟨h.size, fun k o hk _ => by rw [h.block k (Array.getElem?_eq_some_iff.1 hk).1]; exact hk⟩
theorem KO.setRow {w : World} {g : Nat} {c : Array Value} (h : zb w g c) (c' : Array Value) : KO w (w.setRow g c') := by
  obtain ⟨t, h⟩ := h
  refine ⟨by rw [zaf]; exact Nat.le_refl _, fun k o hk ho => ?_⟩
  have hne : ¬ g = k := fun e => by subst e; rw [h] at hk; cases hk; exact ho _ _ rfl
  simp only [World.setRow, Array.getElem?_modify, hne, if_false]
  exact hk
structure RI (wk : World) (ops : Array Oper) (w : World) (N0 : Nat) (G : List (Nat × Array Value)) (L : List Sp) (bs : Nat → Nat) (za : Array Bool) (vs : Nat → Value) (w' : World) : Prop where
  bw : Below w.heap.size w w'
  ms : N0 ≤ w'.heap.size
  rw : ∀ (n g : Nat) (c : Array Value), G[n]? = some (g, c) → zb w' g c
  vl : ∀ k, za.getD k false = true → vs k = xv L bs k
  al : ∀ (k : Nat) f st i e, L[k]? = some (sA f st i e) → za.getD k false = true → N0 ≤ bs k ∧ zb w' (bs k) (pk za st i e)
  ne : ∀ j k, j ≠ k → isAl L j = true → isAl L k = true → za.getD j false = true → za.getD k false = true → bs j ≠ bs k
  sk : ∀ (k g : Nat) i e, L[k]? = some (sK g i e) → zb w' g (pk za k i e)
  wt : ∀ j k, ya ops k j = true → za.getD k false = true → za.getD j false = true
  sz : za.size = ops.size
  ko : KO wk w'
/-- What is at hand where operation k is shown. -/
structure RE (ops : Array Oper) (a : Act) (w : World) (N0 : Nat) (G : List (Nat × Array Value)) (L : List Sp) (k : Nat) (a' : Act) (w' : World) : Prop where
  bw : Below w.heap.size w w'
  ms : N0 ≤ w'.heap.size
  row : ∀ (n : Nat) {g : Nat} {c : Array Value}, G[n]? = some (g, c) → zb w' g c
  old : ∀ t, wr ops t = none → a'.eval (.tmp t) = a.eval (.tmp t)
  olds : ∀ t j, wr ops t = some j → ya ops j k = true → a'.eval (.tmp t) = a.eval (.tmp t)
  new : ∀ (t j : Nat) {v : Value}, newB ops a.tmps.size k t j = true → L[j]? = some (sV v) → a'.eval (.tmp t) = v
  ali : ∀ (t j : Nat) {f st i e}, newB ops a.tmps.size k t j = true → L[j]? = some (sA f st i e) → L.length ≤ st → ∃ g, a'.eval (.tmp t) = f g ∧ N0 ≤ g ∧ zb w' g i
  skb : ∀ (j : Nat) {g : Nat} {i e}, L[j]? = some (sK g i e) → ya ops j k = true → zb w' g i
  ska : ∀ (j : Nat) {g : Nat} {i e}, L[j]? = some (sK g i e) → ya ops k j = true → zb w' g e
section
variable (P : Program) (ops : Array Oper) (Q : Exit → Act → World → Prop) (a : Act) (w : World) (N0 : Nat) (G : List (Nat × Array Value)) (L : List Sp)
/-- What is to be shown of operation k. -/
def Ob (k : Nat) : Sp → Prop
  | Sum.inl v => ∀ a' w', RE ops a w N0 G L k a' w' → wpG ops (yx ops k) P a' w' (fun a'' w'' => a'' = a'.put (yx ops k).dst v ∧ Below w'.heap.size w' w'') Q
  | Sum.inr (Sum.inl (f, st, i, e)) => ∀ a' w', RE ops a w N0 G L k a' w' → wpG ops (yx ops k) P a' w' (fun a'' w'' => a'' = a'.put (yx ops k).dst (f w'.heap.size) ∧ ∃ t, w'' = w'.alloc (.cells i t)) Q
  | Sum.inr (Sum.inr (Sum.inl al)) => ∀ a' w' g f st i e, L[al]? = some (sA f st i e) → RE ops a w N0 G L k a' w' → (∀ t, newB ops a.tmps.size k t al = true → a'.eval (.tmp t) = f g) → zb w' g i → wpG ops (yx ops k) P a' w' (fun a'' w'' => a'' = a'.put (yx ops k).dst undef ∧ w'' = w'.setRow g e) Q
  | Sum.inr (Sum.inr (Sum.inr (g, i, e))) => ∀ a' w', RE ops a w N0 G L k a' w' → zb w' g i → wpG ops (yx ops k) P a' w' (fun a'' w'' => a'' = a'.put (yx ops k).dst undef ∧ w'' = w'.setRow g e) Q
def Obs : Nat → List Sp → Prop
  | _, [] => True
  | k, s :: l => Ob P ops Q a w N0 G L k s ∧ Obs (k + 1) l
end
theorem Obs.at {P : Program} {ops : Array Oper} {Q : Exit → Act → World → Prop} {a : Act} {w : World} {N0 : Nat} {G : List (Nat × Array Value)} {L : List Sp} :
    ∀ (l : List Sp) (k : Nat), Obs P ops Q a w N0 G L k l → ∀ (n : Nat) (s : Sp), l[n]? = some s → Ob P ops Q a w N0 G L (k + n) s
  | [], _, _, n, s, h => by simp at h
  | s' :: l, k, hO, 0, s, h => by
    simp at h
    subst h
    exact hO.1
  | s' :: l, k, hO, n + 1, s, h => by
    have := Obs.at l (k + 1) hO.2 n s (by simpa using h)
    rwa [show k + 1 + n = k + (n + 1) by omega] at this
/-- The rows of a list lie there. -/
def yy (w : World) : List (Nat × Array Value) → Prop
  | [] => True
  | p :: l => zb w p.1 p.2 ∧ yy w l
theorem yy.get {w : World} : ∀ {G : List (Nat × Array Value)}, yy w G → ∀ (n g : Nat) (c : Array Value), G[n]? = some (g, c) → zb w g c
  | [], _, n, g, c, h => by simp at h
  | p :: l, hG, 0, g, c, h => by
    simp at h
    subst h
    exact hG.1
  | p :: l, hG, n + 1, g, c, h => yy.get hG.2 n g c (by simpa using h)
/-- Block g is none of the list's. -/
def vw (g : Nat) : List (Nat × Array Value) → Prop
  | [] => True
  | p :: l => p.1 ≠ g ∧ vw g l
theorem vw.get {g : Nat} : ∀ {G : List (Nat × Array Value)}, vw g G → ∀ (n g' : Nat) (c : Array Value), G[n]? = some (g', c) → g' ≠ g
  | [], _, n, g', c, h => by simp at h
  | p :: l, hG, 0, g', c, h => by
    simp at h
    subst h
    exact hG.1
  | p :: l, hG, n + 1, g', c, h => vw.get hG.2 n g' c (by simpa using h)
def zca (g : Nat) : List Sp → Prop
  | [] => True
  | Sum.inr (Sum.inr (Sum.inr (g', _, _))) :: l => g' ≠ g ∧ zca g l
  | _ :: l => zca g l
theorem zca.get {g : Nat} : ∀ {l : List Sp}, zca g l → ∀ (n g' : Nat) i e, l[n]? = some (sK g' i e) → g' ≠ g
  | [], _, n, g', i, e, h => by simp at h
  | s :: l, hG, 0, g', i, e, h => by
    simp at h
    subst h
    exact hG.1
  | s :: l, hG, n + 1, g', i, e, h => by
    have : zca g l := by rcases s with v | x | x | x <;> first | exact hG.2 | exact hG
    exact zca.get this n g' i e (by simpa using h)
/-- The blocks that are stored into lie there, and apart from each other and from those that are read. -/
def StOk (B : Nat) (w : World) (G : List (Nat × Array Value)) : List Sp → Prop
  | [] => True
  | Sum.inr (Sum.inr (Sum.inr (g, i, _))) :: l => (zb w g i ∧ B ≤ g ∧ vw g G ∧ zca g l) ∧ StOk B w G l
  | _ :: l => StOk B w G l
theorem StOk.get {B : Nat} {w : World} {G : List (Nat × Array Value)} : ∀ {l : List Sp}, StOk B w G l → ∀ (n g : Nat) i e, l[n]? = some (sK g i e) → zb w g i ∧ B ≤ g ∧ vw g G
  | [], _, n, g, i, e, h => by simp at h
  | s :: l, hG, 0, g, i, e, h => by
    simp at h
    subst h
    exact ⟨hG.1.1, hG.1.2.1, hG.1.2.2.1⟩
  | s :: l, hG, n + 1, g, i, e, h => by
    have : StOk B w G l := by rcases s with v | x | x | x <;> first | exact hG.2 | exact hG
    exact StOk.get this n g i e (by simpa using h)
theorem StOk.apart {B : Nat} {w : World} {G : List (Nat × Array Value)} : ∀ {l : List Sp}, StOk B w G l → ∀ (n m g : Nat) i e (g' : Nat) i' e', n < m → l[n]? = some (sK g i e) → l[m]? = some (sK g' i' e') → g' ≠ g
  | [], _, n, m, g, i, e, g', i', e', _, h, _ => by simp at h
  | s :: l, hG, 0, m + 1, g, i, e, g', i', e', _, h, h' => by
    simp at h
    subst h
    exact hG.1.2.2.2.get m g' i' e' (by simpa using h')
  | s :: l, hG, n + 1, m + 1, g, i, e, g', i', e', hnm, h, h' => by
    have : StOk B w G l := by rcases s with v | x | x | x <;> first | exact hG.2 | exact hG
    exact StOk.apart this n m g i e g' i' e' (by omega) (by simpa using h) (by simpa using h')
theorem pk_ne {za : Array Bool} {q k : Nat} (h : q ≠ k) (i e : Array Value) : pk (za.setIfInBounds q true) k i e = pk za k i e := by
  unfold pk
  rw [getD_set_ne false h]
theorem pk_me {za : Array Bool} {q : Nat} (h : q < za.size) (i e : Array Value) : pk (za.setIfInBounds q true) q i e = e := by
  unfold pk
  rw [if_pos]
  simp [Array.getD, h]
theorem pk_no {za : Array Bool} {k : Nat} (h : ¬ za.getD k false = true) (i e : Array Value) : pk za k i e = i := by
  unfold pk
  rw [if_neg h]
theorem xv_upd {L : List Sp} {bs : Nat → Nat} {q k : Nat} (h : k ≠ q) (n : Nat) : xv L (fun j => if j = q then n else bs j) k = xv L bs k := by
  unfold xv
  simp only [if_neg h]
/-- Behind the last operation. -/
structure RF (wk : World) (w : World) (N0 : Nat) (G : List (Nat × Array Value)) (L : List Sp) (bs : Nat → Nat) (w' : World) : Prop where
  bw : Below w.heap.size w w'
  row : ∀ (n : Nat) {g : Nat} {c : Array Value}, G[n]? = some (g, c) → zb w' g c
  al : ∀ (k : Nat) {f st i e}, L[k]? = some (sA f st i e) → decide (st < L.length) = true → N0 ≤ bs k ∧ zb w' (bs k) e
  ali : ∀ (k : Nat) {f st i e}, L[k]? = some (sA f st i e) → decide (st < L.length) = false → N0 ≤ bs k ∧ zb w' (bs k) i
  ne : ∀ j k, j ≠ k → isAl L j = true → isAl L k = true → bs j ≠ bs k
  sk : ∀ (k : Nat) {g : Nat} {i e}, L[k]? = some (sK g i e) → zb w' g e
  ko : KO wk w'
theorem regV_told {P : Program} {ops : Array Oper} {Q : Exit → Act → World → Prop} {a : Act} {w0 w : World} (hb : qi ops = true) (hB : kn ops = true)
    (G : List (Nat × Array Value)) (L : List Sp) (hst : stB ops L = true) (bw : Below w0.heap.size w0 w) (hG : yy w G) (hS : StOk w0.heap.size w G L)
    (hO : Obs P ops Q a w0 w.heap.size G L 0 L) (hend : ∀ bs w' a', a' = zbd ops (xv L bs) a → RF w w0 w.heap.size G L bs w' → Q .normal a' w') : RegV P ops Q a w := by
  have hlen : L.length = ops.size := by
    simp only [stB, Bool.and_eq_true, decide_eq_true_eq] at hst
    exact hst.1
  have hal : ∀ (k : Nat) f st i e, L[k]? = some (sA f st i e) → L.length ≤ st ∨ (L[st]? = some (sS k) ∧ ya ops st k = true) := by
    intro k f st i e hk
    simp only [stB, Bool.and_eq_true, decide_eq_true_eq, List.all_eq_true, List.mem_range] at hst
    have hkl : k < L.length := (List.getElem?_eq_some_iff.1 hk).1
    have h := hst.2 k hkl
    simp only [hk, Bool.or_eq_true, decide_eq_true_eq, Bool.and_eq_true] at h
    rcases h with h | ⟨h1, h2⟩
    · exact .inl h
    · right
      refine ⟨?_, h2⟩
      cases hs : L[st]? with
      | none => rw [hs] at h1; simp at h1
      | some s =>
        rw [hs] at h1
        rcases s with v | x | al | x
        · simp at h1
        · simp at h1
        · simp at h1; rw [h1]
        · simp at h1
  have hsa : ∀ (k al : Nat), L[k]? = some (sS al) → ∃ f i e, L[al]? = some (sA f k i e) := by
    intro k al hk
    simp only [stB, Bool.and_eq_true, decide_eq_true_eq, List.all_eq_true, List.mem_range] at hst
    have hkl : k < L.length := (List.getElem?_eq_some_iff.1 hk).1
    have h := hst.2 k hkl
    simp only [hk] at h
    cases hs : L[al]? with
    | none => rw [hs] at h; simp at h
    | some s =>
      rw [hs] at h
      rcases s with v | ⟨f, st, i, e⟩ | x | x
      · simp at h
      · simp at h; rw [h]; exact ⟨f, i, e, rfl⟩
      · simp at h
      · simp at h
  refine vu hb hB (fun za vs w' => ∃ bs, RI w ops w0 w.heap.size G L bs za vs w') ?_ ?_ ?_
  · intro w1 hw1
    have hw2 : Below w0.heap.size w0 w1 := by rcases hw1 with rfl | rfl; · exact bw
                                              exact bw.drew
    have hw3 : w1.heap = w.heap := by rcases hw1 with rfl | rfl <;> rfl
    have hw4 : ∀ {g c}, zb w g c → zb w1 g c := fun ⟨t, h⟩ => ⟨t, by rw [hw3]; exact h⟩
    refine ⟨fun _ => 0, hw2, by rw [hw3]; exact Nat.le_refl _, fun n g c h => hw4 (hG.get n g c h), ?_, ?_, ?_, ?_, ?_, by simp, by rw [hw3]; exact Nat.le_refl _, fun k o hk _ => by rw [hw3]; exact hk⟩
    · intro k h; simp [Array.getD] at h
    · intro k f st i e _ h; simp [Array.getD] at h
    · intro j k _ _ _ h; simp [Array.getD] at h
    · intro k g i e h
      rw [pk_no (by simp [Array.getD])]
      exact hw4 (hS.get k g i e h).1
    · intro j k _ h; simp [Array.getD] at h
  · rintro za vs a' w' i o hs ho hi hF ⟨bs, cc⟩
    have hil : i < L.length := by rw [hlen]; exact (Array.getElem?_eq_some_iff.1 ho).1
    have his : i < za.size := by omega
    have hun : ¬ za.getD i false = true := fun h => zai hi hs h
    have T : ∀ j, j ≠ i → (za.setIfInBounds i true).getD j false = true → za.getD j false = true := fun j hj h => (zm h).resolve_left hj
    have S : ∀ j, za.getD j false = true → (za.setIfInBounds i true).getD j false = true := fun j h => z6 h
    have hwt : ∀ j k, ya ops k j = true → (za.setIfInBounds i true).getD k false = true → (za.setIfInBounds i true).getD j false = true := by
      intro j k hjk hk
      rcases zm hk with rfl | hk
      · exact S j (zk hjk hi)
      · exact S j (cc.wt j k hjk hk)
    have hsz : (za.setIfInBounds i true).size = ops.size := by rw [Array.size_setIfInBounds]; exact hs
    have ho' : yx ops i = o := opAt_eq ho
    have E : RE ops a w0 w.heap.size G L i a' w' := by
      refine ⟨cc.bw, cc.ms, fun n {g} {c} h => cc.rw n g c h, fun t h => hF.old h, fun t j h1 h2 => ?_, fun t j {v} h1 h2 => ?_, fun t j {f st i1 e} h1 h2 h3 => ?_, fun j {g i1 e} h1 h2 => ?_, fun j {g i1 e} h1 h2 => ?_⟩
      · have hn : ¬ za.getD j false = true := fun h => hun (cc.wt i j h2 h)
        show a'.tmps.getD t undef = a.tmps.getD t undef
        rw [Array.getD_eq_getD_getElem?, Array.getD_eq_getD_getElem?]
        by_cases ht : t < a.tmps.size
        · rw [hF.2.2 t ht, h1]
          simp only [hn, if_false, Bool.false_eq_true]
        · rw [Array.getElem?_eq_none (by have := hF.2.1; omega), Array.getElem?_eq_none (by omega)]
      · simp only [newB, Bool.and_eq_true, beq_iff_eq, decide_eq_true_eq] at h1
        have hd := zk h1.1.2 hi
        rw [hF.new h1.1.1 h1.2 hd, cc.vl j hd]
        unfold xv
        rw [h2]
      · simp only [newB, Bool.and_eq_true, beq_iff_eq, decide_eq_true_eq] at h1
        have hd := zk h1.1.2 hi
        obtain ⟨k1, k2⟩ := cc.al j f st i1 e h2 hd
        refine ⟨bs j, ?_, k1, ?_⟩
        · rw [hF.new h1.1.1 h1.2 hd, cc.vl j hd]
          unfold xv
          rw [h2]
        · have : ¬ za.getD st false = true := by
            intro h
            have : st < za.size := by
              rcases Nat.lt_or_ge st za.size with h' | h'
              · exact h'
              · simp [Array.getD, Nat.not_lt.2 h'] at h
            omega
          rw [pk_no this] at k2
          exact k2
      · have hn : ¬ za.getD j false = true := fun h => hun (cc.wt i j h2 h)
        have := cc.sk j g i1 e h1
        rw [pk_no hn] at this
        exact this
      · have hd := zk h2 hi
        have := cc.sk j g i1 e h1
        unfold pk at this
        rw [if_pos hd] at this
        exact this
    have hOb : Ob P ops Q a w0 w.heap.size G L i L[i] := by
      have := Obs.at L 0 hO i L[i] (List.getElem?_eq_getElem hil)
      rwa [Nat.zero_add] at this
    have hLi : L[i]? = some L[i] := List.getElem?_eq_getElem hil
    generalize L[i] = s at hOb hLi
    have stne : ∀ (k : Nat) f st i1 e, L[k]? = some (sA f st i1 e) → (∀ al, s ≠ sS al) → i ≠ st := by
      intro k f st i1 e hk hne
      rcases hal k f st i1 e hk with h | ⟨h, _⟩
      · omega
      · rintro rfl
        rw [hLi] at h
        exact hne k (Option.some.inj h)
    rcases s with v | ⟨f, st, i1, e⟩ | al | ⟨g, i1, e⟩
    · refine yq ?_ (ho' ▸ hOb a' w' E)
      rintro a'' w'' ⟨rfl, hbl⟩
      refine ⟨v, rfl, bs, cc.bw.trans (hbl.mono cc.bw.size), Nat.le_trans cc.ms hbl.size, fun n g c h => (cc.rw n g c h).below hbl, ?_, ?_, ?_, ?_, hwt, hsz, cc.ko.trans (KO.below hbl)⟩
      · intro k hk
        by_cases e : k = i
        · subst e
          rw [if_pos rfl]
          unfold xv
          rw [hLi]
        · rw [if_neg e]
          exact cc.vl k (T k e hk)
      · intro k f st i1 e hk hd
        have e1 : k ≠ i := by rintro rfl; rw [hLi] at hk; cases hk
        obtain ⟨k1, k2⟩ := cc.al k f st i1 e hk (T k e1 hd)
        rw [pk_ne (stne k f st i1 e hk (by intro al h; cases h))]
        exact ⟨k1, k2.below hbl⟩
      · intro j k hjk h1 h2 d1 d2
        have e1 : j ≠ i := by rintro rfl; simp [isAl, hLi] at h1
        have e2 : k ≠ i := by rintro rfl; simp [isAl, hLi] at h2
        exact cc.ne j k hjk h1 h2 (T j e1 d1) (T k e2 d2)
      · intro k g i1 e hk
        have e1 : i ≠ k := by rintro rfl; rw [hLi] at hk; cases hk
        rw [pk_ne e1]
        exact (cc.sk k g i1 e hk).below hbl
    · refine yq ?_ (ho' ▸ hOb a' w' E)
      rintro a'' w'' ⟨rfl, t, rfl⟩
      have hst0 := stne i f st i1 e hLi (by intro al h; cases h)
      have hstn : ¬ za.getD st false = true := by
        intro h
        rcases hal i f st i1 e hLi with h' | ⟨_, h'⟩
        · have : st < za.size := by
            rcases Nat.lt_or_ge st za.size with q | q
            · exact q
            · simp [Array.getD, Nat.not_lt.2 q] at h
          omega
        · exact hun (cc.wt i st h' h)
      refine ⟨f w'.heap.size, rfl, fun j => if j = i then w'.heap.size else bs j, zdb cc.bw _, by have := cc.ms; simp; omega, fun n g c h => (cc.rw n g c h).old, ?_, ?_, ?_, ?_, hwt, hsz, cc.ko.trans (KO.below (zdb (Below.refl _ _) _))⟩
      · intro k hk
        by_cases e1 : k = i
        · subst e1
          rw [if_pos rfl]
          unfold xv
          rw [hLi]
          simp
        · rw [if_neg e1, xv_upd e1]
          exact cc.vl k (T k e1 hk)
      · intro k f2 st2 i2 e2 hk hd
        by_cases e1 : k = i
        · subst e1
          rw [hLi] at hk
          cases hk
          rw [if_pos rfl, pk_ne hst0, pk_no hstn]
          exact ⟨cc.ms, zb.last rfl⟩
        · obtain ⟨k1, k2⟩ := cc.al k f2 st2 i2 e2 hk (T k e1 hd)
          rw [if_neg e1, pk_ne (stne k f2 st2 i2 e2 hk (by intro al h; cases h))]
          exact ⟨k1, k2.old⟩
      · have lt : ∀ k, k ≠ i → isAl L k = true → za.getD k false = true → bs k < w'.heap.size := by
          intro k hk h1 h2
          cases hs : L[k]? with
          | none => simp [isAl, hs] at h1
          | some s =>
            rcases s with v | ⟨f2, st2, i2, e2⟩ | x | x
            · simp [isAl, hs] at h1
            · exact (cc.al k f2 st2 i2 e2 hs h2).2.lt
            · simp [isAl, hs] at h1
            · simp [isAl, hs] at h1
        intro j k hjk h1 h2 d1 d2
        by_cases e1 : j = i
        · have e2 : k ≠ i := fun h => hjk (e1.trans h.symm)
          rw [if_pos e1, if_neg e2]
          have := lt k e2 h2 (T k e2 d2)
          omega
        · by_cases e2 : k = i
          · rw [if_neg e1, if_pos e2]
            have := lt j e1 h1 (T j e1 d1)
            omega
          · rw [if_neg e1, if_neg e2]
            exact cc.ne j k hjk h1 h2 (T j e1 d1) (T k e2 d2)
      · intro k g i2 e2 hk
        have e1 : i ≠ k := by rintro rfl; rw [hLi] at hk; cases hk
        rw [pk_ne e1]
        exact (cc.sk k g i2 e2 hk).old
    · obtain ⟨f, i1, e, hk⟩ := hsa i al hLi
      have hwa : ya ops i al = true := by
        rcases hal al f i i1 e hk with h | h
        · omega
        · exact h.2
      have hd := zk hwa hi
      obtain ⟨k1, k2⟩ := cc.al al f i i1 e hk hd
      rw [pk_no hun] at k2
      have hne : al ≠ i := by rintro rfl; rw [hLi] at hk; cases hk
      refine yq ?_ (ho' ▸ hOb a' w' (bs al) f i i1 e hk E (fun t ht => ?_) k2)
      · rintro a'' w'' ⟨rfl, rfl⟩
        refine ⟨undef, rfl, bs, kg cc.bw (Nat.le_trans bw.size k1) _, by rw [zaf]; exact cc.ms, fun n g c h => (cc.rw n g c h).set_other _ ?_, ?_, ?_, ?_, ?_, hwt, hsz, cc.ko.trans (KO.setRow k2 _)⟩
        · have := (hG.get n g c h).lt; omega
        · intro k hk'
          by_cases e1 : k = i
          · subst e1
            rw [if_pos rfl]
            unfold xv
            rw [hLi]
          · rw [if_neg e1]
            exact cc.vl k (T k e1 hk')
        · intro k f2 st2 i2 e2 hk2 hd2
          have e1 : k ≠ i := by rintro rfl; rw [hLi] at hk2; cases hk2
          obtain ⟨m1, m2⟩ := cc.al k f2 st2 i2 e2 hk2 (T k e1 hd2)
          by_cases e2 : k = al
          · subst e2
            rw [hk] at hk2
            cases hk2
            rw [pk_me his]
            exact ⟨m1, k2.set_same _⟩
          · have e3 : i ≠ st2 := by
              rintro rfl
              rcases hal k f2 i i2 _ hk2 with h | ⟨h, _⟩
              · omega
              · rw [hLi] at h
                cases h
                exact e2 rfl
            rw [pk_ne e3]
            exact ⟨m1, m2.set_other _ (cc.ne al k (Ne.symm e2) (by simp [isAl, hk]) (by simp [isAl, hk2]) hd (T k e1 hd2))⟩
        · intro j k hjk h1 h2 d1 d2
          have e1 : j ≠ i := by rintro rfl; simp [isAl, hLi] at h1
          have e2 : k ≠ i := by rintro rfl; simp [isAl, hLi] at h2
          exact cc.ne j k hjk h1 h2 (T j e1 d1) (T k e2 d2)
        · intro k g i2 e2 hk2
          have e1 : i ≠ k := by rintro rfl; rw [hLi] at hk2; cases hk2
          rw [pk_ne e1]
          refine (cc.sk k g i2 e2 hk2).set_other _ ?_
          have := (hS.get k g i2 e2 hk2).1.lt
          omega
      · simp only [newB, Bool.and_eq_true, beq_iff_eq, decide_eq_true_eq] at ht
        rw [hF.new ht.1.1 ht.2 hd, cc.vl al hd]
        unfold xv
        rw [hk]
    · have k2 := cc.sk i g i1 e hLi
      rw [pk_no hun] at k2
      obtain ⟨x1, x2, x3⟩ := hS.get i g i1 e hLi
      have hgl := x1.lt
      refine yq ?_ (ho' ▸ hOb a' w' E k2)
      rintro a'' w'' ⟨rfl, rfl⟩
      refine ⟨undef, rfl, bs, kg cc.bw x2 _, by rw [zaf]; exact cc.ms, fun n g' c h => (cc.rw n g' c h).set_other _ (x3.get n g' c h).symm, ?_, ?_, ?_, ?_, hwt, hsz, cc.ko.trans (KO.setRow k2 _)⟩
      · intro k hk'
        by_cases e1 : k = i
        · subst e1
          rw [if_pos rfl]
          unfold xv
          rw [hLi]
        · rw [if_neg e1]
          exact cc.vl k (T k e1 hk')
      · intro k f2 st2 i2 e2 hk2 hd2
        have e1 : k ≠ i := by rintro rfl; rw [hLi] at hk2; cases hk2
        obtain ⟨m1, m2⟩ := cc.al k f2 st2 i2 e2 hk2 (T k e1 hd2)
        rw [pk_ne (stne k f2 st2 i2 e2 hk2 (by intro al h; cases h))]
        exact ⟨m1, m2.set_other _ (by omega)⟩
      · intro j k hjk h1 h2 d1 d2
        have e1 : j ≠ i := by rintro rfl; simp [isAl, hLi] at h1
        have e2 : k ≠ i := by rintro rfl; simp [isAl, hLi] at h2
        exact cc.ne j k hjk h1 h2 (T j e1 d1) (T k e2 d2)
      · intro k g2 i2 e2 hk2
        by_cases e1 : i = k
        · subst e1
          rw [hLi] at hk2
          cases hk2
          rw [pk_me his]
          exact k2.set_same _
        · rw [pk_ne e1]
          refine (cc.sk k g2 i2 e2 hk2).set_other _ ?_
          rcases Nat.lt_or_ge i k with hlt | hge
          · exact (StOk.apart hS i k g i1 e g2 i2 e2 hlt hLi hk2).symm
          · exact StOk.apart hS k i g2 i2 e2 g i1 e (by omega) hk2 hLi
  · rintro za vs a' w' hd hF ⟨bs, cc⟩
    have hvs : zbd ops vs a = zbd ops (xv L bs) a := by
      unfold zbd
      congr 1
      apply Array.ext
      · simp
      · intro t h1 h2
        simp only [Array.getElem_ofFn]
        cases hw : wr ops t with
        | none => rfl
        | some j =>
          have hj : j < ops.size := by
            have := List.mem_of_find?_eq_some hw
            simpa using this
          exact cc.vl j (hd j hj)
    rw [hF.all hd, hvs]
    refine hend bs w' _ rfl ⟨cc.bw, fun n {g c} h => cc.rw n g c h, fun k {f st i e} h h' => ?_, fun k {f st i e} h h' => ?_, fun j k hjk h1 h2 => ?_, fun k {g i e} h => ?_, cc.ko⟩
    · have hkl : k < L.length := (List.getElem?_eq_some_iff.1 h).1
      obtain ⟨k1, k2⟩ := cc.al k f st i e h (hd k (by omega))
      have hlt := of_decide_eq_true h'
      unfold pk at k2
      rw [if_pos (hd st (by omega))] at k2
      exact ⟨k1, k2⟩
    · have hkl : k < L.length := (List.getElem?_eq_some_iff.1 h).1
      obtain ⟨k1, k2⟩ := cc.al k f st i e h (hd k (by omega))
      have hge := of_decide_eq_false h'
      have : ¬ za.getD st false = true := by
        intro h'
        have : st < za.size := by
          rcases Nat.lt_or_ge st za.size with q | q
          · exact q
          · simp [Array.getD, Nat.not_lt.2 q] at h'
        have := cc.sz
        omega
      rw [pk_no this] at k2
      exact ⟨k1, k2⟩
    · have lt : ∀ k, isAl L k = true → k < ops.size := by
        intro k h
        rcases Nat.lt_or_ge k L.length with h' | h'
        · omega
        · simp [isAl, List.getElem?_eq_none h'] at h
      exact cc.ne j k hjk h1 h2 (hd j (lt j h1)) (hd k (lt k h2))
    · have hkl : k < L.length := (List.getElem?_eq_some_iff.1 h).1
      have := cc.sk k g i e h
      unfold pk at this
      rw [if_pos (hd k (by omega))] at this
      exact this
def stks : List Sp → List (Nat × Array Value)
  | [] => []
  | Sum.inr (Sum.inr (Sum.inr (g, i, _))) :: l => (g, i) :: stks l
  | Sum.inl _ :: l => stks l
  | Sum.inr (Sum.inl _) :: l => stks l
  | Sum.inr (Sum.inr (Sum.inl _)) :: l => stks l
def StM (B : Nat) (w : World) (G : List (Nat × Array Value)) : List (Nat × Array Value) → Prop
  | [] => True
  | p :: l => (zb w p.1 p.2 ∧ B ≤ p.1 ∧ vw p.1 G ∧ vw p.1 l) ∧ StM B w G l
theorem zbn {g : Nat} : ∀ {l : List Sp}, vw g (stks l) → zca g l
  | [], _ => trivial
  | Sum.inr (Sum.inr (Sum.inr _)) :: l, h => ⟨h.1, zbn (l := l) h.2⟩
  | Sum.inl _ :: l, h => zbn (l := l) h
  | Sum.inr (Sum.inl _) :: l, h => zbn (l := l) h
  | Sum.inr (Sum.inr (Sum.inl _)) :: l, h => zbn (l := l) h
theorem stOk_of {B : Nat} {w : World} {G : List (Nat × Array Value)} : ∀ {l : List Sp}, StM B w G (stks l) → StOk B w G l
  | [], _ => trivial
  | Sum.inr (Sum.inr (Sum.inr _)) :: l, h => ⟨⟨h.1.1, h.1.2.1, h.1.2.2.1, zbn (l := l) h.1.2.2.2⟩, stOk_of (l := l) h.2⟩
  | Sum.inl _ :: l, h => stOk_of (l := l) h
  | Sum.inr (Sum.inl _) :: l, h => stOk_of (l := l) h
  | Sum.inr (Sum.inr (Sum.inl _)) :: l, h => stOk_of (l := l) h
theorem StOk.of {B : Nat} {w : World} {G : List (Nat × Array Value)} {l : List Sp} (M : List (Nat × Array Value)) (h : stks l = M) (hM : StM B w G M) : StOk B w G l := by
  subst h
  exact stOk_of hM
theorem StM.nil {B : Nat} {w : World} {G : List (Nat × Array Value)} : StM B w G [] := trivial
theorem StM.cons {B : Nat} {w : World} {G : List (Nat × Array Value)} {g : Nat} {c : Array Value} {l : List (Nat × Array Value)} (h1 : zb w g c) (h2 : B ≤ g) (h3 : vw g G) (h4 : vw g l) (h : StM B w G l) : StM B w G ((g, c) :: l) := ⟨⟨h1, h2, h3, h4⟩, h⟩
theorem vw.nil {g : Nat} : vw g [] := trivial
theorem vw.cons {g g' : Nat} {c : Array Value} {l : List (Nat × Array Value)} (h : g' ≠ g) (t : vw g l) : vw g ((g', c) :: l) := ⟨h, t⟩
theorem yy.nil {w : World} : yy w [] := trivial
theorem yy.cons {w : World} {g : Nat} {c : Array Value} {l : List (Nat × Array Value)} (h : zb w g c) (t : yy w l) : yy w ((g, c) :: l) := ⟨h, t⟩
section
variable {P : Program} {ops : Array Oper} {Q : Exit → Act → World → Prop} {a : Act} {w : World} {N0 : Nat} {G : List (Nat × Array Value)} {L : List Sp} {k : Nat} {l : List Sp}
theorem Obs.nil : Obs P ops Q a w N0 G L k [] := trivial
theorem Obs.val {v : Value} (h : ∀ a' w', RE ops a w N0 G L k a' w' → (yx ops k).wp P a' w' (fun a'' w'' => a'' = a'.put (yx ops k).dst v ∧ Below w'.heap.size w' w'') Q) (t : Obs P ops Q a w N0 G L (k + 1) l) (hg : (yx ops k).guard = none := by rfl) : Obs P ops Q a w N0 G L k (sV v :: l) := ⟨fun a' w' E => yg hg (h a' w' E), t⟩
/-- A guarded operation that is wanted. -/
theorem Obs.gval {v : Value} {j : Nat} {b : Bool} {tj : Nat} (hg : (yx ops k).guard = some (j, b)) (hj : (ops[j]?).bind (·.dst) = some tj) (hb : ∀ a' w', RE ops a w N0 G L k a' w' → a'.eval (.tmp tj) = .bool b)
    (h : ∀ a' w', RE ops a w N0 G L k a' w' → (yx ops k).wp P a' w' (fun a'' w'' => a'' = a'.put (yx ops k).dst v ∧ Below w'.heap.size w' w'') Q) (t : Obs P ops Q a w N0 G L (k + 1) l) : Obs P ops Q a w N0 G L k (sV v :: l) :=
  ⟨fun a' w' E => by
    unfold wpG
    have e : a'.tmps[tj]? = some (.bool b) := by
      have h1 := hb a' w' E
      have h2 : a'.tmps[tj]?.getD undef = .bool b := by rw [← h1]; simp [Act.eval]
      cases h3 : a'.tmps[tj]? with
      | none => rw [h3] at h2; cases h2
      | some v => rw [h3] at h2; exact congrArg some h2
    rw [if_pos (by simp [Region.wanted, hg, yielded, hj, e])]
    exact h a' w' E, t⟩
/-- A guarded operation that is not wanted. -/
theorem Obs.skip {j : Nat} {b b' : Bool} {tj : Nat} (hg : (yx ops k).guard = some (j, b)) (hj : (ops[j]?).bind (·.dst) = some tj) (hb : ∀ a' w', RE ops a w N0 G L k a' w' → a'.eval (.tmp tj) = .bool b') (hne : b' ≠ b)
    (t : Obs P ops Q a w N0 G L (k + 1) l) : Obs P ops Q a w N0 G L k (sV undef :: l) :=
  ⟨fun a' w' E => by
    unfold wpG
    have e : a'.tmps[tj]? = some (.bool b') := by
      have h1 := hb a' w' E
      have h2 : a'.tmps[tj]?.getD undef = .bool b' := by rw [← h1]; simp [Act.eval]
      cases h3 : a'.tmps[tj]? with
      | none => rw [h3] at h2; cases h2
      | some v => rw [h3] at h2; exact congrArg some h2
    rw [if_neg (by simp [Region.wanted, hg, yielded, hj, e, hne])]
    exact ⟨rfl, Below.refl _ _⟩, t⟩
/-- A guarded operation whose guard is itself skipped. -/
theorem Obs.skipU {j : Nat} {b : Bool} {tj : Nat} (hg : (yx ops k).guard = some (j, b)) (hj : (ops[j]?).bind (·.dst) = some tj) (hb : ∀ a' w', RE ops a w N0 G L k a' w' → a'.eval (.tmp tj) = undef)
    (t : Obs P ops Q a w N0 G L (k + 1) l) : Obs P ops Q a w N0 G L k (sV undef :: l) :=
  ⟨fun a' w' E => by
    unfold wpG
    have e : ∀ b, a'.tmps[tj]? ≠ some (.bool b) := by
      intro b h3
      have h1 := hb a' w' E
      have h4 : a'.eval (.tmp tj) = a'.tmps[tj]?.getD undef := by simp [Act.eval]
      have h2 : a'.tmps[tj]?.getD undef = undef := by rw [← h4]; exact h1
      rw [h3] at h2
      cases h2
    have e2 : yielded ops a'.tmps j = none := by
      unfold yielded
      rw [hj]
      show (match a'.tmps[tj]? with | some (.bool b) => some b | _ => none) = none
      split
      · next b h => exact absurd h (e b)
      · rfl
    rw [if_neg (by simp [Region.wanted, hg, e2])]
    exact ⟨rfl, Below.refl _ _⟩, t⟩
theorem Obs.alloc {f : Nat → Value} {st : Nat} {i e : Array Value} (h : ∀ a' w', RE ops a w N0 G L k a' w' → (yx ops k).wp P a' w' (fun a'' w'' => a'' = a'.put (yx ops k).dst (f w'.heap.size) ∧ ∃ t, w'' = w'.alloc (.cells i t)) Q)
    (t : Obs P ops Q a w N0 G L (k + 1) l) (hg : (yx ops k).guard = none := by rfl) : Obs P ops Q a w N0 G L k (sA f st i e :: l) := ⟨fun a' w' E => yg hg (h a' w' E), t⟩
variable {o : Oper} {a' : Act} {w' : World}
theorem ob_val {v : Value} (h : (execOp a'.eval o).run P w' = .ok (.value v) w') : o.wp P a' w' (fun a'' w'' => a'' = a'.put o.dst v ∧ Below w'.heap.size w' w'') Q := xy h ⟨rfl, Below.refl _ _⟩
theorem ob_call {f : FuncId} {args : Array Value} {v : Value} (hrun : (execOp a'.eval o).run P w' = .ok (.enter f args) w') (hc : Calls P f args w' fun e w'' => e = .returned v ∧ Below w'.heap.size w' w'') :
    o.wp P a' w' (fun a'' w'' => a'' = a'.put o.dst v ∧ Below w'.heap.size w' w'') Q := wp_callF hrun hc (fun _ hb => ⟨rfl, hb⟩)
theorem ob_alloc {v : Value} {i : Array Value} {t : TypeId} (h : (execOp a'.eval o).run P w' = .ok (.value v) (w'.alloc (.cells i t))) : o.wp P a' w' (fun a'' w'' => a'' = a'.put o.dst v ∧ ∃ t, w'' = w'.alloc (.cells i t)) Q := xy h ⟨rfl, t, rfl⟩
end

theorem zb.c4 {w : World} {g : Nat} {a b c d : Value} (h : zb w g #[a, b, c, d]) : w.cell? ⟨g, 0, none⟩ = some a ∧ w.cell? ⟨g, 1, none⟩ = some b ∧ w.cell? ⟨g, 2, none⟩ = some c ∧ w.cell? ⟨g, 3, none⟩ = some d := ⟨h.cell 0, h.cell 1, h.cell 2, h.cell 3⟩
theorem zb.c1 {w : World} {g : Nat} {a : Value} (h : zb w g #[a]) : w.cell? ⟨g, 0, none⟩ = some a := h.cell 0
/-- The rows at hand, and that nothing older was touched. -/
structure RB (w w' : World) (G : List (Nat × Array Value)) : Prop where
  b : Below w.heap.size w w'
  r : yy w' G
theorem RB.at {w w' : World} {G : List (Nat × Array Value)} (h : RB w w' G) (n : Nat) {g : Nat} {c : Array Value} (e : G[n]? = some (g, c)) : zb w' g c := h.r.get n g c e
theorem yy.below {w w' : World} (hb : Below w.heap.size w w') : ∀ {G : List (Nat × Array Value)}, yy w G → yy w' G
  | [], _ => trivial
  | _ :: l, h => ⟨h.1.below hb, yy.below (G := l) hb h.2⟩
theorem yy.old {w : World} {o : Obj} : ∀ {G : List (Nat × Array Value)}, yy w G → yy (w.alloc o) G
  | [], _ => trivial
  | _ :: l, h => ⟨h.1.old, yy.old (G := l) h.2⟩
/-- Block g is none of the list's but number n. -/
def ApartX (g : Nat) : Nat → List (Nat × Array Value) → Prop
  | _, [] => True
  | 0, _ :: l => vw g l
  | n + 1, p :: l => p.1 ≠ g ∧ ApartX g n l
theorem yy.other {w : World} {g : Nat} (c' : Array Value) : ∀ {G : List (Nat × Array Value)}, yy w G → vw g G → yy (w.setRow g c') G
  | [], _, _ => trivial
  | _ :: l, h, k => ⟨h.1.set_other _ (Ne.symm k.1), yy.other (G := l) c' h.2 k.2⟩
theorem yy.put {w : World} {g : Nat} {c : Array Value} (c' : Array Value) : ∀ {G : List (Nat × Array Value)} (n : Nat), yy w G → G[n]? = some (g, c) → ApartX g n G → yy (w.setRow g c') (G.set n (g, c'))
  | [], n, _, e, _ => by simp at e
  | p :: l, 0, h, e, k => by
    simp at e
    subst e
    exact ⟨h.1.set_same _, yy.other (G := l) c' h.2 k⟩
  | p :: l, n + 1, h, e, k => ⟨h.1.set_other _ (Ne.symm k.1), yy.put (G := l) c' n h.2 (by simpa using e) k.2⟩
theorem ApartX.nil {g n : Nat} : ApartX g n [] := by cases n <;> trivial
theorem ApartX.cons {g g' n : Nat} {c : Array Value} {l : List (Nat × Array Value)} (h : g' ≠ g) (t : ApartX g n l) : ApartX g (n + 1) ((g', c) :: l) := ⟨h, t⟩
end Go.Proofs.YtdeompgdhaomgaaGreatDoor
