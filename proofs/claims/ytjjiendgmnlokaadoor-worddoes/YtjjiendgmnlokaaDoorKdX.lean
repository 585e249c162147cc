/- Laid one behind the other: Ua, Ub, Uc, Ud, Ue, Uf, Ug, Uh, Ui, Uj, Uk. -/
import Derived.Test.YtjjiendgmnlokaaDoorKdY
/- Drawn regions in which nothing that there is turns: most operations are reckoned, some are told apart, each by what its value is. No function of the program is named here. -/
namespace Go.Proofs.YtjjiendgmnlokaaDoor
open Go.RowKit Go.Sort
set_option linter.unusedVariables false
set_option maxRecDepth 100000
abbrev Spt : Type := List (Nat × Option Value)
def spec (sp : Spt) (j : Nat) : Option (Option Value) := (sp.find? fun p => p.1 == j).map (·.2)
theorem spec_mem {sp : Spt} {j : Nat} {x : Option Value} (h : spec sp j = some x) : (j, x) ∈ sp := by
  unfold spec at h
  rw [Option.map_eq_some_iff] at h
  obtain ⟨p, h1, h2⟩ := h
  have h3 := List.find?_some h1
  have h4 := List.mem_of_find?_eq_some h1
  simp only [beq_iff_eq] at h3
  obtain ⟨p1, p2⟩ := p
  simp only at h2 h3
  subst h2 h3
  exact h4
theorem mem_spec {sp : Spt} {p : Nat × Option Value} (h : p ∈ sp) : ∃ x, spec sp p.1 = some x := by
  unfold spec
  cases hq : sp.find? fun q => q.1 == p.1 with
  | none =>
    have := List.find?_eq_none.1 hq p h
    simp at this
  | some q => exact ⟨q.2, rfl⟩
section
variable (P : Program) (T : World → Prop) (fo : Nat → Nat → Option Nat) (io : Nat → Int → Option Nat)
def goS (sp : Spt) (ops : Array Oper) (tm : Vs) (rows : Rows) : List Oper → Nat → Vs → List (Fa P T) → Option (Vs × List (Fa P T) × List (Value × Value))
  | [], _, vals, _ => some (vals, [], [])
  | o :: os, k, vals, fs => match spec sp k with
    | some x => (goS sp ops tm rows os (k + 1) (vals ++ [x.map Sum.inl]) fs).map fun r => (r.1, Sum.inl () :: r.2.1, r.2.2)
    | none => match qop P T fo io ops tm rows vals k o (Sum.inl ()) with
      | some (s, e) => (goS sp ops tm rows os (k + 1) (vals ++ [s]) fs).map fun r => (r.1, Sum.inl () :: r.2.1, e ++ r.2.2)
      | none => match fs with
        | [] => none
        | f :: fs' => match qop P T fo io ops tm rows vals k o f with
          | some (s, e) => (goS sp ops tm rows os (k + 1) (vals ++ [s]) fs').map fun r => (r.1, f :: r.2.1, e ++ r.2.2)
          | none => none
end
def tmS (ops : Array Oper) (sp : Spt) (tm vals : Vs) (vs : Nat → Value) : Vs := (List.range tm.length).map fun t => match wr ops t with
  | some j => (match spec sp j with
    | some _ => some (Sum.inl (vs j))
    | none => (vals[j]?).join)
  | none => (tm[t]?).join
theorem ids_tmS {ops : Array Oper} {sp : Spt} {tm vals : Vs} {vs : Nat → Value} {nx : Nat} (h : idsB (tmS ops sp tm vals fun _ => undef) nx = true) : idsB (tmS ops sp tm vals vs) nx = true := by
  unfold idsB tmS at h ⊢
  rw [List.all_map, List.all_eq_true] at h ⊢
  intro t ht
  have := h t ht
  simp only [Function.comp] at this ⊢
  cases hw : wr ops t with
  | none => rw [hw] at this; exact this
  | some j =>
    rw [hw] at this
    simp only at this ⊢
    cases hs : spec sp j with
    | none => rw [hs] at this; exact this
    | some x => rfl
section
variable {P : Program} {T : World → Prop} {fo : Nat → Nat → Option Nat} {io : Nat → Int → Option Nat} {ze : Nat → Option (Array Value)} {ops : Array Oper} {tm : Vs} {rows : Rows} {sp : Spt}
theorem goS_spec : ∀ {os : List Oper} {k : Nat} {v0 vals : Vs} {fs us : List (Fa P T)} {e : List (Value × Value)}, v0.length = k → goS P T fo io sp ops tm rows os k v0 fs = some (vals, us, e) → (∀ p ∈ e, p.1 = p.2) →
    vals.length = k + os.length ∧ vals.take k = v0 ∧ ∀ j o, os[j]? = some o → (∀ x, spec sp (k + j) = some x → vals[k + j]? = some (x.map Sum.inl)) ∧ (spec sp (k + j) = none → ∃ f s e', qop P T fo io ops tm rows (vals.take (k + j)) (k + j) o f = some (s, e') ∧ (∀ p ∈ e', p.1 = p.2) ∧ vals[k + j]? = some s)
  | [], k, v0, vals, fs, us, e, hk, h, he => by
    simp only [goS, Option.some.injEq, Prod.mk.injEq] at h
    obtain ⟨rfl, rfl, rfl⟩ := h
    exact ⟨by simp [hk], by rw [← hk, List.take_length], fun j o ho => by simp at ho⟩
  | o :: os, k, v0, vals, fs, us, e, hk, h, he => by
    have main : ∀ {s : Option SV} {e1 : List (Value × Value)} {fs' us' : List (Fa P T)} {e2 : List (Value × Value)}, ((∀ x, spec sp k = some x → s = x.map Sum.inl) ∧ (spec sp k = none → ∃ f, qop P T fo io ops tm rows v0 k o f = some (s, e1))) → goS P T fo io sp ops tm rows os (k + 1) (v0 ++ [s]) fs' = some (vals, us', e2) → e = e1 ++ e2 →
        vals.length = k + (o :: os).length ∧ vals.take k = v0 ∧ ∀ j o', (o :: os)[j]? = some o' → (∀ x, spec sp (k + j) = some x → vals[k + j]? = some (x.map Sum.inl)) ∧ (spec sp (k + j) = none → ∃ f s e', qop P T fo io ops tm rows (vals.take (k + j)) (k + j) o' f = some (s, e') ∧ (∀ p ∈ e', p.1 = p.2) ∧ vals[k + j]? = some s) := by
      intro s e1 fs' us' e2 hq hg hee
      subst hee
      obtain ⟨h1, h2, h3⟩ := goS_spec (by simp [hk]) hg fun p hp => he p (List.mem_append_right _ hp)
      have ht : vals.take k = v0 := by
        have := congrArg (List.take k) h2
        rw [List.take_take, Nat.min_eq_left (Nat.le_succ k), List.take_append_of_le_length (by omega), ← hk, List.take_length] at this
        rw [← hk]; exact this
      have hvk : vals[k]? = some s := by
        have := congrArg (·[k]?) h2
        simp only [List.getElem?_take, Nat.lt_succ_self, if_true] at this
        rw [this]
        simp [hk]
      refine ⟨by simp only [List.length_cons]; omega, ht, fun j o' ho => ?_⟩
      cases j with
      | zero =>
        simp only [List.getElem?_cons_zero, Option.some.injEq] at ho
        subst ho
        rw [Nat.add_zero]
        refine ⟨fun x hx => by rw [hvk, hq.1 x hx], fun hn => ?_⟩
        obtain ⟨f, hf⟩ := hq.2 hn
        exact ⟨f, s, e1, by rw [ht]; exact hf, fun p hp => he p (List.mem_append_left _ hp), hvk⟩
      | succ j =>
        have := h3 j o' (by simpa using ho)
        rw [show k + (j + 1) = k + 1 + j by omega]
        exact this
    simp only [goS] at h
    split at h
    · next x hx =>
      simp only [Option.map_eq_some_iff, Prod.mk.injEq] at h
      obtain ⟨⟨v, u, e2⟩, hg, rfl, rfl, rfl⟩ := h
      exact main (e1 := []) ⟨fun y hy => (by rw [hx] at hy; cases hy; rfl), fun hn => (by rw [hx] at hn; cases hn)⟩ hg rfl
    · next hx =>
      split at h
      · next s e1 hq =>
        simp only [Option.map_eq_some_iff, Prod.mk.injEq] at h
        obtain ⟨⟨v, u, e2⟩, hg, rfl, rfl, rfl⟩ := h
        exact main ⟨fun y hy => (by rw [hx] at hy; cases hy), fun _ => ⟨_, hq⟩⟩ hg rfl
      · split at h
        · cases h
        · next f fs' =>
          split at h
          · next s e1 hq =>
            simp only [Option.map_eq_some_iff, Prod.mk.injEq] at h
            obtain ⟨⟨v, u, e2⟩, hg, rfl, rfl, rfl⟩ := h
            exact main ⟨fun y hy => (by rw [hx] at hy; cases hy), fun _ => ⟨_, hq⟩⟩ hg rfl
          · cases h
/-- What is known of what is done. -/
structure DS (ops : Array Oper) (sp : Spt) (β : Nat → Nat) (vals : Vs) (V : Nat → Value → World → Prop) (w : World) (listed : Array Bool) (vs : Nat → Value) (w' : World) : Prop where
  bw : Below w.heap.size w w'
  wt : ∀ j k, waitsB ops k j = true → listed.getD k false = true → listed.getD j false = true
  rk : ∀ j, listed.getD j false = true → spec sp j = none → vs j = upO β (vals[j]?).join
  sv : ∀ j x, listed.getD j false = true → spec sp j = some x → V j (vs j) w' ∧ ∀ u, x = some u → vs j = u
theorem DS.val {β : Nat → Nat} {vals : Vs} {V : Nat → Value → World → Prop} {w w' : World} {listed : Array Bool} {vs : Nat → Value} (D : DS ops sp β vals V w listed vs w') (hs : ∀ j x, spec sp j = some x → j < ops.size → vals[j]? = some (x.map Sum.inl)) {j : Nat} (hj : j < ops.size) (hl : listed.getD j false = true) {s : SV} (h : (vals[j]?).join = some s) : vs j = up β s := by
  cases hq : spec sp j with
  | none => rw [D.rk j hl hq, h]; rfl
  | some x =>
    have h1 := hs j x hq hj
    rw [h1] at h
    cases x with
    | none => cases h
    | some u =>
      simp only [Option.map_some, Option.join_some, Option.some.injEq] at h
      subst h
      exact (D.sv j _ hl hq).2 u rfl
theorem evF_ok {β : Nat → Nat} {vals : Vs} {V : Nat → Value → World → Prop} {w w' : World} {a a' : Act} {listed : Array Bool} {vs : Nat → Value} (D : DS ops sp β vals V w listed vs w') (hsv : ∀ j x, spec sp j = some x → j < ops.size → vals[j]? = some (x.map Sum.inl)) (hF : Frm ops vs a listed a') (ha : a.tmps = (tm.map (upO β)).toArray) {i : Nat} (hs : listed.size = ops.size) (hi : i ∈ Region.ready .any ops listed) {x : Operand} {s : SV} (h : evS ops tm (vals.take i) i x = some s) : a'.eval x = up β s := by
  have hun := undone hi hs
  cases x with
  | const v => simp only [evS, Option.some.injEq] at h; subst h; rfl
  | tmp t =>
    simp only [evS] at h
    cases hw : wr ops t with
    | none => rw [hw] at h; rw [hF.old hw]; exact tm_get ha h
    | some j =>
      rw [hw] at h
      simp only [] at h
      by_cases hn : newB ops tm.length i t j = true
      · rw [if_pos hn] at h
        simp only [newB, Bool.and_eq_true, beq_iff_eq, decide_eq_true_eq] at hn
        have hl := waits_done hn.1.2 hi
        have h2 := join_some h
        rw [List.getElem?_take] at h2
        split at h2
        · next hlt =>
          rw [hF.new hw (by rw [ha]; simpa using hn.2) hl]
          exact D.val hsv (wr_dst hw).2 hl (by rw [h2]; rfl)
        · cases h2
      · rw [if_neg hn] at h
        by_cases hq : waitsB ops j i = true
        · rw [if_pos hq] at h
          have hnl : ¬ listed.getD j false = true := fun hl => hun (D.wt i j hq hl)
          rw [← tm_get ha h]
          show a'.tmps.getD t undef = a.tmps.getD t undef
          rw [Array.getD_eq_getD_getElem?, Array.getD_eq_getD_getElem?]
          by_cases ht : t < a.tmps.size
          · rw [hF.2.2 t ht, hw]
            simp only [if_neg hnl]
          · have h1 : a.tmps.size ≤ t := Nat.le_of_not_lt ht
            have h2 : a'.tmps.size ≤ t := by rw [hF.2.1]; exact h1
            rw [Array.getElem?_eq_none h2, Array.getElem?_eq_none h1]
        · rw [if_neg hq] at h; cases h
  | global g => simp [evS] at h
  | func f => simp [evS] at h
theorem wantS_ok {β : Nat → Nat} {vals : Vs} {V : Nat → Value → World → Prop} {w w' : World} {a a' : Act} {listed : Array Bool} {vs : Nat → Value} (D : DS ops sp β vals V w listed vs w') (hsv : ∀ j x, spec sp j = some x → j < ops.size → vals[j]? = some (x.map Sum.inl)) (hF : Frm ops vs a listed a') {i : Nat} {o : Oper} (hB : onceG ops = true) (hdl : ∀ t j, wr ops t = some j → t < a.tmps.size) (hi : i ∈ Region.ready .any ops listed) {b : Bool} (hgs : ∀ j b, o.guard = some (j, b) → spec sp j = none) (h : wantD ops (vals.take i) i o = some b) : Region.wanted o (yielded ops a'.tmps) = b := by
  unfold wantD at h
  unfold Region.wanted
  split at h
  · next hg => rw [hg]; cases h; rfl
  · next j b' hg =>
    rw [hg]
    simp only []
    split at h
    · next hj =>
      obtain ⟨hw, hd⟩ := hj
      obtain ⟨t, ht⟩ := Option.isSome_iff_exists.1 hd
      obtain ⟨oj, hoj, hojd⟩ : ∃ oj, ops[j]? = some oj ∧ oj.dst = some t := by
        cases hq : ops[j]? with
        | none => rw [hq] at ht; cases ht
        | some oj => rw [hq] at ht; exact ⟨oj, rfl, ht⟩
      have hwr := onceG_spec hB hoj t hojd
      have hl := waits_done hw hi
      have ey : ∀ s, (vals.take i)[j]? = some s → yielded ops a'.tmps j = (match upO β s with | .bool q => some q | _ => none) := by
        intro s hs
        rw [List.getElem?_take] at hs
        split at hs
        · next hlt =>
          have h3 : a'.tmps[t]? = some (vs j) := by
            rw [hF.2.2 t (hdl t j hwr), hwr]
            simp only [if_pos hl]
          rw [D.rk j hl (hgs j b' hg), hs] at h3
          unfold yielded
          rw [ht]
          simp only [Option.bind_some]
          rw [h3]
          simp only [Option.join_some]
          cases upO β s <;> rfl
        · cases hs
      split at h
      · next q hq => rw [ey _ hq]; cases h; cases q <;> cases b' <;> rfl
      · next hq => rw [ey _ hq]; cases h; cases b' <;> rfl
      · cases h
    · cases h
def gsB (ops : Array Oper) (sp : Spt) : Bool := ops.all fun o => match o.guard with | some (j, _) => (spec sp j).isNone | none => true
theorem drawS {J : World → Prop} {F : Nat → Prop} {ds : List Deferred} {β : Nat → Nat} {c : Cf} {a : Act} {w : World} {Q : Exit → Act → World → Prop} (Y : Ty P fo io ze) (R : Rsrc J F) (hT : ∀ w, J w → T w) {ks : List Ki} {fs us : List (Fa P T)} {vals : Vs} {e : List (Value × Value)} (V : Nat → Value → World → Prop) (hV : ∀ i v w w', V i v w → Below w.heap.size w w' → V i v w')
    (hc : drQ c = some (ops, ks)) (hg : goS P T fo io sp ops c.tm c.rows ops.toList 0 [] fs = some (vals, us, e)) (he : ∀ p ∈ e, p.1 = p.2) (hb : backB2 ops = true) (hB : onceG ops = true) (hgs : gsB ops sp = true) (hds : dstB ops c.tm.length = true)
    (hids : idsB (tmS ops sp c.tm vals fun _ => undef) c.nx = true) (I : SI J F ds β c a w)
    (hsp : ∀ i x o, spec sp i = some x → ops[i]? = some o → ∀ listed vs a' w', Frm ops vs a listed a' → i ∈ Region.ready .any ops listed → Below w.heap.size w w' → (∀ q ∈ sp, listed.getD q.1 false = true → V q.1 (vs q.1) w') → (∀ x s, evS ops c.tm (vals.take i) i x = some s → a'.eval x = up β s) →
      wpG ops o P a' w' (fun a'' w'' => ∃ v, a'' = a'.put o.dst v ∧ (∀ u, x = some u → v = u) ∧ V i v w'' ∧ Below w'.heap.size w' w'') (QK P Q ks))
    (k : ∀ vs a' w', (∀ q ∈ sp, q.1 < ops.size → V q.1 (vs q.1) w') → SI J F ds β { ops := #[], rest := [], ks := ks, tm := tmS ops sp c.tm vals vs, rows := c.rows, nx := c.nx, dn := none } a' w' → At P Q { ops := #[], rest := [], ks := ks, tm := tmS ops sp c.tm vals vs, rows := c.rows, nx := c.nx, dn := none } a' w') : At P Q c a w := by
  obtain ⟨hvl, _, hspec⟩ := goS_spec (k := 0) (v0 := []) rfl hg he
  have htm : a.tmps.size = c.tm.length := by rw [I.fr]; simp
  have dl : ∀ t j, wr ops t = some j → t < a.tmps.size := fun t j h => by rw [htm]; exact dstB_ok hds h
  have hsv : ∀ j x, spec sp j = some x → j < ops.size → vals[j]? = some (x.map Sum.inl) := fun j x hx hj => by
    have := (hspec j ops[j] (by simp [hj])).1 x (by rw [Nat.zero_add]; exact hx)
    rwa [Nat.zero_add] at this
  refine at_reg Y.hm hc ?_
  refine regV_vals3 hb hB (fun listed vs w' => DS ops sp β vals V w listed vs w') ?_ ?_ ?_
  · intro w1 h1
    have hf : ∀ j, ¬ (Array.replicate ops.size false).getD j false = true := fun j h => by
      rw [Array.getD_eq_getD_getElem?, Array.getElem?_replicate] at h
      split at h <;> simp at h
    refine ⟨?_, fun j k _ h => absurd h (hf k), fun j h => absurd h (hf j), fun j x h => absurd h (hf j)⟩
    rcases h1 with rfl | rfl
    · exact Below.refl _ _
    · exact ⟨rfl, rfl, rfl, Nat.le_refl _, fun _ _ => rfl⟩
  · intro listed vs a' w' i o hs ho hi hF D
    have hun := undone hi hs
    have hio : i < ops.size := (Array.getElem?_eq_some_iff.1 ho).1
    have hev : ∀ x s, evS ops c.tm (vals.take i) i x = some s → a'.eval x = up β s := fun x s h => evF_ok D hsv hF I.fr hs hi h
    have wt' : ∀ j k, waitsB ops k j = true → (listed.setIfInBounds i true).getD k false = true → (listed.setIfInBounds i true).getD j false = true := fun j k hw hk => by
      rcases done_set hk with rfl | hk
      · exact done_keep (waits_done hw hi)
      · exact done_keep (D.wt j k hw hk)
    cases hsi : spec sp i with
    | some x =>
      refine wpG_mono (fun a'' w'' h => ?_) (hsp i x o hsi ho listed vs a' w' hF hi D.bw (fun q hq hl => by
        obtain ⟨y, hy⟩ := mem_spec hq
        exact (D.sv q.1 y hl hy).1) hev)
      obtain ⟨v, rfl, h1, h2, h3⟩ := h
      refine ⟨v, rfl, D.bw.trans (h3.mono D.bw.size), wt', fun j hj hn => ?_, fun j y hj hy => ?_⟩
      · have hji : j ≠ i := fun e => by rw [e, hsi] at hn; cases hn
        simp only [if_neg hji]
        exact D.rk j ((done_set hj).resolve_left hji) hn
      · by_cases hji : j = i
        · subst hji
          rw [hsi] at hy
          cases hy
          simp only [if_true]
          exact ⟨h2, h1⟩
        · simp only [if_neg hji]
          obtain ⟨a1, a2⟩ := D.sv j y ((done_set hj).resolve_left hji) hy
          exact ⟨hV j _ _ _ a1 h3, a2⟩
    | none =>
      obtain ⟨f, s, e', hq, he', hvi⟩ := (hspec i o (by simpa using ho)).2 (by rw [Nat.zero_add]; exact hsi)
      rw [Nat.zero_add] at hq hvi
      have next : ∀ v w2, v = upO β s → Below w'.heap.size w' w2 → ∃ v', a'.put o.dst v = a'.put o.dst v' ∧ DS ops sp β vals V w (listed.setIfInBounds i true) (fun j => if j = i then v' else vs j) w2 := by
        intro v w2 hv hb2
        refine ⟨v, rfl, D.bw.trans (hb2.mono D.bw.size), wt', fun j hj hn => ?_, fun j y hj hy => ?_⟩
        · by_cases hji : j = i
          · subst hji
            simp only [if_true]
            rw [hvi, hv]; rfl
          · simp only [if_neg hji]
            exact D.rk j ((done_set hj).resolve_left hji) hn
        · have hji : j ≠ i := fun e => by rw [e, hsi] at hy; cases hy
          simp only [if_neg hji]
          obtain ⟨a1, a2⟩ := D.sv j y ((done_set hj).resolve_left hji) hy
          exact ⟨hV j _ _ _ a1 hb2, a2⟩
      have hgo : ∀ j b, o.guard = some (j, b) → spec sp j = none := fun j b hg => by
        unfold gsB at hgs
        have := Array.all_eq_true.1 hgs i hio
        rw [Array.getElem?_eq_some_iff] at ho
        obtain ⟨_, ho⟩ := ho
        rw [ho, hg] at this
        simpa using this
      unfold qop at hq
      split at hq
      · next hw =>
        cases hq
        have hnw := wantS_ok D hsv hF hB dl hi hgo hw
        unfold wpG
        rw [hnw]
        simp only [Bool.false_eq_true, if_false]
        exact next undef w' rfl (Below.refl _ _)
      · cases hq
      · next hw =>
        have hnw := wantS_ok D hsv hF hB dl hi hgo hw
        unfold wpG
        rw [hnw]
        simp only [if_true]
        have hJ' : J w' := R.loc w w' I.hJ (Grow.of_below D.bw)
        have hevL : ∀ {xs : List Operand} {us : List Value}, (xs.mapM fun x => plain (evS ops c.tm (vals.take i) i x)) = some us → xs.map a'.eval = us := by
          intro xs
          induction xs with
          | nil => intro us h; simp at h; subst h; rfl
          | cons x xs ih =>
            intro us h
            rw [List.mapM_cons] at h
            cases h1 : plain (evS ops c.tm (vals.take i) i x) with
            | none => rw [h1] at h; simp at h
            | some v =>
              cases h2 : (xs.mapM fun x => plain (evS ops c.tm (vals.take i) i x)) with
              | none => rw [h1, h2] at h; simp at h
              | some us' =>
                rw [h1, h2] at h
                simp at h
                subst h
                rw [List.map_cons, ih h2, hev _ _ (plain_some h1)]
                rfl
        split at hq
        · simp only [Option.map_eq_some_iff, Prod.mk.injEq] at hq
          obtain ⟨sv, hn, rfl, rfl⟩ := hq
          exact natG_ok Y hev (fun id r h => (I.row _ (rowOf_mem h)).below D.bw) hn fun w2 hb2 => next _ w2 rfl hb2
        · next f =>
          split at hq
          · next g xs ts hop =>
            split at hq
            · next hfg =>
              subst hfg
              simp only [Option.map_eq_some_iff, Prod.mk.injEq] at hq
              obtain ⟨us', hm2, rfl, rfl⟩ := hq
              have h1 := hevL hm2
              have h2 := he' _ (List.mem_singleton.2 rfl)
              simp only [Value.tuple.injEq] at h2
              refine Oper.wp_mono ?_ (ob_fcall f.f xs ts hop (vs := f.args) ?_ (f.hr xs ts) (f.hc w' (hT w' hJ')))
              · rintro a2 w2 ⟨rfl, hb2⟩
                exact next _ w2 rfl hb2
              · rw [← h2, ← h1]
                apply Array.ext'
                simp
            · cases hq
          · cases hq
        · next f =>
          split at hq
          · next hok =>
            simp only [Option.map_eq_some_iff, Prod.mk.injEq] at hq
            obtain ⟨us', hm2, rfl, rfl⟩ := hq
            have h1 := hevL hm2
            have h2 := he' _ (List.mem_singleton.2 rfl)
            simp only [Value.tuple.injEq] at h2
            exact wp_of_run (f.h a' w' o (.inr (hT w' hJ')) hok (by rw [h1, h2])) (next _ w' rfl (Below.refl _ _))
          · cases hq
  · intro listed vs a' w' hd hF D
    have hfr : a'.tmps = ((tmS ops sp c.tm vals vs).map (upO β)).toArray := by
      apply Array.ext_getElem?
      intro t
      by_cases ht : t < a.tmps.size
      · have ht' : t < c.tm.length := by omega
        rw [hF.2.2 t ht]
        have e0 : a.tmps[t]? = some (upO β (c.tm[t]?).join) := by
          rw [I.fr]
          simp [List.getElem?_eq_getElem ht']
        simp only [List.getElem?_toArray, tmS, List.getElem?_map, List.getElem?_range ht', Option.map_some]
        cases hw : wr ops t with
        | none => exact e0
        | some j =>
          have hj := (wr_dst hw).2
          simp only []
          rw [if_pos (hd j hj)]
          cases hs : spec sp j with
          | none => simp only []; rw [D.rk j (hd j hj) hs]
          | some x => rfl
      · rw [Array.getElem?_eq_none (by have := hF.2.1; omega), Array.getElem?_eq_none (by simp [tmS]; omega)]
    have := (k vs a' w' (fun q hq hl => by
      obtain ⟨y, hy⟩ := mem_spec hq
      exact (D.sv q.1 y (hd q.1 hl) hy).1) ⟨hfr, hF.1.trans I.df, R.loc w w' I.hJ (Grow.of_below D.bw), fun p hp => (I.row p hp).below D.bw, I.dis, I.lt, I.inj, ids_tmS hids⟩).out
    exact this
end
section
variable {P : Program} {J : World → Prop} {F : Nat → Prop} {ds : List Deferred} {β : Nat → Nat} {c : Cf} {a : Act} {w : World} {Q : Exit → Act → World → Prop}
abbrev opsD (c : Cf) : Array Oper := ((drQ c).map (·.1)).getD #[]
abbrev ksD (c : Cf) : List Ki := ((drQ c).map (·.2)).getD []
def dsX (P : Program) {T : World → Prop} (sp : Spt) (fs : List (Fa P T)) (c : Cf) : Option (Vs × List (Value × Value)) :=
  match drQ c with
  | some (ops, ks) => match goS P T (foV P) (ioV P) sp ops c.tm c.rows ops.toList 0 [] fs with
    | some (vals, us, e) => if (backB2 ops && onceG ops && gsB ops sp && dstB ops c.tm.length && idsB (tmS ops sp c.tm vals fun _ => undef) c.nx) = true then some (vals, e) else none
    | none => none
  | none => none
abbrev valsD (P : Program) {T : World → Prop} (sp : Spt) (fs : List (Fa P T)) (c : Cf) : Vs := ((dsX P sp fs c).map (·.1)).getD []
abbrev dsC (P : Program) {T : World → Prop} (sp : Spt) (fs : List (Fa P T)) (c : Cf) (vs : Nat → Value) : Cf := { ops := #[], rest := [], ks := ksD c, tm := tmS (opsD c) sp c.tm (valsD P sp fs c) vs, rows := c.rows, nx := c.nx, dn := none }
theorem dwS {T : World → Prop} (sp : Spt) (fs : List (Fa P T)) (V : Nat → Value → World → Prop) (hV : ∀ i v w w', V i v w → Below w.heap.size w w' → V i v w') (R : Rsrc J F) (hT : ∀ w, J w → T w) (I : SI J F ds β c a w)
    (hsp : ∀ p ∈ sp, ∀ o, (opsD c)[p.1]? = some o → ∀ listed vs a' w', Frm (opsD c) vs a listed a' → p.1 ∈ Region.ready .any (opsD c) listed → Below w.heap.size w w' → (∀ q ∈ sp, listed.getD q.1 false = true → V q.1 (vs q.1) w') → (∀ x s, evS (opsD c) c.tm ((valsD P sp fs c).take p.1) p.1 x = some s → a'.eval x = up β s) →
      wpG (opsD c) o P a' w' (fun a'' w'' => ∃ v, a'' = a'.put o.dst v ∧ (∀ u, p.2 = some u → v = u) ∧ V p.1 v w'' ∧ Below w'.heap.size w' w'') (QK P Q (ksD c)))
    (k : ∀ vs a' w', (∀ q ∈ sp, q.1 < (opsD c).size → V q.1 (vs q.1) w') → SI J F ds β (dsC P sp fs c vs) a' w' → At P Q (dsC P sp fs c vs) a' w') (hm : P.follows .mixedOrders = true := by kernel_rfl)
    (hs : (dsX P sp fs c).isSome = true := by kernel_rfl) (he : (dsX P sp fs c).map (fun r => r.2.map (·.1)) = (dsX P sp fs c).map (fun r => r.2.map (·.2)) := by kernel_rfl) : At P Q c a w := by
  cases hx : dsX P sp fs c with
  | none => rw [hx] at hs; cases hs
  | some r =>
    unfold valsD at hsp
    unfold dsC valsD at k
    rw [hx] at he k hsp
    unfold dsX at hx
    unfold opsD ksD at hsp k
    split at hx
    · next ops ks hc =>
      rw [hc] at hsp k
      split at hx
      · next vals us e hg =>
        split at hx
        · next hb =>
          cases hx
          simp only [Option.map_some, Option.some.injEq, Option.getD_some] at he k hsp
          simp only [Bool.and_eq_true] at hb
          exact drawS (ty_ok hm) R hT V hV hc hg (eqs_of he) hb.1.1.1.1 hb.1.1.1.2 hb.1.1.2 hb.1.2 hb.2 I (fun i x o hx ho => hsp (i, x) (spec_mem hx) o ho) k
        · cases hx
      · cases hx
    · cases hx
end
end Go.Proofs.YtjjiendgmnlokaaDoor

/- The document's Encode. -/
namespace Go.Proofs.YtjjiendgmnlokaaDoor
open Go.RowKit Go.Sort
set_option linter.unusedVariables false
set_option maxRecDepth 100000
theorem bd_U4 (x : Nat) (hx : x < M) (w : World) : (Instr.build 39 (([0, 1, 2, 3] : List Nat).zip [B x, B 0, B 0, B 0]).toArray).run Tryd.prog w = .ok (U x) w := by
  have h : (Instr.build 39 (([0, 1, 2, 3] : List Nat).zip [B x, B 0, B 0, B 0]).toArray).run Tryd.prog w = .ok (.agg #[B x, B 0, B 0, B 0]) w := by kernel_rfl
  have h1 := bd_U x hx w
  have h2 : (Instr.build 39 (([0] : List Nat).zip [B x]).toArray).run Tryd.prog w = .ok (.agg #[B x, B 0, B 0, B 0]) w := by kernel_rfl
  rw [h, ← h2, h1]
theorem rword_any (n : Nat) (hn : n < 1000000000000) (w : World) : Calls Tryd.prog 28 #[Z n] w fun e w' => e = .returned (str (wb n)) ∧ Below w.heap.size w w' := by
  have hM : n < M := by unfold M; omega
  refine inQ (J := Below w.heap.size w) (F := (· < w.heap.size)) Tryd.func28 (Below.refl _ _) fun a I => ?_
  refine goQ [vO 3 37 (p := Z n) (v := B n) (cnvB n hn), dO 39 [0, 1, 2, 3] (bd_U4 n hM), kC Tryd.func18 (rbytes_str n)] (nonR w) I fun β a w1 I hb => ?_
  exact outQ (v := str (wb n)) I ⟨rfl, I.hJ⟩
theorem made_zeros (n : Nat) : (madeCells (Value.int .u8 0).cells (n * 1)).toList = bc (List.replicate n 0) := by
  unfold madeCells
  simp only [Array.toList_map, Array.toList_range, Nat.mul_one]
  apply List.ext_getElem
  · simp
  · intro i h1 h2
    simp [Value.cells, Nat.mod_one]
section
variable {P : Program} {ops : Array Oper} {Q : Exit → Act → World → Prop} {K : Act → World → Prop} {o : Oper} {a : Act} {w : World}
theorem makeG {t : TypeId} {l k : Operand} {v : Value} {w' : World} (hop : o.op = .makeSlice t l k) (hg : o.guard = none) (h : (Instr.makeSlice t (a.eval l) (a.eval k)).run P w = .ok v w') (hK : K (a.put o.dst v) w') : wpG ops o P a w K Q := by
  refine wpG_plain hg (wp_of_run (v := v) (w' := w') ?_ hK)
  unfold execOp
  simp only [hop, Sem.run_bind, h, Result.andThen_ok, Sem.run_pure]
theorem convG {s t : TypeId} {x : Operand} {v : Value} {w' : World} (hop : o.op = .convert s t x) (hg : o.guard = none) (h : (convert s t (a.eval x)).run P w = .ok v w') (hK : K (a.put o.dst v) w') : wpG ops o P a w K Q := by
  refine wpG_plain hg (wp_of_run (v := v) (w' := w') ?_ hK)
  unfold execOp
  simp only [hop, Sem.run_bind, h, Result.andThen_ok, Sem.run_pure]
end
theorem opD_get {c : Cf} {i : Nat} {o : Oper} {x : Op} {d : Option Tmp} (ho : (opsD c)[i]? = some o) (h : ((opsD c)[i]?).map (fun o => (o.op, o.dst, o.guard)) = some (x, d, none)) : o.op = x ∧ o.dst = d ∧ o.guard = none := by
  rw [ho] at h
  simp only [Option.map_some, Option.some.injEq, Prod.mk.injEq] at h
  exact h
theorem tail_txt (u : Nat) (x : List UInt8) (hx : x.length < 500000000000) (lv : Value) (hlv : ∃ ad m cap, lv = .slice ad m cap) (w : World) : Calls Tryd.prog 29 #[.agg (tx (1, u, ⟨x.toArray⟩, lv)).toArray] w fun e w' => e = .returned (str (txt ⟨x.toArray⟩)) ∧ Below w.heap.size w w' := by
  obtain ⟨ad, m, cap, rfl⟩ := hlv
  have hsz := str_size x
  obtain ⟨n, hn⟩ : ∃ n, pad x.length = n := ⟨_, rfl⟩
  have hn32 : n < 32 := by rw [← hn]; unfold pad; omega
  refine inQ (J := Below w.heap.size w) (F := (· < w.heap.size)) Tryd.func29 (Below.refl _ _) fun a I => ?_
  refine goQ [eql0 1 1 true rfl, lO Tryd.underlying9 (b := ⟨x.toArray⟩) (n := x.length) (by rw [hsz]), bO .rem 3 (run_remZ (x := x.length) (y := 32) (z := (x.length % 32 : Nat)) (by decide) (by rw [Int.tmod_eq_emod_of_nonneg (by omega)]; omega)),
    bO .sub 3 (run_subZ (x := 32) (y := (x.length % 32 : Nat)) (z := (32 - x.length % 32 : Nat)) (by rw [wz (by omega) (by omega)]; omega)),
    bO .rem 3 (run_remZ (x := (32 - x.length % 32 : Nat)) (y := 32) (z := n) (by decide) (by rw [Int.tmod_eq_emod_of_nonneg (by omega), ← hn]; unfold pad; omega))] (nonR w) I fun β a w1 I hb => ?_
  have hsz1 : a.tmps.size = 32 := by rw [I.fr]; kernel_rfl
  refine dwS (T := fun _ => True) [(8, none), (9, some (str (List.replicate n 0)))] [lO Tryd.underlying9 (b := ⟨x.toArray⟩) (n := x.length) (by rw [hsz]), kC Tryd.func28 (rword_any x.length (by omega)), bO .add 9 (addS_run (wb x.length) x (by rw [wb_len]; omega)), bO .add 9 (addS_run (wb x.length ++ x) (List.replicate n 0) (by rw [List.length_append, wb_len, List.length_replicate]; omega))]
    (fun i v w' => i = 8 → w'.ownsRow w1.heap.size 5 1 v n (bc (List.replicate n 0))) (fun i v w' w'' h hb hi => owns_grow (F := fun _ => True) (h hi) ⟨hb.os, hb.tape, hb.output, hb.size, fun k hk _ => hb.block k hk⟩ fun _ _ => trivial) (nonR w) (fun _ _ => trivial) I ?_ ?_
  · intro p hp o ho listed vs a' w' hF hrd hbw hV hev
    simp only [List.mem_cons, List.not_mem_nil, or_false] at hp
    rcases hp with rfl | rfl
    · obtain ⟨h1, h2, h3⟩ := opD_get (x := .makeSlice 58 (.tmp 20) (.tmp 20)) (d := some 21) ho (by kernel_rfl)
      have e20 : a'.eval (.tmp 20) = Z n := hev (.tmp 20) (Sum.inl (Z n)) (by kernel_rfl)
      obtain ⟨i, hi, hz, hi1, hi2⟩ := hI5
      obtain ⟨w2, hr2, ho2, hg2⟩ := run_make_full (P := Tryd.prog) w' w1.heap.size 58 5 i _ 1 Tryd.underlying58 hi hz hi1 .i64 .i64 n (by rw [hi2]; omega) (by simp only [maxLen]; omega) hbw.size
      rw [made_zeros] at ho2
      refine makeG h1 h3 (by rw [e20]; exact hr2) ⟨_, rfl, fun u hu => (by cases hu), fun _ => ho2, ⟨hg2.os, hg2.tape, hg2.output, hg2.size, fun k hk => hg2.block k hk (by simp)⟩⟩
    · obtain ⟨h1, h2, h3⟩ := opD_get (x := .convert 58 9 (.tmp 21)) (d := some 22) ho (by kernel_rfl)
      have hl8 := waits_done (ops := opsD _) (i := 9) (j := 8) (by kernel_rfl) hrd
      have e21 : a'.eval (.tmp 21) = vs 8 := hF.new (i := 8) (by kernel_rfl) (by omega) hl8
      have ho8 := hV (8, none) (by simp) hl8 rfl
      have hcv := text_own (l := List.replicate n 0) (by rw [List.length_replicate]; exact ho8)
      refine convG h1 h3 (by rw [e21]; exact hcv) ⟨_, rfl, fun u hu => (by cases hu; rfl), fun h => (by cases h), Below.refl _ _⟩
  · intro vs a2 w2 hV I
    refine goQ [] (nonR w) I fun β3 a w3 I hb3 => ?_
    refine outQ (v := str (wb x.length ++ x ++ List.replicate n 0)) I ⟨?_, I.hJ⟩
    unfold txt
    rw [str_size, ← hn]
theorem tail_lst {α : Type} {E : α → List UInt8} {W0 : World} {L : Value → α → Prop} (hsub : ∀ (lv : Value) (x : α) (w : World), L lv x → (E x).length + 1000 ≤ 100000000000 → Below W0.heap.size W0 w → Calls Tryd.prog 13 #[lv] w fun e w' => e = .returned (str (E x)) ∧ Below w.heap.size w w')
    (u : Nat) (s : ByteArray) {ad : Option Addr} {n cap : Nat} {x : α} (hL : L (.slice ad n cap) x) (hn : n < 500000000000) (hE : (E x).length + 1000 ≤ 100000000000) (w : World) (hb0 : Below W0.heap.size W0 w) : Calls Tryd.prog 29 #[.agg (tx (2, u, s, .slice ad n cap)).toArray] w fun e w' => e = .returned (str (wb n ++ E x)) ∧ Below w.heap.size w w' := by
  have hs : ∀ w', Below w.heap.size w w' → Calls Tryd.prog 13 #[.slice ad n cap] w' fun e w'' => e = .returned (str (E x)) ∧ Below w'.heap.size w' w'' := fun w' hb => hsub _ x w' hL hE (hb0.trans (hb.mono hb0.size))
  refine inQ (J := Below w.heap.size w) (F := (· < w.heap.size)) Tryd.func29 (Below.refl _ _) fun a I => ?_
  refine goQ [eql0 2 1 false rfl] (nonR w) I fun β a w1 I hb => ?_
  refine dwT (T := Below w.heap.size w) 9 [lS Tryd.underlying22 (ad := ad) (n := n) (cap := cap) rfl, kC Tryd.func28 (rword_any n (by omega)), cA Tryd.func13 hs, bO .add 9 (addS_run (wb n) (E x) (by rw [wb_len]; omega))] (nonR w) (fun _ h => h) PanOk.post I fun a w2 I => ?_
  refine goQ [] (nonR w) I fun β3 a w3 I hb3 => ?_
  exact outQ (v := str (wb n ++ E x)) I ⟨rfl, I.hJ⟩
abbrev reK : List Nat := [0, 3, 4, 5]
abbrev reV (lv : Value) (hd tl : List UInt8) (i : Nat) : Vs := frm 52 [(0, Sum.inl lv), (3, Sum.inl (str hd)), (4, Sum.inl (str tl)), (5, Sum.inl (Z i))]
theorem wb_zero : wb 0 = List.replicate 32 0 := by kernel_rfl
theorem renc_gen {α : Type} {E : α → List UInt8} {cnt : α → Nat} {W0 : World} {L : Value → α → Prop} (hc : ∀ lv x, L lv x → (∃ ad cap, lv = .slice ad (cnt x) cap) ∧ cnt x ≤ (E x).length)
    (hsub : ∀ (lv : Value) (x : α) (w : World), L lv x → (E x).length + 1000 ≤ 100000000000 → Below W0.heap.size W0 w → Calls Tryd.prog 13 #[lv] w fun e w' => e = .returned (str (E x)) ∧ Below w.heap.size w w')
    {va : Value} {l : List (Int × Nat × ByteArray × α)} (hl : LAs W0 L va l) (hs : ((foldE E cnt (32 * l.length) l).1 ++ (foldE E cnt (32 * l.length) l).2).length + 1000 ≤ 100000000000) (wS : World) (hbS : Below W0.heap.size W0 wS) :
    Calls Tryd.prog 13 #[va] wS fun e w' => e = .returned (str ((foldE E cnt (32 * l.length) l).1 ++ (foldE E cnt (32 * l.length) l).2)) ∧ Below wS.heap.size wS w' := by
  obtain ⟨ad, cap, rfl, hmem⟩ := hl
  obtain ⟨H, hH⟩ : ∃ H, 32 * l.length = H := ⟨_, rfl⟩
  rw [hH] at hs ⊢
  rw [List.length_append] at hs
  have hlen1 : (foldE E cnt H l).1.length = 32 * l.length := by have := (foldE_len (E := E) (cnt := cnt) (H := H) l ([], [])).1; simpa [foldE] using this
  have hle2 : ∀ i, (foldE E cnt H (l.take i)).2.length ≤ (foldE E cnt H l).2.length := fun i => foldE_le l i
  have hle1 : ∀ i, i ≤ l.length → (foldE E cnt H (l.take i)).1.length = 32 * i := fun i hi => by
    have := (foldE_len (E := E) (cnt := cnt) (H := H) (l.take i) ([], [])).1
    rw [List.length_take, Nat.min_eq_left hi] at this
    simpa [foldE] using this
  refine inQ (J := Below wS.heap.size wS) (F := (· < wS.heap.size)) Tryd.func13 (Below.refl _ _) fun a I => ?_
  refine goQ [] (nonR wS) I fun β a w1 I hb => ?_
  let St : Nat → Act → World → Prop := fun k a w' => ∃ (i : Nat) (β : Nat → Nat) (u : Nat → Value), k = l.length - i ∧ i ≤ l.length ∧
    SI (Below wS.heap.size wS) (· < wS.heap.size) [] β (cfC (bodyL Tryd.f13) (fillF (scrF 52 reK) u 0 (reV (.slice ad l.length cap) (foldE E cnt H (l.take i)).1 (foldE E cnt H (l.take i)).2 i)) [] 0) a w'
  refine lpM (bodyL Tryd.f13) St l.length ?_ ?_
  · obtain ⟨u, Iu⟩ := I.scr (bodyL Tryd.f13) (scrF 52 reK) (reV (.slice ad l.length cap) [] [] 0) [] 0
    exact ⟨0, β, u, by omega, Nat.zero_le _, Iu⟩
  rintro k a3 w3 ⟨i, β3, u, rfl, hi, I⟩
  obtain ⟨hd, hhd⟩ : ∃ hd, (foldE E cnt H (l.take i)).1 = hd := ⟨_, rfl⟩
  obtain ⟨tl, htl⟩ : ∃ tl, (foldE E cnt H (l.take i)).2 = tl := ⟨_, rfl⟩
  have hhl := hle1 i hi
  have htl2 := hle2 i
  rw [hhd] at hhl
  rw [htl] at htl2
  rw [hhd, htl] at I
  refine wp_cfC (tm := fillF (scrF 52 reK) u 0 (reV (.slice ad l.length cap) hd tl i)) (rows := []) (nx := 0) ?_
  rcases Nat.lt_or_ge i l.length with hil | hil
  · obtain ⟨⟨k1, n1, t1, s1⟩, h1⟩ : ∃ t, l[i]? = some t := ⟨_, List.getElem?_eq_getElem hil⟩
    obtain ⟨ga, offa, lva, rfl, hca, hLa⟩ := hmem i _ h1
    simp only [] at hca hLa
    obtain ⟨⟨adx, capx, rfl⟩, hcE⟩ := hc _ _ hLa
    have hfold := foldE_take (E := E) (cnt := cnt) (H := H) l i h1
    have hacc : foldE E cnt H (l.take i) = (hd, tl) := by rw [← hhd, ← htl]
    rw [hacc] at hfold
    have hfl1 := hle1 (i + 1) hil
    have hfl2 := hle2 (i + 1)
    have hcb : ∀ w, Below wS.heap.size wS w → CellsAt w ga (offa + i * 7) (cells7 k1 n1 t1 (.slice adx (cnt s1) capx)) := fun w hb => hca.keep ((hbS.trans (hb.mono hbS.size)).block ga hca.lt)
    have hka : ∀ w, Below wS.heap.size wS w → (loadVar 3 ⟨ga, offa + i * 7 + 0, none⟩).run Tryd.prog w = .ok (Z k1) w := fun w hb => load1 (hcb w hb) 0 rfl 3 Tryd.underlying3 rfl
    have hna : ∀ w, Below wS.heap.size wS w → (loadVar 39 ⟨ga, offa + i * 7 + 1, none⟩).run Tryd.prog w = .ok (U n1) w := fun w hb => load4 (CellsAt.num (hcb w hb))
    have hta : ∀ w, Below wS.heap.size wS w → (loadVar 41 ⟨ga, offa + i * 7, none⟩).run Tryd.prog w = .ok (.agg (tx (k1, n1, t1, .slice adx (cnt s1) capx)).toArray) w := fun w hb => load7 (hcb w hb)
    have hadd : IntKind.i64.wrap ((i : Int) + 1) = ((i + 1 : Nat) : Int) := by rw [wz (by omega) (by omega)]; omega
    have done : ∀ {hd' tl' : List UInt8} {β : Nat → Nat} {a : Act} {w' : World} {c : Cf}, foldE E cnt H (l.take (i + 1)) = (hd', tl') → SI (Below wS.heap.size wS) (· < wS.heap.size) [] β c a w' → c.dn = some .normal → dropF (scrF 52 reK) 0 c.tm = dropF (scrF 52 reK) 0 (reV (.slice (some ⟨ga, offa, none⟩) l.length cap) hd' tl' (i + 1)) → At Tryd.prog (Exit.then (fun a' w' => ∃ j, j < l.length - i ∧ St j a' w') (QK Tryd.prog (bodyPost Tryd.prog Tryd.f13 (fun e w' => e = .returned (str ((foldE E cnt H l).1 ++ (foldE E cnt H l).2)) ∧ Below wS.heap.size wS w')) (lpK (rn Tryd.prog ([] : List (Fa Tryd.prog fun _ => True)) (cfF Tryd.f13 #[.slice (some ⟨ga, offa, none⟩) l.length cap])).1))) c a w' := by
      intro hd' tl' β a w' c he I hdn hdr
      obtain ⟨u', Iu⟩ := I.scr (bodyL Tryd.f13) (scrF 52 reK) (reV (.slice (some ⟨ga, offa, none⟩) l.length cap) hd' tl' (i + 1)) [] 0 hdr
      exact endL ⟨l.length - (i + 1), by omega, i + 1, β, u', rfl, hil, by rw [he]; exact Iu⟩ hdn
    by_cases hk1 : k1 = 1
    · subst hk1
      have hst : stepE E cnt H (hd, tl) (1, n1, t1, s1) = (hd ++ wb (H + tl.length), tl ++ txt t1) := rfl
      rw [hst] at hfold
      rw [hfold] at hfl1 hfl2
      have hl2 : (tl ++ txt t1).length ≤ (foldE E cnt H l).2.length := hfl2
      rw [List.length_append, txt_len] at hl2
      have htail : ∀ w, Calls Tryd.prog 29 #[.agg (tx (1, n1, t1, .slice adx (cnt s1) capx)).toArray] w fun e w' => e = .returned (str (txt t1)) ∧ Below w.heap.size w w' := fun w => tail_txt n1 t1.data.toList (by have : t1.data.toList.length = t1.size := Array.length_toList; omega) _ ⟨_, _, _, rfl⟩ w
      refine goT (T := Below wS.heap.size wS) [lS Tryd.underlying22 (ad := some ⟨ga, offa, none⟩) (n := l.length) (cap := cap) rfl, bO .lss 3 (run_lssZ (x := i) (y := l.length) (b := true) (by simp; omega)), iA 22 Tryd.underlying22 (sz := 7) (by kernel_rfl) (g := ga) (off := offa) (n := l.length) (cap := cap) hil, ldA 3 hka, eql0 1 1 true rfl,
        lS Tryd.underlying22 (ad := some ⟨ga, offa, none⟩) (n := l.length) (cap := cap) rfl, bO .mul 3 (run_mulZ (x := 32) (y := l.length) (z := H) (by rw [wz (by omega) (by omega)]; omega)), lO Tryd.underlying9 (b := ⟨tl.toArray⟩) (n := tl.length) (by rw [str_size]), bO .add 3 (run_addZ (x := H) (y := tl.length) (z := (H + tl.length : Nat)) (by rw [wz (by omega) (by omega)]; omega)), kC Tryd.func28 (rword_any (H + tl.length) (by omega)), bO .add 9 (addS_run hd (wb (H + tl.length)) (by rw [wb_len]; omega)),
        iA 22 Tryd.underlying22 (sz := 7) (by kernel_rfl) (g := ga) (off := offa) (n := l.length) (cap := cap) hil, ldA 41 hta, kC Tryd.func29 htail, bO .add 9 (addS_run tl (txt t1) (by rw [txt_len]; omega)), bO .add 3 (run_addZ (x := i) (y := 1) hadd)] (nonR wS) (fun _ h => h) I fun β4 a4 w4 I hb4 => ?_
      exact done hfold I (by kernel_rfl) (by kernel_rfl)
    by_cases hk2 : k1 = 2
    · subst hk2
      have hst : stepE E cnt H (hd, tl) (2, n1, t1, s1) = (hd ++ wb (H + tl.length), tl ++ (wb (cnt s1) ++ E s1)) := rfl
      rw [hst] at hfold
      rw [hfold] at hfl1 hfl2
      have hl2 : (tl ++ (wb (cnt s1) ++ E s1)).length ≤ (foldE E cnt H l).2.length := hfl2
      rw [List.length_append, List.length_append, wb_len] at hl2
      have htail : ∀ w, Below wS.heap.size wS w → Calls Tryd.prog 29 #[.agg (tx (2, n1, t1, .slice adx (cnt s1) capx)).toArray] w fun e w' => e = .returned (str (wb (cnt s1) ++ E s1)) ∧ Below w.heap.size w w' := fun w hb => tail_lst hsub n1 t1 hLa (by omega) (by omega) w (hbS.trans (hb.mono hbS.size))
      refine goT (T := Below wS.heap.size wS) [lS Tryd.underlying22 (ad := some ⟨ga, offa, none⟩) (n := l.length) (cap := cap) rfl, bO .lss 3 (run_lssZ (x := i) (y := l.length) (b := true) (by simp; omega)), iA 22 Tryd.underlying22 (sz := 7) (by kernel_rfl) (g := ga) (off := offa) (n := l.length) (cap := cap) hil, ldA 3 hka, eql0 2 1 false rfl, eql0 2 2 true rfl,
        lS Tryd.underlying22 (ad := some ⟨ga, offa, none⟩) (n := l.length) (cap := cap) rfl, bO .mul 3 (run_mulZ (x := 32) (y := l.length) (z := H) (by rw [wz (by omega) (by omega)]; omega)), lO Tryd.underlying9 (b := ⟨tl.toArray⟩) (n := tl.length) (by rw [str_size]), bO .add 3 (run_addZ (x := H) (y := tl.length) (z := (H + tl.length : Nat)) (by rw [wz (by omega) (by omega)]; omega)), kC Tryd.func28 (rword_any (H + tl.length) (by omega)), bO .add 9 (addS_run hd (wb (H + tl.length)) (by rw [wb_len]; omega)),
        iA 22 Tryd.underlying22 (sz := 7) (by kernel_rfl) (g := ga) (off := offa) (n := l.length) (cap := cap) hil, ldA 41 hta, cA Tryd.func29 htail, bO .add 9 (addS_run tl (wb (cnt s1) ++ E s1) (by rw [List.length_append, wb_len]; omega)), bO .add 3 (run_addZ (x := i) (y := 1) hadd)] (nonR wS) (fun _ h => h) I fun β4 a4 w4 I hb4 => ?_
      exact done hfold I (by kernel_rfl) (by kernel_rfl)
    by_cases hk0 : k1 = 0
    · subst hk0
      have hst : stepE E cnt H (hd, tl) (0, n1, t1, s1) = (hd ++ wb n1, tl) := rfl
      rw [hst] at hfold
      refine goT (T := Below wS.heap.size wS) [lS Tryd.underlying22 (ad := some ⟨ga, offa, none⟩) (n := l.length) (cap := cap) rfl, bO .lss 3 (run_lssZ (x := i) (y := l.length) (b := true) (by simp; omega)), iA 22 Tryd.underlying22 (sz := 7) (by kernel_rfl) (g := ga) (off := offa) (n := l.length) (cap := cap) hil, ldA 3 hka, eql0 0 1 false rfl, eql0 0 2 false rfl, eql0 0 0 true rfl,
        iA 22 Tryd.underlying22 (sz := 7) (by kernel_rfl) (g := ga) (off := offa) (n := l.length) (cap := cap) hil, ldA 39 hna, kC Tryd.func18 (rbytes_str n1), bO .add 9 (addS_run hd (wb n1) (by rw [wb_len]; omega)), bO .add 3 (run_addZ (x := i) (y := 1) hadd)] (nonR wS) (fun _ h => h) I fun β4 a4 w4 I hb4 => ?_
      exact done hfold I (by kernel_rfl) (by kernel_rfl)
    · have hst : stepE E cnt H (hd, tl) (k1, n1, t1, s1) = (hd ++ wb 0, tl) := by
        unfold stepE
        rw [if_neg hk0, if_neg hk1, if_neg hk2, wb_zero]
      rw [hst] at hfold
      refine goT (T := Below wS.heap.size wS) [lS Tryd.underlying22 (ad := some ⟨ga, offa, none⟩) (n := l.length) (cap := cap) rfl, bO .lss 3 (run_lssZ (x := i) (y := l.length) (b := true) (by simp; omega)), iA 22 Tryd.underlying22 (sz := 7) (by kernel_rfl) (g := ga) (off := offa) (n := l.length) (cap := cap) hil, ldA 3 hka, eql0 k1 1 false (decide_eq_false hk1), eql0 k1 2 false (decide_eq_false hk2), eql0 k1 0 false (decide_eq_false hk0),
        kC Tryd.func28 (rword_any 0 (by omega)), bO .add 9 (addS_run hd (wb 0) (by rw [wb_len]; omega)), bO .add 3 (run_addZ (x := i) (y := 1) hadd)] (nonR wS) (fun _ h => h) I fun β4 a4 w4 I hb4 => ?_
      exact done hfold I (by kernel_rfl) (by kernel_rfl)
  · obtain rfl : i = l.length := by omega
    rw [List.take_length] at hhd htl
    refine goQ [lS Tryd.underlying22 (ad := ad) (n := l.length) (cap := cap) rfl, bO .lss 3 (run_lssZ (x := l.length) (y := l.length) (b := false) (by simp))] (nonR wS) I fun β4 a4 w4 I hb4 => ?_
    refine endE 0 ?_
    refine goQ [bO .add 9 (addS_run hd tl (by omega))] (nonR wS) (I.exit _) fun β5 a5 w5 I hb5 => ?_
    exact outQ (v := str (hd ++ tl)) I ⟨by rw [hhd, htl], I.hJ⟩
theorem renc_any : ∀ (n : Nat) {W0 : World} {v : Value} {l : TL n}, LA W0 n v l → (enc n l).length + 1000 ≤ 100000000000 → ∀ w, Below W0.heap.size W0 w → Calls Tryd.prog 13 #[v] w fun e w' => e = .returned (str (enc n l)) ∧ Below w.heap.size w w'
  | 0, W0, v, l, hl, hs, w, hb => by
    obtain ⟨ad, cap, rfl⟩ := hl
    exact renc_gen (α := Unit) (E := fun _ => []) (cnt := fun _ => 0) (W0 := W0) (L := fun _ _ => False) (fun _ _ h => h.elim) (fun _ _ _ h => h.elim) (l := []) ⟨ad, cap, rfl, fun i t h => (by simp at h)⟩ (by decide) w hb
  | n + 1, W0, v, l, hl, hs, w, hb => by
    refine renc_gen (α := TL n) (E := enc n) (cnt := cntL n) (L := LA W0 n) (fun lv x h => ⟨?_, by have := enc_cnt n x; omega⟩) (fun lv x w h h2 hb => renc_any n h h2 w hb) (l := l) hl hs w hb
    cases n with
    | zero => exact h
    | succ n => obtain ⟨ad, cap, hv, _⟩ := h; exact ⟨ad, cap, hv⟩
end Go.Proofs.YtjjiendgmnlokaaDoor

/- Fits. -/
namespace Go.Proofs.YtjjiendgmnlokaaDoor
open Go.RowKit Go.Sort
set_option linter.unusedVariables false
set_option maxRecDepth 100000
def bareB (k : Int) (u : Nat) (s : ByteArray) (m : Nat) : Bool := (decide (k = 0) || decide (u = 0)) && (decide (k = 1) || decide (s.size = 0)) && (decide (k = 2) || decide (m = 0))
theorem bare0 (u : Nat) (s : ByteArray) (ad : Option Addr) (m cap : Nat) (w : World) : Calls Tryd.prog 45 #[.agg (tx (0, u, s, .slice ad m cap)).toArray] w fun e w' => e = .returned (.bool (bareB 0 u s m)) ∧ Below w.heap.size w w' := by
  have hz : (0 : Nat) < W := by decide
  have hq : bareB 0 u s m = (decide (s.size = 0) && decide (m = 0)) := by unfold bareB; simp
  rw [hq]
  refine inQ (J := Below w.heap.size w) (F := (· < w.heap.size)) Tryd.func45 (Below.refl _ _) fun a I => ?_
  by_cases h2 : s.size = 0
  · by_cases h3 : m = 0
    · refine goQ [eql0 0 0 true rfl, dO 39 [] bd_U0, dO 39 [] bd_U0, bO .eql 39 (eqU_run (n := 0) (m := 0) hz hz (q := true) rfl), bO .eql 9 (eqT_run (a := s) (b := ⟨#[]⟩) (q := true) (decide_eq_true (size0.2 h2))), lS Tryd.underlying22 (ad := ad) (n := m) (cap := cap) rfl, bO .eql 3 (run_eqlZ (x := m) (y := 0) (b := true) (by simp [h3]))] (nonR w) I fun β a w1 I hb => ?_
      exact outQ (v := .bool true) I ⟨by simp [h2, h3], I.hJ⟩
    · refine goQ [eql0 0 0 true rfl, dO 39 [] bd_U0, dO 39 [] bd_U0, bO .eql 39 (eqU_run (n := 0) (m := 0) hz hz (q := true) rfl), bO .eql 9 (eqT_run (a := s) (b := ⟨#[]⟩) (q := true) (decide_eq_true (size0.2 h2))), lS Tryd.underlying22 (ad := ad) (n := m) (cap := cap) rfl, bO .eql 3 (run_eqlZ (x := m) (y := 0) (b := false) (decide_eq_false (by omega)))] (nonR w) I fun β a w1 I hb => ?_
      exact outQ (v := .bool false) I ⟨by simp [h2, h3], I.hJ⟩
  · refine goQ [eql0 0 0 true rfl, dO 39 [] bd_U0, dO 39 [] bd_U0, bO .eql 39 (eqU_run (n := 0) (m := 0) hz hz (q := true) rfl), bO .eql 9 (eqT_run (a := s) (b := ⟨#[]⟩) (q := false) (decide_eq_false fun h => h2 (size0.1 h)))] (nonR w) I fun β a w1 I hb => ?_
    exact outQ (v := .bool false) I ⟨by simp [h2], I.hJ⟩
theorem bare1 (u : Nat) (hu : u < W) (s : ByteArray) (ad : Option Addr) (m cap : Nat) (w : World) : Calls Tryd.prog 45 #[.agg (tx (1, u, s, .slice ad m cap)).toArray] w fun e w' => e = .returned (.bool (bareB 1 u s m)) ∧ Below w.heap.size w w' := by
  have hz : (0 : Nat) < W := by decide
  have hq : bareB 1 u s m = (decide (u = 0) && decide (m = 0)) := by unfold bareB; simp
  rw [hq]
  refine inQ (J := Below w.heap.size w) (F := (· < w.heap.size)) Tryd.func45 (Below.refl _ _) fun a I => ?_
  by_cases h2 : u = 0
  · by_cases h3 : m = 0
    · refine goQ [eql0 1 0 false rfl, eql0 1 1 true rfl, dO 39 [] bd_U0, bO .eql 39 (eqU_run (n := u) (m := 0) hu hz (q := true) (decide_eq_true h2)), bO .eql 9 (eqT_run (a := ⟨#[]⟩) (b := ⟨#[]⟩) (q := true) (by simp)), lS Tryd.underlying22 (ad := ad) (n := m) (cap := cap) rfl, bO .eql 3 (run_eqlZ (x := m) (y := 0) (b := true) (by simp [h3]))] (nonR w) I fun β a w1 I hb => ?_
      exact outQ (v := .bool true) I ⟨by simp [h2, h3], I.hJ⟩
    · refine goQ [eql0 1 0 false rfl, eql0 1 1 true rfl, dO 39 [] bd_U0, bO .eql 39 (eqU_run (n := u) (m := 0) hu hz (q := true) (decide_eq_true h2)), bO .eql 9 (eqT_run (a := ⟨#[]⟩) (b := ⟨#[]⟩) (q := true) (by simp)), lS Tryd.underlying22 (ad := ad) (n := m) (cap := cap) rfl, bO .eql 3 (run_eqlZ (x := m) (y := 0) (b := false) (decide_eq_false (by omega)))] (nonR w) I fun β a w1 I hb => ?_
      exact outQ (v := .bool false) I ⟨by simp [h2, h3], I.hJ⟩
  · refine goQ [eql0 1 0 false rfl, eql0 1 1 true rfl, dO 39 [] bd_U0, bO .eql 39 (eqU_run (n := u) (m := 0) hu hz (q := false) (decide_eq_false h2))] (nonR w) I fun β a w1 I hb => ?_
    exact outQ (v := .bool false) I ⟨by simp [h2], I.hJ⟩
theorem bare2 (u : Nat) (hu : u < W) (s : ByteArray) (ad : Option Addr) (m cap : Nat) (w : World) : Calls Tryd.prog 45 #[.agg (tx (2, u, s, .slice ad m cap)).toArray] w fun e w' => e = .returned (.bool (bareB 2 u s m)) ∧ Below w.heap.size w w' := by
  have hz : (0 : Nat) < W := by decide
  have hq : bareB 2 u s m = (decide (u = 0) && decide (s.size = 0)) := by unfold bareB; simp
  rw [hq]
  refine inQ (J := Below w.heap.size w) (F := (· < w.heap.size)) Tryd.func45 (Below.refl _ _) fun a I => ?_
  by_cases h2 : u = 0
  · by_cases h3 : s.size = 0
    · refine goQ [eql0 2 0 false rfl, eql0 2 1 false rfl, eql0 2 2 true rfl, dO 39 [] bd_U0, bO .eql 39 (eqU_run (n := u) (m := 0) hu hz (q := true) (decide_eq_true h2)), bO .eql 9 (eqT_run (a := s) (b := ⟨#[]⟩) (q := true) (decide_eq_true (size0.2 h3))), lS Tryd.underlying22 (ad := none) (n := 0) (cap := 0) rfl, bO .eql 3 (run_eqlZ (x := (0 : Nat)) (y := 0) (b := true) rfl)] (nonR w) I fun β a w1 I hb => ?_
      exact outQ (v := .bool true) I ⟨by simp [h2, h3], I.hJ⟩
    · refine goQ [eql0 2 0 false rfl, eql0 2 1 false rfl, eql0 2 2 true rfl, dO 39 [] bd_U0, bO .eql 39 (eqU_run (n := u) (m := 0) hu hz (q := true) (decide_eq_true h2)), bO .eql 9 (eqT_run (a := s) (b := ⟨#[]⟩) (q := false) (decide_eq_false fun h => h3 (size0.1 h)))] (nonR w) I fun β a w1 I hb => ?_
      exact outQ (v := .bool false) I ⟨by simp [h2, h3], I.hJ⟩
  · refine goQ [eql0 2 0 false rfl, eql0 2 1 false rfl, eql0 2 2 true rfl, dO 39 [] bd_U0, bO .eql 39 (eqU_run (n := u) (m := 0) hu hz (q := false) (decide_eq_false h2))] (nonR w) I fun β a w1 I hb => ?_
    exact outQ (v := .bool false) I ⟨by simp [h2], I.hJ⟩
theorem bare_any {k : Int} (hk : k = 0 ∨ k = 1 ∨ k = 2) (u : Nat) (hu : u < W) (s : ByteArray) (ad : Option Addr) (m cap : Nat) (w : World) : Calls Tryd.prog 45 #[.agg (tx (k, u, s, .slice ad m cap)).toArray] w fun e w' => e = .returned (.bool (bareB k u s m)) ∧ Below w.heap.size w w' := by
  rcases hk with rfl | rfl | rfl
  · exact bare0 u s ad m cap w
  · exact bare1 u hu s ad m cap w
  · exact bare2 u hu s ad m cap w
/-- What is asked of one term ahead of its list. -/
theorem fitS_iff {n : Nat} {s : ST n} {t : TT n} (hs : okS n s) (hu : t.2.1 < W) : fitS n s t ↔ t.1 = s.1 ∧ bareB t.1 t.2.1 t.2.2.1 (cntL n t.2.2.2) = true ∧ t.2.2.1.size ≤ 16384 ∧ (t.1 = 2 → ∃ (m : Nat) (e : n = m + 1) (l' : List (ST m)), insM (List.length (α := TT m) (e ▸ t).2.2.2) (e ▸ s).2.1 (e ▸ s).2.2 = some l' ∧ fitR (fitS m) l' (e ▸ t).2.2.2) := by
  obtain ⟨k, u, x, y⟩ := t
  obtain ⟨k', many, l⟩ := s
  cases n with
  | zero =>
    have hs' : k' = 0 ∨ k' = 1 := hs
    constructor
    · intro h
      rcases h with ⟨h1, h2, _, h3, _⟩ | ⟨h1, h2, h3, h4, _⟩ | h
      · simp only at h1 h2 h3
        subst h1 h2 h3
        exact ⟨rfl, rfl, Nat.zero_le 16384, fun h => by cases h⟩
      · simp only at h1 h2 h3 h4
        subst h1 h2 h3
        exact ⟨rfl, rfl, h4, fun h => by cases h⟩
      · exact h.elim
    · rintro ⟨h1, h2, h3, h4⟩
      simp only at h1 h2 h3
      subst h1
      unfold bareB at h2
      simp only [Bool.and_eq_true, Bool.or_eq_true, decide_eq_true_eq] at h2
      obtain ⟨⟨b1, b2⟩, b3⟩ := h2
      rcases hs' with rfl | rfl
      · exact .inl ⟨rfl, rfl, hu, size0.2 (b2.resolve_left (by decide)), rfl⟩
      · exact .inr (.inl ⟨rfl, rfl, b1.resolve_left (by decide), h3, rfl⟩)
  | succ m =>
    have hs' : k' = 0 ∨ k' = 1 ∨ k' = 2 := hs.1
    constructor
    · intro h
      rcases h with ⟨h1, h2, _, h3, h4⟩ | ⟨h1, h2, h3, h4, h5⟩ | ⟨h1, h2, h3, h4, l', h5, h6⟩
      · simp only at h1 h2 h3 h4
        subst h1 h2 h3 h4
        exact ⟨rfl, rfl, Nat.zero_le 16384, fun h => by cases h⟩
      · simp only at h1 h2 h3 h4 h5
        subst h1 h2 h3 h5
        exact ⟨rfl, rfl, h4, fun h => by cases h⟩
      · simp only at h1 h2 h3 h4
        subst h1 h2 h3 h4
        exact ⟨rfl, rfl, Nat.zero_le 16384, fun _ => ⟨m, rfl, l', h5, h6⟩⟩
    · rintro ⟨h1, h2, h3, h4⟩
      simp only at h1 h2 h3 h4
      subst h1
      unfold bareB at h2
      simp only [Bool.and_eq_true, Bool.or_eq_true, decide_eq_true_eq] at h2
      obtain ⟨⟨b1, b2⟩, b3⟩ := h2
      rcases hs' with rfl | rfl | rfl
      · exact .inl ⟨rfl, rfl, hu, size0.2 (b2.resolve_left (by decide)), List.length_eq_zero_iff.1 (b3.resolve_left (by decide))⟩
      · exact .inr (.inl ⟨rfl, rfl, b1.resolve_left (by decide), h3, List.length_eq_zero_iff.1 (b3.resolve_left (by decide))⟩)
      · obtain ⟨m', e, l', h5, h6⟩ := h4 rfl
        cases e
        exact .inr (.inr ⟨rfl, rfl, b1.resolve_left (by decide), size0.2 (b2.resolve_left (by decide)), l', h5, h6⟩)
end Go.Proofs.YtjjiendgmnlokaaDoor

/- fit, Fits of the program. -/
namespace Go.Proofs.YtjjiendgmnlokaaDoor
open Go.RowKit Go.Sort
set_option linter.unusedVariables false
set_option maxRecDepth 100000
def FitC (n : Nat) : Prop := ∀ {W0 wS : World} {K : Nat → Prop} {wv lv : Value} {sl : List (ST n)} {l : List (TT n)}, SLA K wS (n + 1) wv sl → (∀ k, K k → k < wS.heap.size) → (∀ s ∈ sl, okS n s) → sl.length ≤ 10000 → LAs W0 (LA W0 n) lv l → (∀ t ∈ l, t.2.1 < W ∧ fit n t.2.2.2) → l.length < 1000000000 → Below W0.heap.size W0 wS →
  Calls Tryd.prog 31 #[wv, lv] wS fun e w' => Below wS.heap.size wS w' ∧ ((fitR (fitS n) sl l ∧ e = .returned T0) ∨ (¬ fitR (fitS n) sl l ∧ e = .panicked PErr))
theorem thenP {P : Program} {Q : Exit → Act → World → Prop} {N : Act → World → Prop} {ks : List Ki} {a : Act} {ch : List PanicEntry} {w : World} (k : Q (.panic ch) a w) : Exit.then N (QK P Q ks) (.panic ch) a w := panQ_ok k
theorem thenK {P : Program} {Q : Exit → Act → World → Prop} {N : Act → World → Prop} {ks ks' : List Ki} {a : Act} {ch : List PanicEntry} {w : World} (k : Q (.panic ch) a w) : QK P (Exit.then N (QK P Q ks)) ks' (.panic ch) a w := panQ_ok (thenP k)
abbrev fiK : List Nat := [0, 1, 12, 13, 14]
abbrev fiV (wv lv : Value) (len i : Nat) : Vs := frm 51 [(0, Sum.inl wv), (1, Sum.inl lv), (12, Sum.inl lv), (13, Sum.inl (Z len)), (14, Sum.inl (Z i))]
theorem LA.cnt {w : World} : ∀ {n : Nat} {v : Value} {l : TL n}, LA w n v l → ∃ ad cap, v = .slice ad (cntL n l) cap
  | 0, v, l, h => h
  | n + 1, v, l, h => by obtain ⟨ad, cap, hv, _⟩ := h; exact ⟨ad, cap, hv⟩
theorem fit_of1 {n : Nat} (hrec : ∀ m, n = m + 1 → FitC m) : FitC n := by
  intro W0 wS K wv lv sl l hSL hK hok hsl hl hfl hll hbS
  obtain ⟨adw, capw, rfl, hmw⟩ := hSL
  obtain ⟨adl, capl, rfl, hml⟩ := hl
  refine inQ (J := Below wS.heap.size wS) (F := (· < wS.heap.size)) Tryd.func31 (Below.refl _ _) fun a I => ?_
  by_cases hlen : sl.length = l.length
  case neg =>
    refine goQ [lS Tryd.underlying49 (ad := adw) (n := sl.length) (cap := capw) rfl, lS Tryd.underlying22 (ad := adl) (n := l.length) (cap := capl) rfl, bO .eql 3 (run_eqlZ (x := sl.length) (y := l.length) (b := false) (decide_eq_false (by omega)))] (nonR wS) I fun β a w1 I hb => ?_
    exact rthrow [Sum.inl (.bool false)] Tryd.func24 I (fun w' => Below w1.heap.size w1 w') (ask_f w1) fun w' hb => ⟨I.df, I.hJ.trans (hb.mono I.hJ.size), .inr ⟨fun h => hlen (fitR_len h), rfl⟩⟩
  refine goQ [lS Tryd.underlying49 (ad := adw) (n := sl.length) (cap := capw) rfl, lS Tryd.underlying22 (ad := adl) (n := l.length) (cap := capl) rfl, bO .eql 3 (run_eqlZ (x := sl.length) (y := l.length) (b := true) (decide_eq_true (by omega))), kC Tryd.func24 ask_t, lS Tryd.underlying22 (ad := adl) (n := l.length) (cap := capl) rfl] (nonR wS) I fun β a w1 I hb => ?_
  let St : Nat → Act → World → Prop := fun k a w' => ∃ (i : Nat) (β : Nat → Nat) (u : Nat → Value), k = l.length - i ∧ i ≤ l.length ∧ (∀ (j : Nat) s t, j < i → sl[j]? = some s → l[j]? = some t → fitS n s t) ∧
    SI (Below wS.heap.size wS) (· < wS.heap.size) [] β (cfC (bodyL Tryd.f31) (fillF (scrF 51 fiK) u 0 (fiV (.slice adw sl.length capw) (.slice adl l.length capl) l.length i)) [] 0) a w'
  refine lpM (bodyL Tryd.f31) St l.length ?_ ?_
  · obtain ⟨u, Iu⟩ := I.scr (bodyL Tryd.f31) (scrF 51 fiK) (fiV (.slice adw sl.length capw) (.slice adl l.length capl) l.length 0) [] 0
    exact ⟨0, β, u, by omega, Nat.zero_le _, fun j s t h => absurd h (Nat.not_lt_zero j), Iu⟩
  rintro k a3 w3 ⟨i, β3, u, rfl, hi, hdone, I⟩
  refine wp_cfC (tm := fillF (scrF 51 fiK) u 0 (fiV (.slice adw sl.length capw) (.slice adl l.length capl) l.length i)) (rows := []) (nx := 0) ?_
  rcases Nat.lt_or_ge i l.length with hil | hil
  case inr =>
    obtain rfl : i = l.length := by omega
    refine goQ [bO .lss 3 (run_lssZ (x := l.length) (y := l.length) (b := false) (by simp))] (nonR wS) I fun β4 a4 w4 I hb4 => ?_
    refine endE 0 ?_
    refine goQ [] (nonR wS) (I.exit _) fun β5 a5 w5 I hb5 => ?_
    exact out0 I ⟨I.hJ, .inl ⟨fitR_iff.2 ⟨hlen, fun j s t hs ht => hdone j s t (List.getElem?_eq_some_iff.1 ht).1 hs ht⟩, rfl⟩⟩
  have hiw : i < sl.length := by omega
  obtain ⟨⟨k1, n1, t1, x1⟩, h1⟩ : ∃ t, l[i]? = some t := ⟨_, List.getElem?_eq_getElem hil⟩
  obtain ⟨⟨ks, many, ls⟩, h2⟩ : ∃ s, sl[i]? = some s := ⟨_, List.getElem?_eq_getElem hiw⟩
  obtain ⟨ga, offa, lva, rfl, hca, hLa⟩ := hml i _ h1
  obtain ⟨gw, offw, iv, rfl, hKw, hcw, hSw⟩ := hmw i _ h2
  simp only [] at hca hLa hcw hSw
  obtain ⟨adx, capx, rfl⟩ := hLa.cnt
  obtain ⟨adi, mi, capi, rfl⟩ := hSw.slice
  have hoks := hok _ (List.mem_of_getElem? h2)
  obtain ⟨hu1, hf1⟩ := hfl _ (List.mem_of_getElem? h1)
  simp only [] at hu1 hf1
  have hbad : ¬ fitS n (ks, many, ls) (k1, n1, t1, x1) → ¬ fitR (fitS n) sl l := fun h hR => h ((fitR_iff.1 hR).2 i _ _ h2 h1)
  have hiff := fitS_iff (n := n) (s := (ks, many, ls)) (t := (k1, n1, t1, x1)) hoks hu1
  have hta : ∀ w, Below wS.heap.size wS w → (loadVar 41 ⟨ga, offa + i * 7, none⟩).run Tryd.prog w = .ok (.agg (tx (k1, n1, t1, .slice adx (cntL n x1) capx)).toArray) w := fun w hb => load7 (hca.keep ((hbS.trans (hb.mono hbS.size)).block ga hca.lt))
  have hcw' : ∀ w, Below wS.heap.size wS w → CellsAt w gw (offw + i * 3) (sx (ks, many, .slice adi mi capi)) := fun w hb => hcw.keep (hb.block gw (hK gw hKw))
  have hks : ∀ w, Below wS.heap.size wS w → (loadVar 3 ⟨gw, offw + i * 3 + 0, none⟩).run Tryd.prog w = .ok (Z ks) w := fun w hb => load1 (hcw' w hb) 0 rfl 3 Tryd.underlying3 rfl
  have hsh : ∀ w, Below wS.heap.size wS w → (loadVar 71 ⟨gw, offw + i * 3, none⟩).run Tryd.prog w = .ok (.agg (sx (ks, many, .slice adi mi capi)).toArray) w := fun w hb => loadSh (hcw' w hb)
  have hadd : IntKind.i64.wrap ((i : Int) + 1) = ((i + 1 : Nat) : Int) := by rw [wz (by omega) (by omega)]; omega
  refine goT (T := Below wS.heap.size wS) [bO .lss 3 (run_lssZ (x := i) (y := l.length) (b := true) (by simp; omega)), iA 22 Tryd.underlying22 (sz := 7) (by kernel_rfl) (g := ga) (off := offa) (n := l.length) (cap := capl) hil, ldA 41 hta] (nonR wS) (fun _ h => h) I fun β4 a4 w4 I hb4 => ?_
  by_cases hk : k1 = ks
  case neg =>
    refine dwT (T := Below wS.heap.size wS) 8 [iA 49 Tryd.underlying49 (sz := 3) (by kernel_rfl) (g := gw) (off := offw) (n := sl.length) (cap := capw) hiw, ldA 3 hks, bO .eql 3 (run_eqlZ (x := k1) (y := ks) (b := false) (decide_eq_false hk))] (nonR wS) (fun _ h => h) (PanOk.then (PanOk.qk PanOk.post)) I fun a5 w5 I => ?_
    refine rthrow [Sum.inl (.bool false)] Tryd.func24 I (fun w' => Below w5.heap.size w5 w') (ask_f w5) fun w' hb => ?_
    refine thenP ?_
    exact ⟨I.df, I.hJ.trans (hb.mono I.hJ.size), .inr ⟨hbad fun h => hk (hiff.1 h).1, rfl⟩⟩
  subst hk
  refine dwT (T := Below wS.heap.size wS) 8 [iA 49 Tryd.underlying49 (sz := 3) (by kernel_rfl) (g := gw) (off := offw) (n := sl.length) (cap := capw) hiw, ldA 3 hks, bO .eql 3 (run_eqlZ (x := k1) (y := k1) (b := true) (by simp))] (nonR wS) (fun _ h => h) (PanOk.then (PanOk.qk PanOk.post)) I fun a5 w5 I => ?_
  have hkk : k1 = 0 ∨ k1 = 1 ∨ k1 = 2 := (okS_kind hoks).elim .inl fun h => h.elim (fun h => .inr (.inl h)) fun h => .inr (.inr h.1)
  have hbare := bare_any hkk n1 hu1 t1 adx (cntL n x1) capx
  cases hq : bareB k1 n1 t1 (cntL n x1) with
  | false =>
    rw [hq] at hbare
    refine goQ [kC Tryd.func24 ask_t, kC Tryd.func45 hbare] (nonR wS) I fun β6 a6 w6 I hb6 => ?_
    refine rthrow [Sum.inl (.bool false)] Tryd.func24 I (fun w' => Below w6.heap.size w6 w') (ask_f w6) fun w' hb => ?_
    refine thenP ?_
    exact ⟨I.df, I.hJ.trans (hb.mono I.hJ.size), .inr ⟨hbad fun h => (by have := (hiff.1 h).2.1; rw [hq] at this; cases this), rfl⟩⟩
  | true =>
  rw [hq] at hbare
  rcases Nat.lt_or_ge 16384 t1.size with hts | hts
  · refine goQ [kC Tryd.func24 ask_t, kC Tryd.func45 hbare, kC Tryd.func24 ask_t, lO Tryd.underlying9 (b := t1) (n := t1.size) rfl, bO .leq 3 (run_leqZ (x := t1.size) (y := 16384) (b := false) (decide_eq_false (by omega)))] (nonR wS) I fun β6 a6 w6 I hb6 => ?_
    refine rthrow [Sum.inl (.bool false)] Tryd.func24 I (fun w' => Below w6.heap.size w6 w') (ask_f w6) fun w' hb => ?_
    refine thenP ?_
    exact ⟨I.df, I.hJ.trans (hb.mono I.hJ.size), .inr ⟨hbad fun h => (by have := (hiff.1 h).2.2.1; simp only at this; omega), rfl⟩⟩
  have next : ∀ {β : Nat → Nat} {a : Act} {w' : World} {c : Cf}, fitS n (k1, many, ls) (k1, n1, t1, x1) → SI (Below wS.heap.size wS) (· < wS.heap.size) [] β c a w' → dropF (scrF 51 fiK) 0 c.tm = dropF (scrF 51 fiK) 0 (fiV (.slice (some ⟨gw, offw, none⟩) sl.length capw) (.slice (some ⟨ga, offa, none⟩) l.length capl) l.length (i + 1)) → ∃ j, j < l.length - i ∧ St j a w' := by
    intro β a w' c hS I hdr
    obtain ⟨u', Iu⟩ := I.scr (bodyL Tryd.f31) (scrF 51 fiK) (fiV (.slice (some ⟨gw, offw, none⟩) sl.length capw) (.slice (some ⟨ga, offa, none⟩) l.length capl) l.length (i + 1)) [] 0 hdr
    refine ⟨l.length - (i + 1), by omega, i + 1, β, u', rfl, hil, fun j s t hj hs ht => ?_, Iu⟩
    rcases Nat.lt_or_ge j i with hji | hji
    · exact hdone j s t hji hs ht
    · obtain rfl : j = i := by omega
      rw [h2] at hs
      rw [h1] at ht
      cases hs
      cases ht
      exact hS
  by_cases hk2 : k1 = 2
  case neg =>
    refine goQ [kC Tryd.func24 ask_t, kC Tryd.func45 hbare, kC Tryd.func24 ask_t, lO Tryd.underlying9 (b := t1) (n := t1.size) rfl, bO .leq 3 (run_leqZ (x := t1.size) (y := 16384) (b := true) (decide_eq_true (by omega))), kC Tryd.func24 ask_t, eql0 k1 2 false (decide_eq_false hk2), bO .add 3 (run_addZ (x := i) (y := 1) hadd)] (nonR wS) I fun β6 a6 w6 I hb6 => ?_
    exact endL (next (hiff.2 ⟨rfl, hq, hts, fun h => absurd h hk2⟩) I (by kernel_rfl))
  subst hk2
  obtain ⟨m, rfl⟩ : ∃ m, n = m + 1 := by
    rcases okS_kind hoks with h | h | ⟨_, m, h⟩
    · cases h
    · cases h
    · exact ⟨m, h⟩
  obtain ⟨_, hm1, hok1⟩ := hoks
  simp only [] at hm1 hok1
  refine goQ [kC Tryd.func24 ask_t, kC Tryd.func45 hbare, kC Tryd.func24 ask_t, lO Tryd.underlying9 (b := t1) (n := t1.size) rfl, bO .leq 3 (run_leqZ (x := t1.size) (y := 16384) (b := true) (decide_eq_true (by omega))), kC Tryd.func24 ask_t, eql0 2 2 true rfl] (nonR wS) I fun β6 a6 w6 I hb6 => ?_
  have hsz6 : a6.tmps.size = 51 := by rw [I.fr]; kernel_rfl
  obtain ⟨cn, hcn⟩ : ∃ cn, cntL (m + 1) x1 = cn := ⟨_, rfl⟩
  have hcn2 : List.length (α := TT m) x1 = cn := hcn
  have hcl : cn < 1000000000 := by rw [← hcn2]; exact hf1.1
  rw [hcn] at hiff hLa hbare hq
  have hbw6 := I.hJ
  refine dwS (T := Below wS.heap.size wS) [(7, none), (10, none)] [iA 49 Tryd.underlying49 (sz := 3) (by kernel_rfl) (g := gw) (off := offw) (n := sl.length) (cap := capw) hiw, ldA 71 hsh, lS Tryd.underlying22 (ad := adx) (n := cntL (m + 1) x1) (cap := capx) rfl]
    (fun j v w' => (j = 7 → ∃ (l' : List (ST m)) (K' : Nat → Prop), insM cn many ls = some l' ∧ (∀ k, K' k → k < w'.heap.size) ∧ SLA K' w' (m + 1) v l') ∧ (j = 10 → ∀ l' : List (ST m), insM cn many ls = some l' → fitR (fitS m) l' x1)) ?_ (nonR wS) (fun _ h => h) I ?_ ?_
  · intro j v w' w'' h hb
    refine ⟨fun hj => ?_, h.2⟩
    obtain ⟨l', K', q1, q2, q3⟩ := h.1 hj
    exact ⟨l', K', q1, fun k hk => Nat.lt_of_lt_of_le (q2 k hk) hb.size, q3.keep fun k hk => hb.block k (q2 k hk)⟩
  · intro p hp o ho listed vs a' w' hF hrd hbw hV hev
    have hbw' : Below wS.heap.size wS w' := hbw6.trans (hbw.mono hbw6.size)
    simp only [List.mem_cons, List.not_mem_nil, or_false] at hp
    rcases hp with rfl | rfl
    · obtain ⟨o1, o2, o3⟩ := opD_get (x := .call ⟨.value (.func 46), #[.tmp 42, .tmp 45], #[71, 3]⟩) (d := some 46) ho (by kernel_rfl)
      have q1 : a'.eval (.tmp 42) = .agg (sx (2, many, .slice adi mi capi)).toArray := hev (.tmp 42) (Sum.inl (.agg (sx (2, many, .slice adi mi capi)).toArray)) (by kernel_rfl)
      have q2 : a'.eval (.tmp 45) = Z cn := by rw [← hcn]; exact hev (.tmp 45) (Sum.inl (Z (cntL (m + 1) x1))) (by kernel_rfl)
      refine callG o1 o3 Tryd.func46 (by kernel_rfl) (by kernel_rfl) (args := #[.agg #[Z 2, .bool many, .slice adi mi capi], Z cn]) (by rw [map2, q1, q2]) ?_
      refine (inside_any (k := 2) (many := many) (hSw.keep fun k hk => hbw'.block k (hK k hk)) (fun k hk => Nat.lt_of_lt_of_le (hK k hk) hbw'.size) hm1 cn (by omega)).mono fun e w2 he => ?_
      obtain ⟨hb2, he⟩ := he
      rcases he with ⟨hn, rfl⟩ | ⟨v, K', l', hi', rfl, hK', hS'⟩
      · refine thenK ?_
        refine ⟨hF.1.trans I.df, hbw'.trans (hb2.mono hbw'.size), .inr ⟨hbad fun h => ?_, rfl⟩⟩
        obtain ⟨m', e, l'', h5, _⟩ := (hiff.1 h).2.2.2 rfl
        cases e
        have h5' : insM (List.length (α := TT m) x1) many ls = some l'' := h5
        rw [hcn2, hn] at h5'
        cases h5'
      · refine ⟨v, rfl, fun u hu => (by cases hu), ⟨fun _ => ⟨l', K', hi', fun k hk => ?_, hS'⟩, fun h => (by cases h)⟩, hb2⟩
        have h0 := hbw'.size
        have h9 := hb2.size
        rcases hK' k hk with h | h
        · have := hK k h; omega
        · exact h.2
    · obtain ⟨o1, o2, o3⟩ := opD_get (x := .call ⟨.value (.func 31), #[.tmp 46, .tmp 48], #[49, 22]⟩) (d := some 49) ho (by kernel_rfl)
      have hl7 := waits_done (ops := opsD _) (i := 10) (j := 7) (by kernel_rfl) hrd
      have q1 : a'.eval (.tmp 46) = vs 7 := hF.new (i := 7) (by kernel_rfl) (by omega) hl7
      have q2 : a'.eval (.tmp 48) = .slice adx (cntL (m + 1) x1) capx := hev (.tmp 48) (Sum.inl (.slice adx (cntL (m + 1) x1) capx)) (by kernel_rfl)
      obtain ⟨l', K', hi', hK', hS'⟩ := (hV (7, none) (by simp) hl7).1 rfl
      obtain ⟨i1, i2, i3⟩ := insM_ok hi' hm1 hok1
      have hLx : LAs W0 (LA W0 m) (.slice adx (cntL (m + 1) x1) capx) x1 := by rw [hcn]; exact hLa
      refine callG o1 o3 Tryd.func31 (by kernel_rfl) (by kernel_rfl) (args := #[vs 7, .slice adx (cntL (m + 1) x1) capx]) (by rw [map2, q1, q2]) ?_
      refine (hrec m rfl hS' hK' i3 (by omega) hLx (fun t ht => hf1.2 t ht) hf1.1 (hbS.trans (hbw'.mono hbS.size))).mono fun e w2 he => ?_
      obtain ⟨hb2, he⟩ := he
      rcases he with ⟨hR, rfl⟩ | ⟨hR, rfl⟩
      · refine ⟨T0, rfl, fun u hu => (by cases hu), ⟨fun h => (by cases h), fun _ l'' h'' => ?_⟩, hb2⟩
        rw [hi'] at h''
        cases h''
        exact hR
      · refine thenK ?_
        refine ⟨hF.1.trans I.df, hbw'.trans (hb2.mono hbw'.size), .inr ⟨hbad fun h => ?_, rfl⟩⟩
        obtain ⟨m', e, l'', h5, h6⟩ := (hiff.1 h).2.2.2 rfl
        cases e
        have h5' : insM (List.length (α := TT m) x1) many ls = some l'' := h5
        rw [hcn2, hi'] at h5'
        cases h5'
        exact hR h6
  · intro vs a7 w7 hV I
    obtain ⟨l', K', hi', _, _⟩ := (hV (7, none) (by simp) (of_decide_eq_true (by kernel_rfl))).1 rfl
    have hR := (hV (10, none) (by simp) (of_decide_eq_true (by kernel_rfl))).2 rfl l' hi'
    refine goQ [bO .add 3 (run_addZ (x := i) (y := 1) hadd)] (nonR wS) I fun β8 a8 w8 I hb8 => ?_
    exact endL (next (hiff.2 ⟨rfl, hq, hts, fun _ => ⟨m, rfl, l', by show insM (List.length (α := TT m) x1) many ls = some l'; rw [hcn2]; exact hi', hR⟩⟩) I (by kernel_rfl))
theorem fit_any (n : Nat) : FitC n := by
  induction n with
  | zero => exact fit_of1 fun m h => by cases h
  | succ n ih => exact fit_of1 fun m h => by cases h; exact ih
end Go.Proofs.YtjjiendgmnlokaaDoor

/- Fits of the program, whole. -/
namespace Go.Proofs.YtjjiendgmnlokaaDoor
open Go.RowKit Go.Sort
set_option linter.unusedVariables false
set_option maxRecDepth 100000
theorem fitsC1 {f : List UInt8} (hf : f.length ≤ 1000) {W0 w : World} {adl : Option Addr} {capl : Nat} {l : List (TT 8)} (hl : LAs W0 (LA W0 8) (.slice adl l.length capl) l) (hfl : ∀ t ∈ l, t.2.1 < W ∧ fit 8 t.2.2.2) (hll : l.length < 1000000000) (hb0 : Below W0.heap.size W0 w) {pf pl : Nat} (h1 : HasRow w pf #[str f]) (h2 : HasRow w pl #[.slice adl l.length capl]) :
    Calls Tryd.prog 30 #[ptr0 pf, ptr0 pl] w fun e w' => Below w.heap.size w w' ∧ ((fitsM 8 f l = true ∧ e = .returned T0) ∨ (fitsM 8 f l = false ∧ e = .panicked PErr)) := by
  have hM := fitsM_S (f := f) (l := l) hfl
  have hno : (∀ ps, partsM f = some ps → ¬ fitR (fitS 8) (ps.map (shT 8)) l) → fitsM 8 f l = false := fun h => by
    cases hq : fitsM 8 f l with
    | false => rfl
    | true =>
      obtain ⟨ps, q1, q2⟩ := hM.1 hq
      exact absurd q2 (h ps q1)
  have hld1 : ∀ w', Below w.heap.size w w' → (loadVar 9 ⟨pf, 0, none⟩).run Tryd.prog w' = .ok (str f) w' := fun w' hb => run_lv (c := #[str f]) (h1.below hb) (by kernel_rfl)
  have hld2 : ∀ w', Below w.heap.size w w' → (loadVar 22 ⟨pl, 0, none⟩).run Tryd.prog w' = .ok (.slice adl l.length capl) w' := fun w' hb => run_lv (c := #[.slice adl l.length capl]) (h2.below hb) (by kernel_rfl)
  refine inQ (J := Below w.heap.size w) (F := (· < w.heap.size)) Tryd.func30 (Below.refl _ _) fun a I => ?_
  have hsz : a.tmps.size = 6 := by rw [I.fr]; kernel_rfl
  refine dwS (T := Below w.heap.size w) [(1, none), (3, none)] [ldA 9 hld1, ldA 22 hld2]
    (fun j v w' => (j = 1 → ∃ (ps : List (List UInt8)) (K' : Nat → Prop), partsM f = some ps ∧ (∀ k, K' k → k < w'.heap.size) ∧ SLA K' w' 9 v (ps.map (shT 8))) ∧ (j = 3 → fitsM 8 f l = true)) ?_ (nonR w) (fun _ h => h) I ?_ ?_
  · intro j v w' w'' h hb
    refine ⟨fun hj => ?_, h.2⟩
    obtain ⟨l', K', q1, q2, q3⟩ := h.1 hj
    exact ⟨l', K', q1, fun k hk => Nat.lt_of_lt_of_le (q2 k hk) hb.size, q3.keep fun k hk => hb.block k (q2 k hk)⟩
  · intro p hp o ho listed vs a' w' hF hrd hbw hV hev
    simp only [List.mem_cons, List.not_mem_nil, or_false] at hp
    rcases hp with rfl | rfl
    · obtain ⟨o1, o2, o3⟩ := opD_get (x := .call ⟨.value (.func 23), #[.tmp 2], #[9]⟩) (d := some 3) ho (by kernel_rfl)
      have q1 : a'.eval (.tmp 2) = str f := hev (.tmp 2) (Sum.inl (str f)) (by kernel_rfl)
      refine callG o1 o3 Tryd.func23 (by kernel_rfl) (by kernel_rfl) (args := #[str f]) (by rw [show (#[Operand.tmp 2] : Array Operand).map a'.eval = #[a'.eval (.tmp 2)] by simp, q1]) ?_
      refine (shapes_any f hf w').mono fun e w2 he => ?_
      obtain ⟨hb2, he⟩ := he
      rcases he with ⟨hn, rfl⟩ | ⟨ps, v, K', hps, rfl, hK', hS'⟩
      · refine panQ_ok ?_
        exact ⟨hF.1.trans I.df, hbw.trans (hb2.mono hbw.size), .inr ⟨hno fun ps h => (by rw [hn] at h; cases h), rfl⟩⟩
      · exact ⟨v, rfl, fun u hu => (by cases hu), ⟨fun _ => ⟨ps, K', hps, fun k hk => (hK' k hk).2, hS'⟩, fun h => (by cases h)⟩, hb2⟩
    · obtain ⟨o1, o2, o3⟩ := opD_get (x := .call ⟨.value (.func 31), #[.tmp 3, .tmp 4], #[49, 22]⟩) (d := some 5) ho (by kernel_rfl)
      have hl1 := waits_done (ops := opsD _) (i := 3) (j := 1) (by kernel_rfl) hrd
      have q1 : a'.eval (.tmp 3) = vs 1 := hF.new (i := 1) (by kernel_rfl) (by omega) hl1
      have q2 : a'.eval (.tmp 4) = .slice adl l.length capl := hev (.tmp 4) (Sum.inl (.slice adl l.length capl)) (by kernel_rfl)
      obtain ⟨ps, K', hps, hK', hS'⟩ := (hV (1, none) (by simp) hl1).1 rfl
      obtain ⟨hflat, hpt⟩ := parts_inv hps
      refine callG o1 o3 Tryd.func31 (by kernel_rfl) (by kernel_rfl) (args := #[vs 1, .slice adl l.length capl]) (by rw [map2, q1, q2]) ?_
      refine (fit_any 8 hS' hK' (fun s hs => by
        obtain ⟨q, hq, rfl⟩ := List.mem_map.1 hs
        exact okS_sh 8 (Nat.le_refl _) (hpt q hq)) (by have := flat_len hpt; rw [List.length_map, ← hflat] at *; omega) hl hfl hll (hb0.trans (hbw.mono hb0.size))).mono fun e w2 he => ?_
      obtain ⟨hb2, he⟩ := he
      rcases he with ⟨hR, rfl⟩ | ⟨hR, rfl⟩
      · exact ⟨T0, rfl, fun u hu => (by cases hu), ⟨fun h => (by cases h), fun _ => hM.2 ⟨ps, hps, hR⟩⟩, hb2⟩
      · refine panQ_ok ?_
        refine ⟨hF.1.trans I.df, hbw.trans (hb2.mono hbw.size), .inr ⟨hno fun ps' h => ?_, rfl⟩⟩
        rw [hps] at h
        cases h
        exact hR
  · intro vs a7 w7 hV I
    have hR := (hV (3, none) (by simp) (of_decide_eq_true (by kernel_rfl))).2 rfl
    refine goQ [] (nonR w) I fun β8 a8 w8 I hb8 => ?_
    exact out0 I ⟨I.hJ, .inl ⟨hR, rfl⟩⟩
theorem trueR : Rsrc (fun _ => True) (fun _ => False) := ⟨fun _ _ _ _ => trivial, fun _ _ _ h => h.elim⟩
theorem wfits_any {f : List UInt8} (hf : f.length ≤ 1000) {W0 : World} {lv : Value} {l : List (TT 8)} (hl : LAs W0 (LA W0 8) lv l) (hfl : ∀ t ∈ l, t.2.1 < W ∧ fit 8 t.2.2.2) (hll : l.length < 1000000000) (w : World) (hb0 : Below W0.heap.size W0 w) :
    Calls Tryd.prog 15 #[str f, lv] w fun e w' => e = .returned (.bool (fitsM 8 f l)) ∧ Below w.heap.size w w' := by
  obtain ⟨adl, capl, rfl, hmem⟩ := id hl
  refine inQ (J := Below w.heap.size w) (F := (· < w.heap.size)) Tryd.func15 (Below.refl _ _) fun a I => ?_
  refine goQ [] (nonR w) I fun β a w1 I hb => ?_
  refine mfnQ (.func 30) [Sum.inr (0, 0), Sum.inr (1, 0)] I ?_
  refine goQ [] (nonR w) (I.same _) fun β2 a w2 I hb2 => ?_
  have e0 : β2 0 = β 0 := agr hb2 0 rfl
  have e1 : β2 1 = β 1 := agr hb2 1 rfl
  have r0 := I.rowG 0 e0 (r := #[str f])
  have r1 := I.rowG 1 e1 (r := #[.slice adl l.length capl])
  have hsz2 := I.hJ.size
  have hb02 : Below W0.heap.size W0 w2 := hb0.trans (I.hJ.mono hb0.size)
  refine mcall (ss := [Sum.inl (.func (.func 30) #[] #[ptr0 (β 0), ptr0 (β 1)])]) Tryd.func20 I ?_
  have bwOf : ∀ {w3 : World}, Grow (fun k => ¬ False) w2 w3 → Below w2.heap.size w2 w3 := fun hg => ⟨hg.os, hg.tape, hg.output, hg.size, fun k hk => hg.block k hk (fun h => h)⟩
  have step : ∀ w3, Below w2.heap.size w2 w3 → Calls Tryd.prog 30 #[ptr0 (β 0), ptr0 (β 1)] w3 fun e w' => Below w3.heap.size w3 w' ∧ ((fitsM 8 f l = true ∧ e = .returned T0) ∨ (fitsM 8 f l = false ∧ e = .panicked PErr)) := fun w3 hb3 => fitsC1 hf hl hfl hll (hb02.trans (hb3.mono hb02.size)) (r0.below hb3) (r1.below hb3)
  cases hq : fitsM 8 f l with
  | true =>
    refine (caught_ret (ι := Unit) Tryd.func30 (by kernel_rfl) (by kernel_rfl) #[ptr0 (β 0), ptr0 (β 1)] w2 (fun _ => False) (fun k hk => hk.elim) (fun _ _ => True) (fun _ _ => False) (fun _ => trueR) fun w3 hb3 => ?_).mono fun e w4 he => ?_
    · refine (step w3 hb3).mono fun e w5 he => ?_
      obtain ⟨hg, ⟨_, rfl⟩ | ⟨hn, _⟩⟩ := he
      · exact ⟨rfl, Grow.of_below hg, (), trivial, fun k hk => hk.elim⟩
      · rw [hq] at hn; cases hn
    · obtain ⟨rfl, hg4, _⟩ := he
      have hb4 := bwOf hg4
      refine goQ [bO .eql 25 (eqE_run 0 0 (q := true) rfl)] (nonR w) (I.moved (Grow.of_below hb4) (I.hJ.trans (hb4.mono hsz2)) (fun _ _ h => h) (Z 0)) fun β5 a w5 I hb5 => ?_
      exact outQ (v := .bool true) I ⟨rfl, I.hJ⟩
  | false =>
    refine (caught_thr Tryd.func30 (by kernel_rfl) (by kernel_rfl) #[ptr0 (β 0), ptr0 (β 1)] w2 (fun _ => False) (fun k hk => hk.elim) (fun _ => True) (fun _ => False) trueR (fun k hk => hk.elim) fun w3 hb3 => ?_).mono fun e w4 he => ?_
    · refine (step w3 hb3).mono fun e w5 he => ?_
      obtain ⟨hg, ⟨hn, _⟩ | ⟨_, rfl⟩⟩ := he
      · rw [hq] at hn; cases hn
      · exact ⟨rfl, Grow.of_below hg, trivial⟩
    · obtain ⟨rfl, hg4, _⟩ := he
      have hb4 := bwOf hg4
      refine goQ [bO .eql 25 (eqE_run 2 0 (q := false) rfl)] (nonR w) (I.moved (Grow.of_below hb4) (I.hJ.trans (hb4.mono hsz2)) (fun _ _ h => h) (Z 2)) fun β5 a w5 I hb5 => ?_
      exact outQ (v := .bool false) I ⟨rfl, I.hJ⟩
end Go.Proofs.YtjjiendgmnlokaaDoor

/- The document's way to read terms by a form, told without a program: it comes to the same. -/
namespace Go.Proofs.YtjjiendgmnlokaaDoor
open Go.RowKit Go.Sort
set_option linter.unusedVariables false
set_option maxRecDepth 100000
def eachM (q : List UInt8) (n : Nat) : List (List UInt8) := if q.head? = some 40 then inr_ q else List.replicate n ((inr_ q).headD [])
/-- One term. -/
def tk1 {α : Type} (nil : α) (sub : List (List UInt8) → List UInt8 → Nat → Option (α × Nat)) (s : List UInt8) (q : List UInt8) (i lf : Nat) : Option ((Int × Nat × ByteArray × α) × Nat) :=
  if 32 * i + 32 ≤ s.length then
    (if q = [110] then some ((0, nm ((s.drop (32 * i)).take 32), ⟨#[]⟩, nil), lf)
    else (rdC s (32 * i) s.length).bind fun p => (rdC s p 16384).bind fun n =>
      if q = [116] then (if n ≤ (s.drop (p + 32)).length then some ((1, 0, ⟨((s.drop (p + 32)).take n).toArray⟩, nil), lf) else none)
      else if 64 < n ∨ (q.head? = some 40 ∧ n ≠ (inr_ q).length) then none
      else (sub (eachM q n) (s.drop (p + 32)) lf).map fun x => ((2, 0, ⟨#[]⟩, x.1), x.2))
  else none
def tkG {α : Type} (nil : α) (sub : List (List UInt8) → List UInt8 → Nat → Option (α × Nat)) (s : List UInt8) : List (List UInt8) → Nat → Nat → Option (List (Int × Nat × ByteArray × α) × Nat)
  | [], _, lf => some ([], lf)
  | q :: ps, i, lf => (tk1 nil sub s q i lf).bind fun x => (tkG nil sub s ps (i + 1) x.2).map fun y => (x.1 :: y.1, y.2)
def tk : (n : Nat) → List (List UInt8) → List UInt8 → Nat → Option (List (TT n) × Nat)
  | 0, ps, s, lf => if lf < ps.length then none else tkG (nilT 0) (fun _ _ _ => none) s ps 0 (lf - ps.length)
  | n + 1, ps, s, lf => if lf < ps.length then none else tkG (nilT (n + 1)) (tk n) s ps 0 (lf - ps.length)
def tkS : (n : Nat) → List (List UInt8) → List UInt8 → Nat → Option (TL n × Nat)
  | 0 => fun _ _ _ => none
  | n + 1 => tk n
theorem tk_eq (n : Nat) (ps : List (List UInt8)) (s : List UInt8) (lf : Nat) : tk n ps s lf = if lf < ps.length then none else tkG (nilT n) (tkS n) s ps 0 (lf - ps.length) := by
  cases n <;> rfl
theorem nm_lt' {s : List UInt8} {i : Nat} : nm ((s.drop (32 * i)).take 32) < W := nm_lt _ (by rw [List.length_take]; omega)
/-- What is taken is of its form. -/
theorem tkG_fit {n : Nat} (h1 : ∀ {q : List UInt8} {s : List UInt8} {i lf : Nat} {t : TT n} {lf' : Nat}, Pt n q → tk1 (nilT n) (tkS n) s q i lf = some (t, lf') → fitS n (shT n q) t) : ∀ (ps : List (List UInt8)) {s : List UInt8} {i lf : Nat} {ts : List (TT n)} {lf' : Nat}, (∀ q ∈ ps, Pt n q) → tkG (nilT n) (tkS n) s ps i lf = some (ts, lf') → fitR (fitS n) (ps.map (shT n)) ts
  | [], s, i, lf, ts, lf', hp, h => by cases h; exact trivial
  | q :: ps, s, i, lf, ts, lf', hp, h => by
    unfold tkG at h
    cases hx : tk1 (nilT n) (tkS n) s q i lf with
    | none => rw [hx] at h; cases h
    | some x =>
      obtain ⟨t, lf1⟩ := x
      rw [hx, Option.bind_some] at h
      cases hy : tkG (nilT n) (tkS n) s ps (i + 1) lf1 with
      | none => rw [hy] at h; cases h
      | some y =>
        obtain ⟨ts', lf2⟩ := y
        rw [hy] at h
        cases h
        exact ⟨h1 (hp q List.mem_cons_self) hx, tkG_fit h1 ps (fun q hq => hp q (List.mem_cons_of_mem _ hq)) hy⟩
theorem tk_fit (n : Nat) : n ≤ 8 → ∀ {ps : List (List UInt8)} {s : List UInt8} {lf : Nat} {ts : List (TT n)} {lf' : Nat}, (∀ q ∈ ps, Pt n q) → tk n ps s lf = some (ts, lf') → fitR (fitS n) (ps.map (shT n)) ts := by
  induction n with
  | zero =>
    intro hn ps s lf ts lf' hp h
    rw [tk_eq] at h
    split at h
    · cases h
    refine tkG_fit ?_ ps hp h
    intro q s i lf t lf' hq h
    unfold tk1 at h
    split at h
    case isFalse => cases h
    rcases hq with rfl | rfl
    · rw [if_pos rfl] at h
      cases h
      exact .inl ⟨rfl, rfl, nm_lt', rfl, rfl⟩
    · rw [if_neg (by decide)] at h
      cases hc : rdC s (32 * i) s.length with
      | none => rw [hc] at h; cases h
      | some p =>
        rw [hc, Option.bind_some] at h
        cases hd : rdC s p 16384 with
        | none => rw [hd] at h; cases h
        | some m =>
          rw [hd, Option.bind_some, if_pos rfl] at h
          obtain ⟨_, _, hm⟩ := rdC_some hd
          split at h
          · next hle =>
            cases h
            exact .inr (.inl ⟨rfl, rfl, rfl, by rw [str_size, List.length_take]; omega, rfl⟩)
          · cases h
  | succ n ih =>
    intro hn ps s lf ts lf' hp h
    rw [tk_eq] at h
    split at h
    · cases h
    refine tkG_fit ?_ ps hp h
    intro q s i lf t lf' hq h
    unfold tk1 at h
    split at h
    case isFalse => cases h
    rcases hq with rfl | rfl | ⟨qs, hqs, rfl⟩ | ⟨q1, hq1, rfl⟩
    · rw [if_pos rfl] at h
      cases h
      exact .inl ⟨rfl, rfl, nm_lt', rfl, rfl⟩
    · rw [if_neg (by decide)] at h
      cases hc : rdC s (32 * i) s.length with
      | none => rw [hc] at h; cases h
      | some p =>
        rw [hc, Option.bind_some] at h
        cases hd : rdC s p 16384 with
        | none => rw [hd] at h; cases h
        | some m =>
          rw [hd, Option.bind_some, if_pos rfl] at h
          obtain ⟨_, _, hm⟩ := rdC_some hd
          split at h
          · next hle =>
            cases h
            exact .inr (.inl ⟨rfl, rfl, rfl, by rw [str_size, List.length_take]; omega, rfl⟩)
          · cases h
    · rw [if_neg (by simp)] at h
      cases hc : rdC s (32 * i) s.length with
      | none => rw [hc] at h; cases h
      | some p =>
        rw [hc, Option.bind_some] at h
        cases hd : rdC s p 16384 with
        | none => rw [hd] at h; cases h
        | some m =>
          rw [hd, Option.bind_some, if_neg (by simp)] at h
          split at h
          · cases h
          · next hno =>
            have hin : inr_ (40 :: (qs.flatten ++ [41])) = qs := inner_ps (by omega) hqs
            have hm : m ≤ 64 ∧ m = qs.length := by
              refine ⟨Nat.le_of_not_lt fun h => hno (.inl h), ?_⟩
              rcases Nat.decEq m qs.length with h | h
              · exact absurd (.inr ⟨rfl, by rw [hin]; exact h⟩) hno
              · exact h
            have he : eachM (40 :: (qs.flatten ++ [41])) m = qs := by unfold eachM; rw [if_pos (by simp), hin]
            rw [he] at h
            cases hx : tkS (n + 1) qs (s.drop (p + 32)) lf with
            | none => rw [hx] at h; cases h
            | some x =>
              obtain ⟨ts, lf1⟩ := x
              rw [hx] at h
              cases h
              have hr := ih (by omega) hqs hx
              have hl := fitR_len hr
              rw [List.length_map] at hl
              rw [shT_tup (by omega) hqs]
              refine .inr (.inr ⟨rfl, rfl, rfl, rfl, qs.map (shT n), ?_, hr⟩)
              show insM (List.length (α := TT n) ts) false (qs.map (shT n)) = _
              unfold insM
              rw [if_neg (by omega), if_neg (by simp), if_pos (by rw [List.length_map]; omega)]
    · rw [if_neg (by simp)] at h
      cases hc : rdC s (32 * i) s.length with
      | none => rw [hc] at h; cases h
      | some p =>
        rw [hc, Option.bind_some] at h
        cases hd : rdC s p 16384 with
        | none => rw [hd] at h; cases h
        | some m =>
          rw [hd, Option.bind_some, if_neg (by simp)] at h
          split at h
          · cases h
          · next hno =>
            have hin : inr_ (91 :: (q1 ++ [93])) = [q1] := inner_one (by omega) hq1
            have hm : m ≤ 64 := Nat.le_of_not_lt fun h => hno (.inl h)
            have he : eachM (91 :: (q1 ++ [93])) m = List.replicate m q1 := by unfold eachM; rw [if_neg (by simp), hin]; rfl
            rw [he] at h
            cases hx : tkS (n + 1) (List.replicate m q1) (s.drop (p + 32)) lf with
            | none => rw [hx] at h; cases h
            | some x =>
              obtain ⟨ts, lf1⟩ := x
              rw [hx] at h
              cases h
              have hr := ih (by omega) (fun q hq => by rw [List.eq_of_mem_replicate hq]; exact hq1) hx
              have hl := fitR_len hr
              rw [List.length_map, List.length_replicate] at hl
              rw [List.map_replicate] at hr
              rw [shT_arr (by omega) hq1]
              refine .inr (.inr ⟨rfl, rfl, rfl, rfl, List.replicate m (shT n q1), ?_, hr⟩)
              show insM (List.length (α := TT n) ts) true [shT n q1] = _
              unfold insM
              rw [if_neg (by omega), if_pos rfl, ← hl]
              rfl
/-- Terms of forms are taken of their bytes. -/
theorem tk1_ok {n : Nat} {q s : List UInt8} {t : TT n} {i ahead lf : Nat} (hp : Pt n q) (hn : n ≤ 8) (hf : fitS n (shT n q) t) (hW : s.length < W) (ha : ahead ≤ s.length) (hw : Has s (32 * i) (wrd t ahead)) (hi : 32 * i + 32 ≤ s.length) (ht : Has s ahead (tlT n t)) (hlf : tot n t.2.2.2 ≤ lf)
    (hsub : ∀ {m : Nat} (e : n = m + 1) {ps : List (List UInt8)} {s : List UInt8} {ts : List (TT m)} {lf : Nat}, (∀ q ∈ ps, Pt m q) → fitR (fitS m) (ps.map (shT m)) ts → s.length < W → Has s 0 (enc (m + 1) ts) → tot (m + 1) ts ≤ lf → tk m ps s lf = some (ts, lf - tot (m + 1) ts)) :
    tk1 (nilT n) (tkS n) s q i lf = some (t, lf - tot n t.2.2.2) := by
  have haW : ahead < W := Nat.lt_of_le_of_lt ha hW
  have nil0 : ∀ n, tot n (nilT n) = 0 := fun n => by cases n <;> rfl
  obtain ⟨k, u, x, y⟩ := t
  have num : k = 0 → u < W → x = ⟨#[]⟩ → y = nilT n → q = [110] → tk1 (nilT n) (tkS n) s q i lf = some ((k, u, x, y), lf - tot n y) := by
    rintro rfl hu rfl rfl rfl
    unfold tk1
    rw [if_pos hi, if_pos rfl, hw.take (wrd_len _ _), nil0, Nat.sub_zero]
    show some ((0, nm (wb u), _, _), lf) = _
    rw [nm_wb u hu]
  have hat : k ≠ 0 → rdC s (32 * i) s.length = some ahead := fun hk => by
    have hw' : Has s (32 * i) (wb ahead) := by
      have : wrd ((k, u, x, y) : TT n) ahead = wb ahead := by unfold wrd; rw [if_neg hk]
      rw [← this]; exact hw
    exact rdC_of hw' ha haW (by omega)
  have txt_ : k = 1 → u = 0 → x.size ≤ 16384 → y = nilT n → q = [116] → tk1 (nilT n) (tkS n) s q i lf = some ((k, u, x, y), lf - tot n y) := by
    rintro rfl rfl hx rfl rfl
    have h1 := hat (by decide)
    have ht' : Has s ahead (txt x) := ht
    have hle := ht'.le ha
    rw [txt_len] at hle
    unfold txt at ht'
    rw [Has.app, Has.app] at ht'
    obtain ⟨⟨t1, t2⟩, _⟩ := ht'
    have hsl : x.data.toList.length = x.size := Array.length_toList
    rw [wb_len] at t2
    unfold tk1
    rw [if_pos hi, if_neg (by decide), h1, Option.bind_some, rdC_of t1 hx (Nat.lt_of_le_of_lt hx (by decide)) ha, Option.bind_some, if_pos rfl, if_pos (by rw [List.length_drop]; omega), t2.take hsl, nil0, Nat.sub_zero]
  have lst : ∀ {m : Nat} (e : n = m + 1), k = 2 → u = 0 → x = ⟨#[]⟩ → (q.head? = some 40 ∨ q.head? = some 91) → cntL n y ≤ 64 → (q.head? = some 40 → (inr_ q).length = cntL n y) → (∀ p ∈ eachM q (cntL n y), Pt m p) → fitR (fitS m) ((eachM q (cntL n y)).map (shT m)) (e ▸ y : TL (m + 1)) → tk1 (nilT n) (tkS n) s q i lf = some ((k, u, x, y), lf - tot n y) := by
    rintro m rfl rfl rfl rfl hq h64 hcn hpt hr
    have h1 := hat (by decide)
    have et : tlT (m + 1) ((2, 0, ⟨#[]⟩, y) : TT (m + 1)) = wb (cntL (m + 1) y) ++ enc (m + 1) y := rfl
    rw [et, Has.app, wb_len] at ht
    obtain ⟨t1, t2⟩ := ht
    have h64' : cntL (m + 1) y ≤ 64 := h64
    have hdr : Has (s.drop (ahead + 32)) 0 (enc (m + 1) y) := by
      obtain ⟨R, hR⟩ := t2
      exact ⟨R, by rw [List.drop_zero]; exact hR⟩
    have hq1 : q ≠ [110] := by rintro rfl; rcases hq with h | h <;> cases h
    have hq2 : q ≠ [116] := by rintro rfl; rcases hq with h | h <;> cases h
    unfold tk1
    rw [if_pos hi, if_neg hq1, h1, Option.bind_some, rdC_of t1 (by omega) (Nat.lt_of_le_of_lt h64' (by decide)) ha, Option.bind_some, if_neg hq2, if_neg (by
      rintro (h | ⟨h, h'⟩)
      · omega
      · exact h' (hcn h).symm)]
    have := hsub rfl hpt hr (Nat.lt_of_le_of_lt (by rw [List.length_drop]; omega) hW) hdr hlf
    show Option.map _ (tk m (eachM q (cntL (m + 1) y)) (s.drop (ahead + 32)) lf) = _
    rw [this]
    rfl
  cases n with
  | zero =>
    rcases hp with rfl | rfl
    · rcases hf with ⟨h1, h2, h3, h4, h5⟩ | ⟨h1, _⟩ | h
      · exact num h2 h3 h4 h5 rfl
      · cases h1
      · exact h.elim
    · rcases hf with ⟨h1, _⟩ | ⟨h1, h2, h3, h4, h5⟩ | h
      · cases h1
      · exact txt_ h2 h3 h4 h5 rfl
      · exact h.elim
  | succ m =>
    rcases hp with rfl | rfl | ⟨qs, hqs, rfl⟩ | ⟨q1, hq1, rfl⟩
    · rcases hf with ⟨h1, h2, h3, h4, h5⟩ | ⟨h1, _⟩ | ⟨h1, _⟩
      · exact num h2 h3 h4 h5 rfl
      · cases h1
      · cases h1
    · rcases hf with ⟨h1, _⟩ | ⟨h1, h2, h3, h4, h5⟩ | ⟨h1, _⟩
      · cases h1
      · exact txt_ h2 h3 h4 h5 rfl
      · cases h1
    · rw [shT_tup (by omega) hqs] at hf
      rcases hf with ⟨h1, _⟩ | ⟨h1, _⟩ | ⟨h1, h2, h3, h4, l', h5, h6⟩
      · cases h1
      · cases h1
      · obtain ⟨i1, i2⟩ := insM_len h5
        have hin : inr_ (40 :: (qs.flatten ++ [41])) = qs := inner_ps (by omega) hqs
        have hl' : l' = qs.map (shT m) := by
          unfold insM at h5
          split at h5
          · cases h5
          split at h5
          · next h => cases h
          · split at h5
            · cases h5; rfl
            · cases h5
        subst hl'
        have hl := fitR_len h6
        rw [List.length_map] at hl
        have he : ∀ n, eachM (40 :: (qs.flatten ++ [41])) n = qs := fun n => by unfold eachM; rw [if_pos (by simp), hin]
        exact lst rfl h2 h3 h4 (.inl rfl) i2 (fun _ => by rw [hin]; exact hl) (by rw [he]; exact hqs) (by rw [he]; exact h6)
    · rw [shT_arr (by omega) hq1] at hf
      rcases hf with ⟨h1, _⟩ | ⟨h1, _⟩ | ⟨h1, h2, h3, h4, l', h5, h6⟩
      · cases h1
      · cases h1
      · obtain ⟨i1, i2⟩ := insM_len h5
        have hin : inr_ (91 :: (q1 ++ [93])) = [q1] := inner_one (by omega) hq1
        have hl' : l' = List.replicate (List.length (α := TT m) y) (shT m q1) := by
          unfold insM at h5
          split at h5
          · cases h5
          split at h5
          · cases h5; rfl
          · next h => exact absurd rfl h
        subst hl'
        have he : ∀ n, eachM (91 :: (q1 ++ [93])) n = List.replicate n q1 := fun n => by unfold eachM; rw [if_neg (by simp), hin]; rfl
        exact lst rfl h2 h3 h4 (.inr rfl) i2 (fun h => by cases h) (by rw [he]; intro p hp; rw [List.eq_of_mem_replicate hp]; exact hq1) (by rw [he, List.map_replicate]; exact h6)
theorem tot_cons (n : Nat) (t : TT n) (l : List (TT n)) : tot (n + 1) (t :: l : List (TT n)) = 1 + tot n t.2.2.2 + tot (n + 1) l := by
  show (t :: l).length + ((t :: l).map fun t => tot n t.2.2.2).sum = 1 + tot n t.2.2.2 + (l.length + (l.map fun t => tot n t.2.2.2).sum)
  rw [List.length_cons, List.map_cons, List.sum_cons]
  omega
def sub_ (n : Nat) (l : List (TT n)) : Nat := (l.map fun t => tot n t.2.2.2).sum
theorem tkG_ok {n : Nat} (hn : n ≤ 8) {s : List UInt8} (hW : s.length < W)
    (hsub : ∀ {m : Nat} (e : n = m + 1) {ps : List (List UInt8)} {s : List UInt8} {ts : List (TT m)} {lf : Nat}, (∀ q ∈ ps, Pt m q) → fitR (fitS m) (ps.map (shT m)) ts → s.length < W → Has s 0 (enc (m + 1) ts) → tot (m + 1) ts ≤ lf → tk m ps s lf = some (ts, lf - tot (m + 1) ts)) :
    ∀ (ps : List (List UInt8)) (ts : List (TT n)) (i ahead lf : Nat), (∀ q ∈ ps, Pt n q) → fitR (fitS n) (ps.map (shT n)) ts → ahead ≤ s.length → Has s (32 * i) (hds (tlT n) ts ahead) → 32 * i + 32 * ts.length ≤ s.length → Has s ahead (ts.flatMap (tlT n)) → sub_ n ts ≤ lf →
    tkG (nilT n) (tkS n) s ps i lf = some (ts, lf - sub_ n ts)
  | [], [], i, ahead, lf, hp, hf, ha, hh, hl, ht, hlf => rfl
  | [], _ :: _, _, _, _, _, hf, _, _, _, _, _ => hf.elim
  | _ :: _, [], _, _, _, _, hf, _, _, _, _, _ => hf.elim
  | q :: ps, t :: ts, i, ahead, lf, hp, hf, ha, hh, hl, ht, hlf => by
    obtain ⟨f1, f2⟩ := hf
    have hh' : Has s (32 * i) (wrd t ahead ++ hds (tlT n) ts (ahead + (tlT n t).length)) := hh
    rw [Has.app, wrd_len] at hh'
    rw [List.flatMap_cons, Has.app] at ht
    rw [List.length_cons] at hl
    have hsb : sub_ n (t :: ts) = tot n t.2.2.2 + sub_ n ts := by unfold sub_; rw [List.map_cons, List.sum_cons]
    rw [hsb] at hlf
    have h1 := tk1_ok (lf := lf) (hp q List.mem_cons_self) hn f1 hW ha hh'.1 (by omega) ht.1 (by omega) hsub
    have h2 := tkG_ok hn hW hsub ps ts (i + 1) (ahead + (tlT n t).length) (lf - tot n t.2.2.2) (fun q hq => hp q (List.mem_cons_of_mem _ hq)) f2 (ht.1.le ha) (by rw [show 32 * (i + 1) = 32 * i + 32 by omega]; exact hh'.2) (by omega) ht.2 (by omega)
    unfold tkG
    rw [h1, Option.bind_some, h2, hsb, Nat.sub_sub]
    rfl
theorem tk_ok (n : Nat) : n ≤ 8 → ∀ {ps : List (List UInt8)} {s : List UInt8} {ts : List (TT n)} {lf : Nat}, (∀ q ∈ ps, Pt n q) → fitR (fitS n) (ps.map (shT n)) ts → s.length < W → Has s 0 (enc (n + 1) ts) → tot (n + 1) ts ≤ lf → tk n ps s lf = some (ts, lf - tot (n + 1) ts) := by
  induction n with
  | zero =>
    intro hn ps s ts lf hp hf hW hs hlf
    have hlen := fitR_len hf
    rw [List.length_map] at hlen
    have e := enc_hds 0 ts (fitR_kind hf)
    have hle := hs.le (Nat.zero_le _)
    rw [e, Has.app, hds_len, Nat.zero_add] at hs
    rw [e, List.length_append, hds_len] at hle
    have htot : tot (0 + 1) ts = ts.length + sub_ 0 ts := rfl
    rw [tk_eq, if_neg (by omega), tkG_ok hn hW (fun e => by cases e) ps ts 0 (32 * ts.length) (lf - ps.length) hp hf (by omega) hs.1 (by omega) (by rw [Nat.mul_comm]; exact hs.2) (by omega), htot, hlen, Nat.sub_sub]
  | succ n ih =>
    intro hn ps s ts lf hp hf hW hs hlf
    have hlen := fitR_len hf
    rw [List.length_map] at hlen
    have e := enc_hds (n + 1) ts (fitR_kind hf)
    have hle := hs.le (Nat.zero_le _)
    rw [e, Has.app, hds_len, Nat.zero_add] at hs
    rw [e, List.length_append, hds_len] at hle
    have htot : tot (n + 1 + 1) ts = ts.length + sub_ (n + 1) ts := rfl
    rw [tk_eq, if_neg (by omega), tkG_ok hn hW (fun e => by cases e; exact ih (by omega)) ps ts 0 (32 * ts.length) (lf - ps.length) hp hf (by omega) hs.1 (by omega) (by rw [Nat.mul_comm]; exact hs.2) (by omega), htot, hlen, Nat.sub_sub]
/-- There are at least as many words as terms. -/
theorem tot_enc (n : Nat) : ∀ {sl : List (ST n)} {ts : List (TT n)}, fitR (fitS n) sl ts → 32 * tot (n + 1) ts ≤ (enc (n + 1) ts).length := by
  have main : ∀ {n : Nat}, (∀ {s : ST n} {t : TT n}, fitS n s t → 32 * tot n t.2.2.2 ≤ (tlT n t).length) → ∀ (sl : List (ST n)) (ts : List (TT n)), fitR (fitS n) sl ts → 32 * sub_ n ts ≤ (ts.flatMap (tlT n)).length := by
    intro n h sl
    induction sl with
    | nil => intro ts hf; cases ts with
      | nil => exact Nat.le_refl _
      | cons t ts => exact hf.elim
    | cons s sl ih => intro ts hf; cases ts with
      | nil => exact hf.elim
      | cons t ts =>
        have h1 := h hf.1
        have h2 := ih ts hf.2
        have hsb : sub_ n (t :: ts) = tot n t.2.2.2 + sub_ n ts := by unfold sub_; rw [List.map_cons, List.sum_cons]
        rw [hsb, List.flatMap_cons, List.length_append]
        omega
  have nil0 : ∀ n, tot n (nilT n) = 0 := fun n => by cases n <;> rfl
  have fin : ∀ {n : Nat} {sl : List (ST n)} {ts : List (TT n)}, (∀ {s : ST n} {t : TT n}, fitS n s t → 32 * tot n t.2.2.2 ≤ (tlT n t).length) → fitR (fitS n) sl ts → 32 * tot (n + 1) ts ≤ (enc (n + 1) ts).length := by
    intro n sl ts h hf
    have h1 := main h sl ts hf
    rw [enc_hds n ts (fitR_kind hf), List.length_append, hds_len]
    have htot : tot (n + 1) ts = ts.length + sub_ n ts := rfl
    omega
  induction n with
  | zero =>
    intro sl ts hf
    refine fin ?_ hf
    intro s t h
    exact Nat.zero_le _
  | succ n ih =>
    intro sl ts hf
    refine fin ?_ hf
    intro s t h
    obtain ⟨k, u, x, y⟩ := t
    rcases h with ⟨_, _, _, _, h5⟩ | ⟨_, _, _, _, h5⟩ | ⟨_, h2, _, _, l', _, hr⟩
    · simp only at h5
      subst h5
      rw [nil0]; exact Nat.zero_le _
    · simp only at h5
      subst h5
      rw [nil0]; exact Nat.zero_le _
    · simp only at h2
      subst h2
      have := ih hr
      have et : tlT (n + 1) ((2, u, x, y) : TT (n + 1)) = wb (cntL (n + 1) y) ++ enc (n + 1) y := rfl
      rw [et, List.length_append]
      exact Nat.le_trans this (Nat.le_add_left _ _)
/-- The document's Decode. -/
def rdecM (f S : List UInt8) : Option (List (TT 8)) := (partsM f).bind fun ps => (tk 8 ps S (S.length / 32)).bind fun x => if enc 9 x.1 = S then some x.1 else none
theorem rdec_eq {f S : List UInt8} (hW : S.length < W) : rdecM f S = decM f S := by
  unfold rdecM
  cases hd : decM f S with
  | some ts =>
    obtain ⟨ps, h1, h2, h3⟩ := dec_sound hW hd
    obtain ⟨_, hpt⟩ := parts_inv h1
    have h4 := tot_enc 8 h2
    have h3' : enc (8 + 1) ts = S := h3
    rw [h3'] at h4
    rw [h1, Option.bind_some, tk_ok 8 (Nat.le_refl _) hpt h2 hW ⟨[], by rw [List.drop_zero, h3', List.append_nil]⟩ (by omega), Option.bind_some, if_pos h3]
  | none =>
    cases h1 : partsM f with
    | none => rfl
    | some ps =>
      obtain ⟨_, hpt⟩ := parts_inv h1
      rw [Option.bind_some]
      cases h2 : tk 8 ps S (S.length / 32) with
      | none => rfl
      | some x =>
        rw [Option.bind_some]
        split
        · next he =>
          have := dec_compl h1 hW (tk_fit 8 (Nat.le_refl _) hpt h2) he
          rw [hd] at this
          cases this
        · rfl
end Go.Proofs.YtjjiendgmnlokaaDoor

/- The document's small. -/
namespace Go.Proofs.YtjjiendgmnlokaaDoor
open Go.RowKit Go.Sort
set_option linter.unusedVariables false
set_option maxRecDepth 100000
theorem rreadL (x : List UInt8) (hx : x.length ≤ 32) (w : World) : Calls Tryd.prog 38 #[str x] w fun e w' => e = .returned (.tuple #[U (nm x), Z 0]) ∧ Below w.heap.size w w' := by
  have h := rread_any ⟨x.toArray⟩ (by rw [str_size]; exact hx) w
  rw [str_size] at h
  exact h
theorem neqB64 {x y : Nat} {q : Bool} (h : decide (x ≠ y) = q) (o1 o2 : Operand) (w : World) : (do eqGuard .neq 37 o1 o2 (B x) (B y); binOp .neq 37 (B x) (B y) : Sem Value).run Tryd.prog w = .ok (.bool q) w := by
  by_cases hx : x = y
  · subst hx; subst h; simp [go_sem]
  · have hx' : ¬ ((x : Int) = (y : Int)) := by omega
    subst h; simp [go_sem, hx, hx']
theorem gtrB64 {x y : Nat} {q : Bool} (h : decide (y < x) = q) (o1 o2 : Operand) (w : World) : (do eqGuard .gtr 37 o1 o2 (B x) (B y); binOp .gtr 37 (B x) (B y) : Sem Value).run Tryd.prog w = .ok (.bool q) w := by
  subst h; simp [go_sem]
theorem cnv64 (n : Nat) (hn : n < 1000000000000) (w : World) : (convert 37 3 (B n)).run Tryd.prog w = .ok (Z n) w := by
  have := wz (n := (n : Int)) (by omega) (by omega); simp [go_sem, this]
abbrev rv (o : Option Nat) : Int := match o with | some n => n | none => -1
theorem small_any {s : List UInt8} {p most : Nat} (hs : s.length < 1000000000) (hp : p < 1000000000) (hm : most < 1000000000) (w : World) : Calls Tryd.prog 39 #[str s, Z p, Z most] w fun e w' => e = .returned (Z (rv (rdC s p most))) ∧ Below w.heap.size w w' := by
  have hsz := str_size s
  refine inQ (J := Below w.heap.size w) (F := (· < w.heap.size)) Tryd.func39 (Below.refl _ _) fun a I => ?_
  rcases Nat.lt_or_ge s.length (p + 32) with h32 | h32
  · refine goQ [bO .lss 3 (run_lssZ (x := p) (y := 0) (b := false) (by simp)), lO Tryd.underlying9 (b := ⟨s.toArray⟩) (n := s.length) (by rw [hsz]), bO .sub 3 (run_subZ (x := s.length) (y := 32) (z := (s.length : Int) - 32) (by rw [wz (by omega) (by omega)])), bO .gtr 3 (run_gtrZ (x := p) (y := (s.length : Int) - 32) (b := true) (decide_eq_true (by omega)))] (nonR w) I fun β a w1 I hb => ?_
    exact outQ (v := Z (-1)) I ⟨by unfold rdC; rw [if_neg (by omega)], I.hJ⟩
  obtain ⟨n, hn⟩ : ∃ n, nm ((s.drop p).take 32) = n := ⟨_, rfl⟩
  have hl32 : ((s.drop p).take 32).length ≤ 32 := by rw [List.length_take]; omega
  have hnW : n < W := by rw [← hn]; exact nm_lt _ hl32
  have hrd : rdC s p most = if n ≤ most then some n else none := by unfold rdC; rw [if_pos h32, hn]
  have hparts := mk_parts n hnW
  have hslice : (s.take (p + 32)).drop p = (s.drop p).take 32 := by rw [List.drop_take, Nat.add_sub_cancel_left]
  have hrdc : ∀ w, Calls Tryd.prog 38 #[str ((s.take (p + 32)).drop p)] w fun e w' => e = .returned (.tuple #[U n, Z 0]) ∧ Below w.heap.size w w' := fun w => by rw [hslice, ← hn]; exact rreadL _ hl32 w
  have big : (l1 n ≠ 0 ∨ l2 n ≠ 0 ∨ l3 n ≠ 0) → ¬ n ≤ most := fun h hle => by
    have hM : n < M := Nat.lt_of_le_of_lt hle (Nat.lt_trans hm (by decide))
    have h1 : l1 n = 0 := by unfold l1; rw [Nat.div_eq_of_lt hM]; rfl
    have h2 : l2 n = 0 := by unfold l2; rw [Nat.div_eq_of_lt (Nat.lt_of_lt_of_le hM (by decide))]; rfl
    have h3 : l3 n = 0 := by unfold l3; rw [Nat.div_eq_of_lt (Nat.lt_of_lt_of_le hM (by decide))]; rfl
    omega
  by_cases h1 : l1 n = 0
  case neg =>
    refine goQ [bO .lss 3 (run_lssZ (x := p) (y := 0) (b := false) (by simp)), lO Tryd.underlying9 (b := ⟨s.toArray⟩) (n := s.length) (by rw [hsz]), bO .sub 3 (run_subZ (x := s.length) (y := 32) (z := (s.length : Int) - 32) (by rw [wz (by omega) (by omega)])), bO .gtr 3 (run_gtrZ (x := p) (y := (s.length : Int) - 32) (b := false) (decide_eq_false (by omega))),
      bO .add 3 (run_addZ (x := p) (y := 32) (z := (p + 32 : Nat)) (by rw [wz (by omega) (by omega)]; omega)), sLH 9 (p := str s) (l := Z p) (m := Z (p + 32 : Nat)) (v := str ((s.take (p + 32)).drop p)) (both_run (by omega) h32), kC Tryd.func38 hrdc, bO .neq 37 (neqB64 (x := l1 n) (y := 0) (q := true) (decide_eq_true h1))] (nonR w) I fun β a w1 I hb => ?_
    exact outQ (v := Z (-1)) I ⟨by rw [hrd, if_neg (big (.inl h1))], I.hJ⟩
  by_cases h2 : l2 n = 0
  case neg =>
    refine goQ [bO .lss 3 (run_lssZ (x := p) (y := 0) (b := false) (by simp)), lO Tryd.underlying9 (b := ⟨s.toArray⟩) (n := s.length) (by rw [hsz]), bO .sub 3 (run_subZ (x := s.length) (y := 32) (z := (s.length : Int) - 32) (by rw [wz (by omega) (by omega)])), bO .gtr 3 (run_gtrZ (x := p) (y := (s.length : Int) - 32) (b := false) (decide_eq_false (by omega))),
      bO .add 3 (run_addZ (x := p) (y := 32) (z := (p + 32 : Nat)) (by rw [wz (by omega) (by omega)]; omega)), sLH 9 (p := str s) (l := Z p) (m := Z (p + 32 : Nat)) (v := str ((s.take (p + 32)).drop p)) (both_run (by omega) h32), kC Tryd.func38 hrdc, bO .neq 37 (neqB64 (x := l1 n) (y := 0) (q := false) (by simp [h1])), bO .neq 37 (neqB64 (x := l2 n) (y := 0) (q := true) (decide_eq_true h2))] (nonR w) I fun β a w1 I hb => ?_
    exact outQ (v := Z (-1)) I ⟨by rw [hrd, if_neg (big (.inr (.inl h2)))], I.hJ⟩
  by_cases h3 : l3 n = 0
  case neg =>
    refine goQ [bO .lss 3 (run_lssZ (x := p) (y := 0) (b := false) (by simp)), lO Tryd.underlying9 (b := ⟨s.toArray⟩) (n := s.length) (by rw [hsz]), bO .sub 3 (run_subZ (x := s.length) (y := 32) (z := (s.length : Int) - 32) (by rw [wz (by omega) (by omega)])), bO .gtr 3 (run_gtrZ (x := p) (y := (s.length : Int) - 32) (b := false) (decide_eq_false (by omega))),
      bO .add 3 (run_addZ (x := p) (y := 32) (z := (p + 32 : Nat)) (by rw [wz (by omega) (by omega)]; omega)), sLH 9 (p := str s) (l := Z p) (m := Z (p + 32 : Nat)) (v := str ((s.take (p + 32)).drop p)) (both_run (by omega) h32), kC Tryd.func38 hrdc, bO .neq 37 (neqB64 (x := l1 n) (y := 0) (q := false) (by simp [h1])), bO .neq 37 (neqB64 (x := l2 n) (y := 0) (q := false) (by simp [h2])), bO .neq 37 (neqB64 (x := l3 n) (y := 0) (q := true) (decide_eq_true h3))] (nonR w) I fun β a w1 I hb => ?_
    exact outQ (v := Z (-1)) I ⟨by rw [hrd, if_neg (big (.inr (.inr h3)))], I.hJ⟩
  have hl0 : l0 n = n := by
    rw [h1, h2, h3] at hparts
    unfold mk at hparts
    omega
  by_cases hle : n ≤ most
  case neg =>
    refine goQ [bO .lss 3 (run_lssZ (x := p) (y := 0) (b := false) (by simp)), lO Tryd.underlying9 (b := ⟨s.toArray⟩) (n := s.length) (by rw [hsz]), bO .sub 3 (run_subZ (x := s.length) (y := 32) (z := (s.length : Int) - 32) (by rw [wz (by omega) (by omega)])), bO .gtr 3 (run_gtrZ (x := p) (y := (s.length : Int) - 32) (b := false) (decide_eq_false (by omega))),
      bO .add 3 (run_addZ (x := p) (y := 32) (z := (p + 32 : Nat)) (by rw [wz (by omega) (by omega)]; omega)), sLH 9 (p := str s) (l := Z p) (m := Z (p + 32 : Nat)) (v := str ((s.take (p + 32)).drop p)) (both_run (by omega) h32), kC Tryd.func38 hrdc, bO .neq 37 (neqB64 (x := l1 n) (y := 0) (q := false) (by simp [h1])), bO .neq 37 (neqB64 (x := l2 n) (y := 0) (q := false) (by simp [h2])), bO .neq 37 (neqB64 (x := l3 n) (y := 0) (q := false) (by simp [h3])), vO 3 37 (p := Z most) (v := B most) (cnvB most (by omega)), bO .gtr 37 (gtrB64 (x := l0 n) (y := most) (q := true) (decide_eq_true (by omega)))] (nonR w) I fun β a w1 I hb => ?_
    exact outQ (v := Z (-1)) I ⟨by rw [hrd, if_neg hle], I.hJ⟩
  · refine goQ [bO .lss 3 (run_lssZ (x := p) (y := 0) (b := false) (by simp)), lO Tryd.underlying9 (b := ⟨s.toArray⟩) (n := s.length) (by rw [hsz]), bO .sub 3 (run_subZ (x := s.length) (y := 32) (z := (s.length : Int) - 32) (by rw [wz (by omega) (by omega)])), bO .gtr 3 (run_gtrZ (x := p) (y := (s.length : Int) - 32) (b := false) (decide_eq_false (by omega))),
      bO .add 3 (run_addZ (x := p) (y := 32) (z := (p + 32 : Nat)) (by rw [wz (by omega) (by omega)]; omega)), sLH 9 (p := str s) (l := Z p) (m := Z (p + 32 : Nat)) (v := str ((s.take (p + 32)).drop p)) (both_run (by omega) h32), kC Tryd.func38 hrdc, bO .neq 37 (neqB64 (x := l1 n) (y := 0) (q := false) (by simp [h1])), bO .neq 37 (neqB64 (x := l2 n) (y := 0) (q := false) (by simp [h2])), bO .neq 37 (neqB64 (x := l3 n) (y := 0) (q := false) (by simp [h3])), vO 3 37 (p := Z most) (v := B most) (cnvB most (by omega)), bO .gtr 37 (gtrB64 (x := l0 n) (y := most) (q := false) (decide_eq_false (by omega))), vO 37 3 (p := B (l0 n)) (v := Z (l0 n)) (cnv64 (l0 n) (by omega))] (nonR w) I fun β a w1 I hb => ?_
    exact outQ (v := Z (l0 n)) I ⟨by rw [hrd, if_pos hle, hl0], I.hJ⟩
end Go.Proofs.YtjjiendgmnlokaaDoor

/- Rows of texts; a term appended to terms that grow. -/
namespace Go.Proofs.YtjjiendgmnlokaaDoor
open Go.RowKit Go.Sort
set_option linter.unusedVariables false
set_option maxRecDepth 100000
/-- A row of texts in memory, in blocks of K. -/
def SR (K : Nat → Prop) (w : World) (v : Value) (ps : List (List UInt8)) : Prop :=
  ∃ ad cap, v = .slice ad ps.length cap ∧ ∀ (i : Nat) (q : List UInt8), ps[i]? = some q → ∃ g off, ad = some ⟨g, off, none⟩ ∧ K g ∧ CellsAt w g (off + i * 1) [str q]
theorem SR.keep {K : Nat → Prop} {w w' : World} {v : Value} {ps : List (List UInt8)} (h : ∀ k, K k → w'.heap[k]? = w.heap[k]?) (H : SR K w v ps) : SR K w' v ps := by
  obtain ⟨ad, cap, hv, hm⟩ := H
  refine ⟨ad, cap, hv, fun i q hi => ?_⟩
  obtain ⟨g, off, h1, h2, h3⟩ := hm i q hi
  exact ⟨g, off, h1, h2, h3.keep (h g h2)⟩
theorem SR.own {w : World} {b : Nat} {v : Value} {ps : List (List UInt8)} (h : w.ownsRow b 9 1 v ps.length (ps.map str)) : SR (fun k => v.ownBlock = some k) w v ps := by
  obtain ⟨ad, cap, rfl⟩ := owns_slice h
  refine ⟨ad, cap, rfl, fun i q hi => ?_⟩
  have hil : i < ps.length := (List.getElem?_eq_some_iff.1 hi).1
  rcases h.2 with ⟨hv, hn⟩ | ⟨g, cap', cur, hv, hb, hg, hnc, hcm, hcs, hct⟩
  · omega
  · cases hv
    refine ⟨g, 0, rfl, rfl, fun j c hc => ?_⟩
    have hj : j = 0 := by
      have := (List.getElem?_eq_some_iff.1 hc).1
      simpa using this
    subst hj
    simp only [List.getElem?_cons_zero, Option.some.injEq] at hc
    subst hc
    have := h.cells (g := g) rfl i (str q) (by rw [List.getElem?_map, hi]; rfl)
    rw [add_off] at this
    rw [Nat.mul_one, Nat.add_zero]
    exact this
theorem CellsAt.text {w : World} {g o : Nat} {q : List UInt8} (h : CellsAt w g o [str q]) : (loadVar 9 ⟨g, o, none⟩).run Tryd.prog w = .ok (str q) w := load1 h 0 rfl 9 Tryd.underlying9 rfl
structure SJ (K : Nat → Prop) (v : Value) (ps : List (List UInt8)) (w : World) : Prop where
  kb : ∀ k, K k → k < w.heap.size
  sr : SR K w v ps
theorem SJ.rs (K : Nat → Prop) (v : Value) (ps : List (List UInt8)) : Rsrc (SJ K v ps) K :=
  ⟨fun w w' h gr => ⟨fun k hk => Nat.lt_of_lt_of_le (h.kb k hk) gr.size, h.sr.keep fun k hk => gr.block k (h.kb k hk) hk⟩, fun w k h hk => h.kb k hk⟩
theorem SI.also {J J' : World → Prop} {F F' : Nat → Prop} {ds : List Deferred} {β : Nat → Nat} {c : Cf} {a : Act} {w : World} (I : SI J F ds β c a w) (hJ : J' w) (hF : ∀ p ∈ c.rows, ¬ F' (β p.1)) : SI (fun w' => J w' ∧ J' w') (fun k => F k ∨ F' k) ds β c a w :=
  ⟨I.fr, I.df, ⟨I.hJ, hJ⟩, I.row, fun p hp h => h.elim (I.dis p hp) (hF p hp), I.lt, I.inj, I.ids⟩
theorem SI.less {J J' : World → Prop} {F F' : Nat → Prop} {ds : List Deferred} {β : Nat → Nat} {c : Cf} {a : Act} {w : World} (I : SI J F ds β c a w) (hJ : J' w) (hF : ∀ k, F' k → F k) : SI J' F' ds β c a w :=
  ⟨I.fr, I.df, hJ, I.row, fun p hp h => I.dis p hp (hF _ h), I.lt, I.inj, I.ids⟩
theorem WJ.grow {w w1 w2 : World} {g n : Nat} {v : Value} {X : List (Int × Nat × ByteArray × Value)} {ts : List (TT n)} {K : Nat → Prop} (hlt : g < w.heap.size) (h : WJ w g n v X ts K w1) (hg : Grow (fun k => k ≠ g) w1 w2) : WJ w g n v X ts K w2 := by
  have hne : ∀ k, v.ownBlock = some k → k ≠ g := fun k hk e => by have := (h.ro.own.lt k hk).1; omega
  exact ⟨⟨h.ro.gr.trans hg, owns_grow h.ro.own hg hne⟩, fun k hk => ⟨(h.kb k hk).1, Nat.lt_of_lt_of_le (h.kb k hk).2.1 hg.size, (h.kb k hk).2.2⟩, h.inn.keep fun k hk => hg.block k (h.kb k hk).2.1 (by have := (h.kb k hk).1; omega)⟩
/-- A term is put behind the others. -/
theorem app_term {w : World} {g n i cap lo : Nat} {ad : Option Addr} {X : List (Int × Nat × ByteArray × Value)} {ts : List (TT n)} {K K1 : Nat → Prop} {tm : TT n} {adl : Option Addr} {ml capl : Nat} {ds : List Deferred} {β : Nat → Nat} {c : Cf} {a : Act} {w6 : World} {Q : Exit → Act → World → Prop}
    (I6 : SI (fun w' => WJ w g n (.slice ad i cap) X ts K w' ∧ LK K1 lo n (.slice adl ml capl) tm.2.2.2 w') (fun k => WJF w g (.slice ad i cap) K k ∨ K1 k) ds β c a w6) (hXi : X.length = i) (hi : i < 100000000) (hK1 : ∀ k, K1 k → w.heap.size ≤ k ∧ (Value.slice ad i cap).ownBlock ≠ some k)
    (k : ∀ ad8 cap8 a8 w8, SI (WJ w g n (.slice ad8 (i + 1) cap8) (X ++ [(tm.1, tm.2.1, tm.2.2.1, Value.slice adl ml capl)]) (ts ++ [tm]) (fun k => K k ∨ K1 k)) (WJF w g (.slice ad8 (i + 1) cap8) (fun k => K k ∨ K1 k)) ds β (nxtQ (nxtQ c (.slice (some ⟨w6.heap.size, 0, none⟩) 1 1)) (.slice ad8 (i + 1) cap8)) a8 w8 → At Tryd.prog Q (nxtQ (nxtQ c (.slice (some ⟨w6.heap.size, 0, none⟩) 1 1)) (.slice ad8 (i + 1) cap8)) a8 w8)
    (hc1 : bsQ c = some (22, 1, [(0, Sum.inl (.agg (tx (tm.1, tm.2.1, tm.2.2.1, Value.slice adl ml capl)).toArray))]) := by kernel_rfl)
    (hc2 : bltQ (nxtQ c (.slice (some ⟨w6.heap.size, 0, none⟩) 1 1)) = some (.append, #[22, 22], 22, [Sum.inl (.slice ad i cap), Sum.inl (.slice (some ⟨w6.heap.size, 0, none⟩) 1 1)]) := by kernel_rfl) : At Tryd.prog Q c a w6 := by
  have hRs := (WJ.rs w g n (.slice ad i cap) X ts K).both (LK.rs K1 lo n (.slice adl ml capl) tm.2.2.2)
  refine bslQ (ss := [(0, Sum.inl (.agg (tx (tm.1, tm.2.1, tm.2.2.1, Value.slice adl ml capl)).toArray))]) I6 (bs_term _ _ _ _ _ _ _ w6) ?_ hc1
  have I7 := I6.alloc hRs (.cells (tx (tm.1, tm.2.1, tm.2.2.1, Value.slice adl ml capl)).toArray 41) (.slice (some ⟨w6.heap.size, 0, none⟩) 1 1)
  obtain ⟨inf, hi1, hi2, hi3, hi4⟩ := hI41
  have hown7 := I7.hJ.1.ro.own
  rw [hXi] at hown7
  obtain ⟨v', w8, hr8, ho8, hg8⟩ := app_els Tryd.underlying22 hi1 hi2 hi3 hi4 rfl (by decide) (by decide) hown7 I7.hJ.1.ro.gr.size ⟨w6.heap.size, 0, none⟩ (tx (tm.1, tm.2.1, tm.2.2.1, Value.slice adl ml capl)) rfl (alloc_cell w6 (tx (tm.1, tm.2.1, tm.2.2.1, Value.slice adl ml capl)).toArray 41) (by intro u hu; simp only [tx, cells7, List.mem_cons, List.not_mem_nil, or_false] at hu; rcases hu with rfl | rfl | rfl | rfl | rfl | rfl | rfl <;> rfl) (by omega)
  obtain ⟨ad8, cap8, rfl⟩ := owns_slice ho8
  refine appQ (ss := [Sum.inl (.slice ad i cap), Sum.inl (.slice (some ⟨w6.heap.size, 0, none⟩) 1 1)]) I7 hr8 ?_ hc2
  have hXl1 : (X ++ [(tm.1, tm.2.1, tm.2.2.1, Value.slice adl ml capl)]).length = i + 1 := by simp [hXi]
  have hXf : X.flatMap tx ++ tx (tm.1, tm.2.1, tm.2.2.1, Value.slice adl ml capl) = (X ++ [(tm.1, tm.2.1, tm.2.2.1, Value.slice adl ml capl)]).flatMap tx := by simp
  rw [hXf] at ho8
  have hk7 : ∀ k, (K k ∨ K1 k) → w.heap.size ≤ k ∧ k < w6.heap.size ∧ (Value.slice ad i cap).ownBlock ≠ some k := fun k hk => by
    rcases hk with hk | hk
    · exact ⟨(I6.hJ.1.kb k hk).1, (I6.hJ.1.kb k hk).2.1, (I6.hJ.1.kb k hk).2.2⟩
    · exact ⟨(hK1 k hk).1, (I6.hJ.2.kb k hk).2, (hK1 k hk).2⟩
  have hsz7 : (w6.alloc (.cells (tx (tm.1, tm.2.1, tm.2.2.1, Value.slice adl ml capl)).toArray 41)).heap.size = w6.heap.size + 1 := by simp
  have hblk : ∀ k, (K k ∨ K1 k) → w8.heap[k]? = w6.heap[k]? := fun k hk => by
    obtain ⟨h1, h2, h3⟩ := hk7 k hk
    rw [hg8.gr.block k (by omega) fun e => h3 e.symm]
    exact (below_alloc w6 _).block k h2
  have hinn8 : InT (fun k => K k ∨ K1 k) w8 n (X ++ [(tm.1, tm.2.1, tm.2.2.1, Value.slice adl ml capl)]) (ts ++ [tm]) := by
    have h1 : InT (fun k => K k ∨ K1 k) w8 n X ts := (I6.hJ.1.inn.keep fun k hk => hblk k (.inl hk)).mono fun k hk => .inl hk
    have h2 : LAf (fun k => K k ∨ K1 k) w8 n (.slice adl ml capl) tm.2.2.2 := (I6.hJ.2.la.keep fun k hk => hblk k (.inr hk)).mono fun k hk => .inr hk
    exact h1.snoc h2
  have hro8 : RO w g 41 7 (.slice ad8 (i + 1) cap8) (X ++ [(tm.1, tm.2.1, tm.2.2.1, Value.slice adl ml capl)]).length ((X ++ [(tm.1, tm.2.1, tm.2.2.1, Value.slice adl ml capl)]).flatMap tx) w8 := by
    have h7 := I7.hJ.1.ro
    rw [hXi] at h7
    rw [hXl1]
    exact h7.grown ho8 hg8
  exact k ad8 cap8 _ w8 (I7.moved ⟨hg8.gr.os, hg8.gr.tape, hg8.gr.output, hg8.gr.size, fun k hk hn => hg8.gr.block k hk fun e => hn (.inl (.inr (.inl e.symm)))⟩ ⟨hro8, fun k hk => by
      obtain ⟨h1, h2, h3⟩ := hk7 k hk
      have := hg8.gr.size
      refine ⟨h1, by omega, fun e => ?_⟩
      rcases hg8.nb k e with h4 | h4
      · exact h3 h4
      · omega, hinn8⟩ (fun k hk h => by
      rcases h with h | h | h | h
      · exact .inl (.inl h)
      · rcases hg8.nb k h with h4 | h4
        · exact .inl (.inr (.inl h4))
        · omega
      · exact .inl (.inr (.inr h))
      · exact .inr h) (.slice ad8 (i + 1) cap8))
def TakeP (n g : Nat) (w : World) (ps : List (List UInt8)) (s : List UInt8) (lf : Nat) (e : Ending) (w' : World) : Prop :=
  Grow (fun k => k ≠ g) w w' ∧ ((tk n ps s lf = none ∧ e = .returned (.tuple #[.slice none 0 0, .bool false])) ∨ ∃ ts lf' v K', tk n ps s lf = some (ts, lf') ∧ lf' ≤ lf ∧ e = .returned (.tuple #[v, .bool true]) ∧ HasRow w' g #[Z lf'] ∧ (∀ k, K' k → w.heap.size ≤ k ∧ k < w'.heap.size) ∧ LAf K' w' (n + 1) v ts)
def TakeC (n : Nat) : Prop := ∀ {g : Nat} {w : World} {K : Nat → Prop} {pv : Value} {ps : List (List UInt8)} {s : List UInt8} {lf : Nat}, HasRow w g #[Z lf] → SR K w pv ps → (∀ k, K k → k ≠ g ∧ k < w.heap.size) → (∀ q ∈ ps, Pt n q ∧ q.length ≤ 1000) → ps.length ≤ 10000 → s.length < 100000000 → lf < 100000000 → Calls Tryd.prog 26 #[pv, str s, ptr0 g] w (TakeP n g w ps s lf)
theorem tkG_step {α : Type} {nil : α} {sub : List (List UInt8) → List UInt8 → Nat → Option (α × Nat)} {s : List UInt8} {ps : List (List UInt8)} {i lf : Nat} {q : List UInt8} (h : ps[i]? = some q) : tkG nil sub s (ps.drop i) i lf = (tk1 nil sub s q i lf).bind fun x => (tkG nil sub s (ps.drop (i + 1)) (i + 1) x.2).map fun y => (x.1 :: y.1, y.2) := by
  obtain ⟨h1, h2⟩ := List.getElem?_eq_some_iff.1 h
  rw [List.drop_eq_getElem_cons h1, h2]
  rfl
/-- A form of one term that is a list. -/
theorem Pt.lst {n : Nat} (hn : n ≤ 8) {q : List UInt8} (h : Pt n q) (h1 : q ≠ [110]) (h2 : q ≠ [116]) : ∃ m b gq inn, n = m + 1 ∧ q = b :: gq ∧ (b = 40 ∨ b = 91) ∧ 1 ≤ gq.length ∧ partsM ((b :: gq).drop 1).dropLast = some inn ∧ inr_ (b :: gq) = inn ∧ (∀ p ∈ inn, Pt m p) ∧ (b = 91 → ∃ p, inn = [p]) := by
  cases n with
  | zero =>
    rcases h with h | h
    · exact absurd h h1
    · exact absurd h h2
  | succ m =>
    rcases h with h | h | ⟨qs, hqs, rfl⟩ | ⟨q1, hq1, rfl⟩
    · exact absurd h h1
    · exact absurd h h2
    · have hp : partsM ((40 :: (qs.flatten ++ [41]) : List UInt8).drop 1).dropLast = some qs := by
        rw [List.drop_one, List.tail_cons, List.dropLast_concat]
        exact parts_ok fun q hq => (hqs q hq).up (by omega)
      exact ⟨m, 40, qs.flatten ++ [41], qs, rfl, rfl, .inl rfl, by rw [List.length_append, List.length_singleton]; omega, hp, by unfold inr_; rw [hp]; rfl, hqs, fun h => by cases h⟩
    · have hp : partsM ((91 :: (q1 ++ [93]) : List UInt8).drop 1).dropLast = some [q1] := by
        rw [List.drop_one, List.tail_cons, List.dropLast_concat]
        have := parts_ok (ps := [q1]) (fun q hq => by rw [List.mem_singleton] at hq; subst hq; exact hq1.up (by omega))
        rwa [List.flatten_cons, List.flatten_nil, List.append_nil] at this
      exact ⟨m, 91, q1 ++ [93], [q1], rfl, rfl, .inr rfl, by rw [List.length_append, List.length_singleton]; omega, hp, by unfold inr_; rw [hp]; rfl, fun p hp => by rw [List.mem_singleton] at hp; subst hp; exact hq1, fun _ => ⟨q1, rfl⟩⟩
end Go.Proofs.YtjjiendgmnlokaaDoor

/- The document's take. -/
namespace Go.Proofs.YtjjiendgmnlokaaDoor
open Go.RowKit Go.Sort
set_option linter.unusedVariables false
set_option maxRecDepth 100000
abbrev taK : List Nat := [0, 1, 2, 8, 9]
abbrev taV (pv : Value) (s : List UInt8) (out : Value) (i : Nat) : Vs := frm 169 [(0, Sum.inl pv), (1, Sum.inl (str s)), (2, Sum.inr (0, 0)), (8, Sum.inl out), (9, Sum.inl (Z i))]
def bodyL2 (fn : Func) : Code := (loopOf (bodyL fn)).getD .skip
abbrev tbK : List Nat := [0, 1, 2, 8, 9, 13, 14, 15, 17, 18]
abbrev tbV (pv : Value) (s : List UInt8) (out : Value) (i m : Nat) (s2 : List UInt8) (inn each : Value) (j : Nat) : Vs := frm 169 [(0, Sum.inl pv), (1, Sum.inl (str s)), (2, Sum.inr (0, 0)), (8, Sum.inl out), (9, Sum.inl (Z i)), (13, Sum.inl (Z m)), (14, Sum.inl (str s2)), (15, Sum.inl inn), (17, Sum.inl each), (18, Sum.inl (Z j))]
theorem bd_lst2 (ad : Option Addr) (n cap : Nat) (w : World) : (Instr.build 41 (([0, 3] : List Nat).zip [Z 2, .slice ad n cap]).toArray).run Tryd.prog w = .ok (.agg (tx (2, 0, ⟨#[]⟩, .slice ad n cap)).toArray) w := by kernel_rfl
def SRn (lo : Nat) (inn : List (List UInt8)) (v : Value) (w : World) : Prop := ∃ Ki : Nat → Prop, (∀ k, Ki k → lo ≤ k ∧ k < w.heap.size) ∧ SR Ki w v inn
theorem SRn.below {lo : Nat} {inn : List (List UInt8)} {v : Value} {w w' : World} (h : SRn lo inn v w) (hb : Below w.heap.size w w') : SRn lo inn v w' := by
  obtain ⟨Ki, h1, h2⟩ := h
  exact ⟨Ki, fun k hk => ⟨(h1 k hk).1, Nat.lt_of_lt_of_le (h1 k hk).2 hb.size⟩, h2.keep fun k hk => hb.block k (h1 k hk).2⟩
section
variable {P : Program} {ops : Array Oper} {Q : Exit → Act → World → Prop} {o : Oper} {a : Act} {w : World}
theorem asgnG {x : Operand} {v : Value} (hop : o.op = .assign x) (hg : o.guard = none) (hx : a.eval x = v) : wpG ops o P a w (fun a'' w'' => a'' = a.put o.dst v ∧ w'' = w) Q := by
  refine wpG_plain hg (wp_valF (v := v) (w1 := w) ?_ ⟨rfl, rfl⟩)
  unfold execOp
  simp only [hop, hx, Sem.run_pure]
theorem extrG {x : Operand} {j : Nat} {vs : Array Value} {v : Value} (hop : o.op = .extract x j) (hg : o.guard = none) (hx : a.eval x = .tuple vs) (hv : vs[j]? = some v) : wpG ops o P a w (fun a'' w'' => a'' = a.put o.dst v ∧ w'' = w) Q := by
  refine wpG_plain hg (wp_valF (v := v) (w1 := w) ?_ ⟨rfl, rfl⟩)
  unfold execOp
  simp [hop, hx, Instr.extract, hv]
end
theorem SI.alsoK {J J' : World → Prop} {F F' : Nat → Prop} {ds : List Deferred} {β : Nat → Nat} {c : Cf} {a : Act} {w : World} (I : SI J F ds β c a w) (hJ : J' w) (rows0 : Rows) (hF : ∀ p ∈ rows0, ¬ F' (β p.1)) (hrw : c.rows = rows0) : SI (fun w' => J w' ∧ J' w') (fun k => F k ∨ F' k) ds β c a w :=
  I.also hJ (by rw [hrw]; exact hF)
structure OJ (b e sz : Nat) (v : Value) (n : Nat) (xs : List Value) (w : World) : Prop where
  own : w.ownsRow b e sz v n xs
  le : b ≤ w.heap.size
theorem OJ.rs (b e sz : Nat) (v : Value) (n : Nat) (xs : List Value) : Rsrc (OJ b e sz v n xs) (fun k => v.ownBlock = some k) :=
  ⟨fun w w' h g => ⟨owns_grow h.own g fun k hk => hk, Nat.le_trans h.le g.size⟩, fun w k h hk => (h.own.lt k hk).2⟩
theorem at_rows0 {P : Program} {Q : Exit → Act → World → Prop} {c : Cf} {a : Act} {w : World} : At P Q { c with rows := [] } a w ↔ At P Q c a w := ⟨fun h => ⟨h.out⟩, fun h => ⟨h.out⟩⟩
theorem SI.norow {J J' : World → Prop} {F F' : Nat → Prop} {ds : List Deferred} {β : Nat → Nat} {c : Cf} {a : Act} {w w' : World} (I : SI J F ds β c a w) (hJ : J' w') (v : Value) : SI J' F' ds β { nxtQ c v with rows := [] } (a.put (dstQ c) v) w' := by
  refine ⟨putQ_fr I.fr (dstQ c) (some (Sum.inl v)), ?_, hJ, fun p hp => (by cases hp), fun p hp => (by cases hp), fun p hp => (by cases hp), fun p hp => (by cases hp), idsB_put I.ids (dstQ c) (by intro i o h; cases h)⟩
  unfold Act.put
  split <;> exact I.df
/-- What follows behind a code's first loop. -/
def kOf : Code → List Ki → Option (List Ki)
  | .loop _, ks => some ks
  | .seq x y, ks => (kOf x (Sum.inl y :: ks)).or (kOf y ks)
  | .block id x, ks => kOf x (Sum.inr id :: ks)
  | .cond _ x y, ks => (kOf x ks).or (kOf y ks)
  | _, _ => none
set_option maxHeartbeats 2000000 in
theorem take_of {n : Nat} (hn8 : n ≤ 8) (hrec : ∀ m, n = m + 1 → TakeC m) : TakeC n := by
  intro g w K pv ps s lf hr hSR hK hps hpl hsl hlf
  have hlt := hr.lt
  have hsz := str_size s
  obtain ⟨adp, capp, rfl, hmp⟩ := hSR
  have key := inR (P := Tryd.prog) (hl := by intro p hp; simp only [List.mem_singleton] at hp; subst hp; exact Nat.one_pos) (J := WJ w g n (.slice none 0 0) [] [] noK) (F := WJF w g (.slice none 0 0) noK) (β := fun _ => g) (w := w) (f := 26) (fn := Tryd.f26) [Sum.inl (.slice adp ps.length capp), Sum.inl (str s), Sum.inr (0, 0)] (rows := [(0, #[Z lf])]) (nx := 1) (Rt := TakeP n g w ps s lf) Tryd.func26 (WJ.start _ _ _) (by intro p hp; simp only [List.mem_singleton] at hp; subst hp; exact hr) (by intro p hp; exact WJ.not) (by intro p hp q hq hpq; simp only [List.mem_singleton] at hp hq; subst hp; subst hq; exact absurd rfl hpq)
  refine key fun a I => ?_
  rcases Nat.lt_or_ge lf ps.length with hlen | hlen
  · refine goQ [lS Tryd.underlying52 (ad := adp) (n := ps.length) (cap := capp) rfl, bO .sub 3 (run_subZ (x := lf) (y := ps.length) (z := (lf : Int) - ps.length) (by rw [wz (by omega) (by omega)])), bO .lss 3 (run_lssZ (x := (lf : Int) - ps.length) (y := 0) (b := true) (decide_eq_true (by omega)))] (WJ.rs _ _ _ _ _ _ _) I fun β a w1 I hb => ?_
    exact outQ (v := .tuple #[.slice none 0 0, .bool false]) I ⟨I.hJ.ro.gr, .inl ⟨by rw [tk_eq, if_pos hlen], rfl⟩⟩
  refine goQ [lS Tryd.underlying52 (ad := adp) (n := ps.length) (cap := capp) rfl, bO .sub 3 (run_subZ (x := lf) (y := ps.length) (z := (lf - ps.length : Nat)) (by rw [wz (by omega) (by omega)]; omega)), bO .lss 3 (run_lssZ (x := (lf - ps.length : Nat)) (y := 0) (b := false) (by simp))] (WJ.rs _ _ _ _ _ _ _) I fun β a w1 I hb => ?_
  have hb0 : β 0 = g := agr hb 0 rfl
  have htk : tk n ps s lf = tkG (nilT n) (tkS n) s ps 0 (lf - ps.length) := by rw [tk_eq, if_neg (by omega)]
  let St : Nat → Act → World → Prop := fun k a w' => ∃ (i lf1 : Nat) (β : Nat → Nat) (u : Nat → Value) (ad : Option Addr) (cap : Nat) (X : List (Int × Nat × ByteArray × Value)) (ts : List (TT n)) (K' : Nat → Prop), k = ps.length - i ∧ i ≤ ps.length ∧ β 0 = g ∧ X.length = i ∧ lf1 ≤ lf ∧
    tkG (nilT n) (tkS n) s ps 0 (lf - ps.length) = (tkG (nilT n) (tkS n) s (ps.drop i) i lf1).map (fun y => (ts ++ y.1, y.2)) ∧
    SI (WJ w g n (.slice ad i cap) X ts K') (WJF w g (.slice ad i cap) K') [] β (cfC (bodyL Tryd.f26) (fillF (scrF 169 taK) u 0 (taV (.slice adp ps.length capp) s (.slice ad i cap) i)) [(0, #[Z lf1])] 1) a w'
  refine lpM (bodyL Tryd.f26) St ps.length ?_ ?_
  · obtain ⟨u, Iu⟩ := I.scr (bodyL Tryd.f26) (scrF 169 taK) (taV (.slice adp ps.length capp) s (.slice none 0 0) 0) [(0, #[Z (lf - ps.length : Nat)])] 1
    exact ⟨0, lf - ps.length, β, u, none, 0, [], [], noK, by omega, Nat.zero_le _, hb0, rfl, by omega, by simp, Iu⟩
  rintro k a3 w3 ⟨i, lf1, β3, u, ad, cap, X, ts, K', rfl, hi, hb3, hXi, hlf1, hgo, I⟩
  refine wp_cfC (tm := fillF (scrF 169 taK) u 0 (taV (.slice adp ps.length capp) s (.slice ad i cap) i)) (rows := [(0, #[Z lf1])]) (nx := 1) ?_
  rcases Nat.lt_or_ge i ps.length with hil | hil
  case inr =>
    obtain rfl : i = ps.length := by omega
    refine goQ [lS Tryd.underlying52 (ad := adp) (n := ps.length) (cap := capp) rfl, bO .lss 3 (run_lssZ (x := ps.length) (y := ps.length) (b := false) (by simp))] (WJ.rs _ _ _ _ _ _ _) I fun β4 a4 w4 I hb4 => ?_
    have hb40 : β4 0 = g := agr hb4 0 hb3
    refine endE 0 ?_
    refine goQ [] (WJ.rs _ _ _ _ _ _ _) (I.exit _) fun β5 a5 w5 I hb5 => ?_
    have hb50 : β5 0 = g := agr hb5 0 hb40
    rw [List.drop_length] at hgo
    refine outQ (v := .tuple #[.slice ad ps.length cap, .bool true]) I ⟨I.hJ.ro.gr, .inr ⟨ts, lf1, _, fun k => K' k ∨ (Value.slice ad ps.length cap).ownBlock = some k, by rw [htk, hgo]; simp [tkG], hlf1, rfl, I.rowG 0 hb50 (r := #[Z lf1]), fun k hk => ?_, LAf_own I.hJ.ro.own (fun k hk => .inr hk) (I.hJ.inn.mono fun k hk => .inl hk)⟩⟩
    rcases hk with hk | hk
    · exact ⟨(I.hJ.kb k hk).1, (I.hJ.kb k hk).2.1⟩
    · exact I.hJ.ro.own.lt k hk
  obtain ⟨q, hqi⟩ : ∃ q, ps[i]? = some q := ⟨_, List.getElem?_eq_getElem hil⟩
  obtain ⟨gp, offp, rfl, hKp, hcp⟩ := hmp i q hqi
  obtain ⟨hgpg, hgpl⟩ := hK gp hKp
  obtain ⟨hpt, hql⟩ := hps q (List.mem_of_getElem? hqi)
  have hld : ∀ w', Grow (fun k => k ≠ g) w w' → (loadVar 9 ⟨gp, offp + i * 1, none⟩).run Tryd.prog w' = .ok (str q) w' := fun w' hg => (hcp.keep (hg.block gp hgpl hgpg)).text
  rw [tkG_step hqi] at hgo
  have hnone : tk1 (nilT n) (tkS n) s q i lf1 = none → tk n ps s lf = none := fun h => by rw [htk, hgo, h]; rfl
  have hmul : IntKind.i64.wrap (32 * (i : Int)) = ((32 * i : Nat) : Int) := by rw [wz (by omega) (by omega)]; omega
  have hadd : IntKind.i64.wrap ((i : Int) + 1) = ((i + 1 : Nat) : Int) := by rw [wz (by omega) (by omega)]; omega
  have hnext : ∀ {tm : TT n} {lf2 : Nat} {β : Nat → Nat} {a : Act} {w' : World} {c : Cf} {ad8 : Option Addr} {cap8 : Nat} {X8 : List (Int × Nat × ByteArray × Value)} {K8 : Nat → Prop}, tk1 (nilT n) (tkS n) s q i lf1 = some (tm, lf2) → lf2 ≤ lf → β 0 = g → X8.length = i + 1 → SI (WJ w g n (.slice ad8 (i + 1) cap8) X8 (ts ++ [tm]) K8) (WJF w g (.slice ad8 (i + 1) cap8) K8) [] β c a w' → dropF (scrF 169 taK) 0 c.tm = dropF (scrF 169 taK) 0 (taV (.slice (some ⟨gp, offp, none⟩) ps.length capp) s (.slice ad8 (i + 1) cap8) (i + 1)) → [(0, #[Z lf2])].map (fun p => rowOf c.rows p.1) = [(0, #[Z lf2])].map (fun p => some p.2) → ∃ j, j < ps.length - i ∧ St j a w' := by
    intro tm lf2 β a w' c ad8 cap8 X8 K8 h1 h2 hb hX I hdr hrw
    obtain ⟨u', Iu⟩ := I.scr (bodyL Tryd.f26) (scrF 169 taK) (taV (.slice (some ⟨gp, offp, none⟩) ps.length capp) s (.slice ad8 (i + 1) cap8) (i + 1)) [(0, #[Z lf2])] 1 hdr hrw
    refine ⟨ps.length - (i + 1), by omega, i + 1, lf2, β, u', ad8, cap8, X8, ts ++ [tm], K8, rfl, hil, hb, hX, h2, ?_, Iu⟩
    rw [hgo, h1, Option.bind_some, Option.map_map]
    congr 1
    funext y
    simp
  rcases Nat.lt_or_ge s.length (32 * i + 32) with h32 | h32
  · refine goQ [lS Tryd.underlying52 (ad := some ⟨gp, offp, none⟩) (n := ps.length) (cap := capp) rfl, bO .lss 3 (run_lssZ (x := i) (y := ps.length) (b := true) (by simp; omega)), bO .mul 3 (run_mulZ (x := 32) (y := i) hmul), lO Tryd.underlying9 (b := ⟨s.toArray⟩) (n := s.length) (by rw [hsz]), bO .sub 3 (run_subZ (x := s.length) (y := 32) (z := (s.length : Int) - 32) (by rw [wz (by omega) (by omega)])), bO .gtr 3 (run_gtrZ (x := (32 * i : Nat)) (y := (s.length : Int) - 32) (b := true) (decide_eq_true (by omega)))] (WJ.rs _ _ _ _ _ _ _) I fun β4 a4 w4 I hb4 => ?_
    exact endR (retV (v := .tuple #[.slice none 0 0, .bool false]) I ⟨I.hJ.ro.gr, .inl ⟨hnone (by unfold tk1; rw [if_neg (by omega)]), rfl⟩⟩)
  by_cases hq1 : q = [110]
  · obtain ⟨nn, hnn⟩ : ∃ nn, nm ((s.drop (32 * i)).take 32) = nn := ⟨_, rfl⟩
    have hl32 : ((s.drop (32 * i)).take 32).length ≤ 32 := by rw [List.length_take]; omega
    have hslice : (s.take (32 * i + 32)).drop (32 * i) = (s.drop (32 * i)).take 32 := by rw [List.drop_take, Nat.add_sub_cancel_left]
    have hrdc : ∀ w, Calls Tryd.prog 38 #[str ((s.take (32 * i + 32)).drop (32 * i))] w fun e w' => e = .returned (.tuple #[U nn, Z 0]) ∧ Below w.heap.size w w' := fun w => by rw [hslice, ← hnn]; exact rreadL _ hl32 w
    refine goT (T := fun w' => Grow (fun k => k ≠ g) w w') [lS Tryd.underlying52 (ad := some ⟨gp, offp, none⟩) (n := ps.length) (cap := capp) rfl, bO .lss 3 (run_lssZ (x := i) (y := ps.length) (b := true) (by simp; omega)), bO .mul 3 (run_mulZ (x := 32) (y := i) hmul), lO Tryd.underlying9 (b := ⟨s.toArray⟩) (n := s.length) (by rw [hsz]), bO .sub 3 (run_subZ (x := s.length) (y := 32) (z := (s.length : Int) - 32) (by rw [wz (by omega) (by omega)])), bO .gtr 3 (run_gtrZ (x := (32 * i : Nat)) (y := (s.length : Int) - 32) (b := false) (decide_eq_false (by omega))), iA 52 Tryd.underlying52 (sz := 1) (by kernel_rfl) (g := gp) (off := offp) (n := ps.length) (cap := capp) hil, ldA 9 hld, bO .eql 9 (eqS_run (a := q) (b := [110]) (q := true) (decide_eq_true hq1)), bO .mul 3 (run_mulZ (x := 32) (y := i) hmul), bO .mul 3 (run_mulZ (x := 32) (y := i) hmul), bO .add 3 (run_addZ (x := (32 * i : Nat)) (y := 32) (z := (32 * i + 32 : Nat)) (by rw [wz (by omega) (by omega)]; omega)), sLH 9 (p := str s) (l := Z (32 * i : Nat)) (m := Z (32 * i + 32 : Nat)) (v := str ((s.take (32 * i + 32)).drop (32 * i))) (both_run (by omega) h32), kC Tryd.func38 hrdc, dO 41 [1] (bd_num nn)] (WJ.rs _ _ _ _ _ _ _) (fun _ h => h.ro.gr) I fun β4 a4 w4 I hb4 => ?_
    have hb40 : β4 0 = g := agr hb4 0 hb3
    have htk1 : tk1 (nilT n) (tkS n) s q i lf1 = some ((0, nn, ⟨#[]⟩, nilT n), lf1) := by unfold tk1; rw [if_pos h32, if_pos hq1, hnn]
    refine app_term (tm := (0, nn, ⟨#[]⟩, nilT n)) (K1 := noK) (lo := 0) (adl := none) (ml := 0) (capl := 0) (I.also ⟨fun k h => h.elim, LAf.nil _ _ _⟩ fun p hp h => h) hXi (by omega) (fun k h => h.elim) fun ad8 cap8 a8 w8 I => ?_
    refine goQ [bO .add 3 (run_addZ (x := i) (y := 1) hadd)] (WJ.rs _ _ _ _ _ _ _) I fun β9 a9 w9 I hb9 => ?_
    exact endL (hnext htk1 hlf1 (agr hb9 0 hb40) (by simp [hXi]) I (by kernel_rfl) (by kernel_rfl))
  have htk0 : tk1 (nilT n) (tkS n) s q i lf1 = (rdC s (32 * i) s.length).bind fun p => (rdC s p 16384).bind fun m => if q = [116] then (if m ≤ (s.drop (p + 32)).length then some ((1, 0, ⟨((s.drop (p + 32)).take m).toArray⟩, nilT n), lf1) else none) else if 64 < m ∨ (q.head? = some 40 ∧ m ≠ (inr_ q).length) then none else (tkS n (eachM q m) (s.drop (p + 32)) lf1).map fun x => ((2, 0, ⟨#[]⟩, x.1), x.2) := by unfold tk1; rw [if_pos h32, if_neg hq1]
  cases hc1 : rdC s (32 * i) s.length with
  | none =>
    have hs1 : ∀ w, Calls Tryd.prog 39 #[str s, Z (32 * i : Nat), Z s.length] w fun e w' => e = .returned (Z (-1)) ∧ Below w.heap.size w w' := fun w => by have := small_any (s := s) (p := 32 * i) (most := s.length) (by omega) (by omega) (by omega) w; rw [hc1] at this; exact this
    refine goT (T := fun w' => Grow (fun k => k ≠ g) w w') [lS Tryd.underlying52 (ad := some ⟨gp, offp, none⟩) (n := ps.length) (cap := capp) rfl, bO .lss 3 (run_lssZ (x := i) (y := ps.length) (b := true) (by simp; omega)), bO .mul 3 (run_mulZ (x := 32) (y := i) hmul), lO Tryd.underlying9 (b := ⟨s.toArray⟩) (n := s.length) (by rw [hsz]), bO .sub 3 (run_subZ (x := s.length) (y := 32) (z := (s.length : Int) - 32) (by rw [wz (by omega) (by omega)])), bO .gtr 3 (run_gtrZ (x := (32 * i : Nat)) (y := (s.length : Int) - 32) (b := false) (decide_eq_false (by omega))), iA 52 Tryd.underlying52 (sz := 1) (by kernel_rfl) (g := gp) (off := offp) (n := ps.length) (cap := capp) hil, ldA 9 hld, bO .eql 9 (eqS_run (a := q) (b := [110]) (q := false) (decide_eq_false hq1)), bO .mul 3 (run_mulZ (x := 32) (y := i) hmul), lO Tryd.underlying9 (b := ⟨s.toArray⟩) (n := s.length) (by rw [hsz]), kC Tryd.func39 hs1, bO .lss 3 (run_lssZ (x := (-1)) (y := 0) (b := true) (by decide))] (WJ.rs _ _ _ _ _ _ _) (fun _ h => h.ro.gr) I fun β4 a4 w4 I hb4 => ?_
    exact endR (retV (v := .tuple #[.slice none 0 0, .bool false]) I ⟨I.hJ.ro.gr, .inl ⟨hnone (by rw [htk0, hc1]; rfl), rfl⟩⟩)
  | some p =>
  obtain ⟨_, _, hple⟩ := rdC_some hc1
  have hs1 : ∀ w, Calls Tryd.prog 39 #[str s, Z (32 * i : Nat), Z s.length] w fun e w' => e = .returned (Z p) ∧ Below w.heap.size w w' := fun w => by have := small_any (s := s) (p := 32 * i) (most := s.length) (by omega) (by omega) (by omega) w; rw [hc1] at this; exact this
  rw [hc1, Option.bind_some] at htk0
  cases hc2 : rdC s p 16384 with
  | none =>
    have hs2 : ∀ w, Calls Tryd.prog 39 #[str s, Z p, Z (16384 : Nat)] w fun e w' => e = .returned (Z (-1)) ∧ Below w.heap.size w w' := fun w => by have := small_any (s := s) (p := p) (most := 16384) (by omega) (by omega) (by omega) w; rw [hc2] at this; exact this
    refine goT (T := fun w' => Grow (fun k => k ≠ g) w w') [lS Tryd.underlying52 (ad := some ⟨gp, offp, none⟩) (n := ps.length) (cap := capp) rfl, bO .lss 3 (run_lssZ (x := i) (y := ps.length) (b := true) (by simp; omega)), bO .mul 3 (run_mulZ (x := 32) (y := i) hmul), lO Tryd.underlying9 (b := ⟨s.toArray⟩) (n := s.length) (by rw [hsz]), bO .sub 3 (run_subZ (x := s.length) (y := 32) (z := (s.length : Int) - 32) (by rw [wz (by omega) (by omega)])), bO .gtr 3 (run_gtrZ (x := (32 * i : Nat)) (y := (s.length : Int) - 32) (b := false) (decide_eq_false (by omega))), iA 52 Tryd.underlying52 (sz := 1) (by kernel_rfl) (g := gp) (off := offp) (n := ps.length) (cap := capp) hil, ldA 9 hld, bO .eql 9 (eqS_run (a := q) (b := [110]) (q := false) (decide_eq_false hq1)), bO .mul 3 (run_mulZ (x := 32) (y := i) hmul), lO Tryd.underlying9 (b := ⟨s.toArray⟩) (n := s.length) (by rw [hsz]), kC Tryd.func39 hs1, bO .lss 3 (run_lssZ (x := p) (y := 0) (b := false) (by simp)), kC Tryd.func39 hs2, bO .lss 3 (run_lssZ (x := (-1)) (y := 0) (b := true) (by decide))] (WJ.rs _ _ _ _ _ _ _) (fun _ h => h.ro.gr) I fun β4 a4 w4 I hb4 => ?_
    exact endR (retV (v := .tuple #[.slice none 0 0, .bool false]) I ⟨I.hJ.ro.gr, .inl ⟨hnone (by rw [htk0, hc2]; rfl), rfl⟩⟩)
  | some m =>
  obtain ⟨hp32, _, hmle⟩ := rdC_some hc2
  have hs2 : ∀ w, Calls Tryd.prog 39 #[str s, Z p, Z (16384 : Nat)] w fun e w' => e = .returned (Z m) ∧ Below w.heap.size w w' := fun w => by have := small_any (s := s) (p := p) (most := 16384) (by omega) (by omega) (by omega) w; rw [hc2] at this; exact this
  rw [hc2, Option.bind_some] at htk0
  obtain ⟨s2, hs2e⟩ : ∃ s2, s.drop (p + 32) = s2 := ⟨_, rfl⟩
  have hs2l : s2.length ≤ s.length := by rw [← hs2e, List.length_drop]; omega
  have hfrom : ∀ w, (Instr.sliceAt 9 (str s) (some (Z (p + 32 : Nat))) none none).run Tryd.prog w = .ok (str s2) w := fun w => by rw [← hs2e]; exact from_run (by omega) w
  rw [hs2e] at htk0
  by_cases hq2 : q = [116]
  · rw [if_pos hq2] at htk0
    rcases Nat.lt_or_ge s2.length m with hms | hms
    · refine goT (T := fun w' => Grow (fun k => k ≠ g) w w') [lS Tryd.underlying52 (ad := some ⟨gp, offp, none⟩) (n := ps.length) (cap := capp) rfl, bO .lss 3 (run_lssZ (x := i) (y := ps.length) (b := true) (by simp; omega)), bO .mul 3 (run_mulZ (x := 32) (y := i) hmul), lO Tryd.underlying9 (b := ⟨s.toArray⟩) (n := s.length) (by rw [hsz]), bO .sub 3 (run_subZ (x := s.length) (y := 32) (z := (s.length : Int) - 32) (by rw [wz (by omega) (by omega)])), bO .gtr 3 (run_gtrZ (x := (32 * i : Nat)) (y := (s.length : Int) - 32) (b := false) (decide_eq_false (by omega))), iA 52 Tryd.underlying52 (sz := 1) (by kernel_rfl) (g := gp) (off := offp) (n := ps.length) (cap := capp) hil, ldA 9 hld, bO .eql 9 (eqS_run (a := q) (b := [110]) (q := false) (decide_eq_false hq1)), bO .mul 3 (run_mulZ (x := 32) (y := i) hmul), lO Tryd.underlying9 (b := ⟨s.toArray⟩) (n := s.length) (by rw [hsz]), kC Tryd.func39 hs1, bO .lss 3 (run_lssZ (x := p) (y := 0) (b := false) (by simp)), kC Tryd.func39 hs2, bO .lss 3 (run_lssZ (x := m) (y := 0) (b := false) (by simp)), bO .add 3 (run_addZ (x := p) (y := 32) (z := (p + 32 : Nat)) (by rw [wz (by omega) (by omega)]; omega)), sO 9 (p := str s) (l := Z (p + 32 : Nat)) (v := str s2) hfrom, iA 52 Tryd.underlying52 (sz := 1) (by kernel_rfl) (g := gp) (off := offp) (n := ps.length) (cap := capp) hil, ldA 9 hld, bO .eql 9 (eqS_run (a := q) (b := [116]) (q := true) (decide_eq_true hq2)), lO Tryd.underlying9 (b := ⟨s2.toArray⟩) (n := s2.length) (by rw [str_size]), bO .gtr 3 (run_gtrZ (x := m) (y := s2.length) (b := true) (decide_eq_true (by omega)))] (WJ.rs _ _ _ _ _ _ _) (fun _ h => h.ro.gr) I fun β4 a4 w4 I hb4 => ?_
      exact endR (retV (v := .tuple #[.slice none 0 0, .bool false]) I ⟨I.hJ.ro.gr, .inl ⟨hnone (by rw [htk0, if_neg (by omega)]), rfl⟩⟩)
    · refine goT (T := fun w' => Grow (fun k => k ≠ g) w w') [lS Tryd.underlying52 (ad := some ⟨gp, offp, none⟩) (n := ps.length) (cap := capp) rfl, bO .lss 3 (run_lssZ (x := i) (y := ps.length) (b := true) (by simp; omega)), bO .mul 3 (run_mulZ (x := 32) (y := i) hmul), lO Tryd.underlying9 (b := ⟨s.toArray⟩) (n := s.length) (by rw [hsz]), bO .sub 3 (run_subZ (x := s.length) (y := 32) (z := (s.length : Int) - 32) (by rw [wz (by omega) (by omega)])), bO .gtr 3 (run_gtrZ (x := (32 * i : Nat)) (y := (s.length : Int) - 32) (b := false) (decide_eq_false (by omega))), iA 52 Tryd.underlying52 (sz := 1) (by kernel_rfl) (g := gp) (off := offp) (n := ps.length) (cap := capp) hil, ldA 9 hld, bO .eql 9 (eqS_run (a := q) (b := [110]) (q := false) (decide_eq_false hq1)), bO .mul 3 (run_mulZ (x := 32) (y := i) hmul), lO Tryd.underlying9 (b := ⟨s.toArray⟩) (n := s.length) (by rw [hsz]), kC Tryd.func39 hs1, bO .lss 3 (run_lssZ (x := p) (y := 0) (b := false) (by simp)), kC Tryd.func39 hs2, bO .lss 3 (run_lssZ (x := m) (y := 0) (b := false) (by simp)), bO .add 3 (run_addZ (x := p) (y := 32) (z := (p + 32 : Nat)) (by rw [wz (by omega) (by omega)]; omega)), sO 9 (p := str s) (l := Z (p + 32 : Nat)) (v := str s2) hfrom, iA 52 Tryd.underlying52 (sz := 1) (by kernel_rfl) (g := gp) (off := offp) (n := ps.length) (cap := capp) hil, ldA 9 hld, bO .eql 9 (eqS_run (a := q) (b := [116]) (q := true) (decide_eq_true hq2)), lO Tryd.underlying9 (b := ⟨s2.toArray⟩) (n := s2.length) (by rw [str_size]), bO .gtr 3 (run_gtrZ (x := m) (y := s2.length) (b := false) (decide_eq_false (by omega))), sT 9 (p := str s2) (l := Z m) (v := str (s2.take m)) (to_run hms), dO 41 [0, 2] (bd_txt (s2.take m))] (WJ.rs _ _ _ _ _ _ _) (fun _ h => h.ro.gr) I fun β4 a4 w4 I hb4 => ?_
      have hb40 : β4 0 = g := agr hb4 0 hb3
      rw [if_pos hms] at htk0
      refine app_term (tm := (1, 0, ⟨(s2.take m).toArray⟩, nilT n)) (K1 := noK) (lo := 0) (adl := none) (ml := 0) (capl := 0) (I.also ⟨fun k h => h.elim, LAf.nil _ _ _⟩ fun p hp h => h) hXi (by omega) (fun k h => h.elim) fun ad8 cap8 a8 w8 I => ?_
      refine goQ [bO .add 3 (run_addZ (x := i) (y := 1) hadd)] (WJ.rs _ _ _ _ _ _ _) I fun β9 a9 w9 I hb9 => ?_
      exact endL (hnext htk0 hlf1 (agr hb9 0 hb40) (by simp [hXi]) I (by kernel_rfl) (by kernel_rfl))
  rw [if_neg hq2] at htk0
  refine goT (T := fun w' => Grow (fun k => k ≠ g) w w') [lS Tryd.underlying52 (ad := some ⟨gp, offp, none⟩) (n := ps.length) (cap := capp) rfl, bO .lss 3 (run_lssZ (x := i) (y := ps.length) (b := true) (by simp; omega)), bO .mul 3 (run_mulZ (x := 32) (y := i) hmul), lO Tryd.underlying9 (b := ⟨s.toArray⟩) (n := s.length) (by rw [hsz]), bO .sub 3 (run_subZ (x := s.length) (y := 32) (z := (s.length : Int) - 32) (by rw [wz (by omega) (by omega)])), bO .gtr 3 (run_gtrZ (x := (32 * i : Nat)) (y := (s.length : Int) - 32) (b := false) (decide_eq_false (by omega))), iA 52 Tryd.underlying52 (sz := 1) (by kernel_rfl) (g := gp) (off := offp) (n := ps.length) (cap := capp) hil, ldA 9 hld, bO .eql 9 (eqS_run (a := q) (b := [110]) (q := false) (decide_eq_false hq1)), bO .mul 3 (run_mulZ (x := 32) (y := i) hmul), lO Tryd.underlying9 (b := ⟨s.toArray⟩) (n := s.length) (by rw [hsz]), kC Tryd.func39 hs1, bO .lss 3 (run_lssZ (x := p) (y := 0) (b := false) (by simp)), kC Tryd.func39 hs2, bO .lss 3 (run_lssZ (x := m) (y := 0) (b := false) (by simp)), bO .add 3 (run_addZ (x := p) (y := 32) (z := (p + 32 : Nat)) (by rw [wz (by omega) (by omega)]; omega)), sO 9 (p := str s) (l := Z (p + 32 : Nat)) (v := str s2) hfrom, iA 52 Tryd.underlying52 (sz := 1) (by kernel_rfl) (g := gp) (off := offp) (n := ps.length) (cap := capp) hil, ldA 9 hld, bO .eql 9 (eqS_run (a := q) (b := [116]) (q := false) (decide_eq_false hq2))] (WJ.rs _ _ _ _ _ _ _) (fun _ h => h.ro.gr) I fun β4 a4 w4 I hb4 => ?_
  have hb40 : β4 0 = g := agr hb4 0 hb3
  obtain ⟨mm, b, gq, inn, rfl, rfl, hbk, hg1, hpart, hinr, hinn, hone⟩ := hpt.lst hn8 hq1 hq2
  obtain ⟨ft, hft⟩ : ∃ ft, ((b :: gq).drop 1).dropLast = ft := ⟨_, rfl⟩
  have hmid : ((b :: gq).take gq.length).drop 1 = ft := by rw [mid_inner hg1, hft]
  rw [hft] at hpart
  rw [List.length_cons] at hql
  have hftl : ft.length ≤ 1000 := by rw [← hmid, List.length_drop, List.length_take, List.length_cons]; omega
  have hsz4 : a4.tmps.size = 169 := by rw [I.fr]; kernel_rfl
  have hrl : ∀ p ∈ [(0, #[Z lf1])], β4 p.1 < w4.heap.size := fun p hp => by
    rw [List.mem_singleton] at hp
    subst hp
    rw [hb40]
    exact Nat.lt_of_lt_of_le hlt I.hJ.ro.gr.size
  have hsl4 : ∀ w, (Instr.sliceAt 9 (str (b :: gq)) (some (Z (1 : Nat))) (some (Z gq.length)) none).run Tryd.prog w = .ok (str ft) w := fun w => by rw [← hmid]; exact both_run hg1 (by rw [List.length_cons]; omega) w
  refine dwS (T := fun w' => Grow (fun k => k ≠ g) w w') [(11, none), (12, none), (13, none), (14, some (.bool true)), (15, none)] [iA 52 Tryd.underlying52 (sz := 1) (by kernel_rfl) (g := gp) (off := offp) (n := ps.length) (cap := capp) hil, ldA 9 hld, iA 52 Tryd.underlying52 (sz := 1) (by kernel_rfl) (g := gp) (off := offp) (n := ps.length) (cap := capp) hil, ldA 9 hld, lO Tryd.underlying9 (b := ⟨(b :: gq).toArray⟩) (n := ((gq.length + 1 : Nat) : Int)) (by rw [str_size, List.length_cons]), bO .sub 3 (run_subZ (x := (gq.length + 1 : Nat)) (y := 1) (z := gq.length) (by rw [wz (by omega) (by omega)]; omega)), sLH 9 (p := str (b :: gq)) (l := Z (1 : Nat)) (m := Z gq.length) (v := str ft) hsl4]
    (fun j v w' => (j = 11 ∨ j = 12 → ∃ vi, v = .tuple #[vi, .bool true] ∧ SRn w4.heap.size inn vi w') ∧ (j = 13 ∨ j = 15 → SRn w4.heap.size inn v w')) ?_ (WJ.rs _ _ _ _ _ _ _) (fun _ h => h.ro.gr) I ?_ ?_
  · intro j v w' w'' h hb
    refine ⟨fun hj => ?_, fun hj => (h.2 hj).below hb⟩
    obtain ⟨vi, q1, q2⟩ := h.1 hj
    exact ⟨vi, q1, q2.below hb⟩
  · intro p hp o ho listed vs a' w' hF hrd hbw hV hev
    simp only [List.mem_cons, List.not_mem_nil, or_false] at hp
    rcases hp with rfl | rfl | rfl | rfl | rfl
    · obtain ⟨o1, o2, o3⟩ := opD_get (x := .call ⟨.value (.func 25), #[.tmp 110], #[9]⟩) (d := some 111) ho (by kernel_rfl)
      have q1 : a'.eval (.tmp 110) = str ft := hev (.tmp 110) (Sum.inl (str ft)) (by kernel_rfl)
      refine callG o1 o3 Tryd.func25 (by kernel_rfl) (by kernel_rfl) (args := #[str ft]) (by rw [show (#[Operand.tmp 110] : Array Operand).map a'.eval = #[a'.eval (.tmp 110)] by simp, q1]) ?_
      refine (parts_any ft hftl w').mono fun e w2 he => ?_
      obtain ⟨hb2, he⟩ := he
      rcases he with ⟨hn, rfl⟩ | ⟨qs, v, hqs, rfl, hov⟩
      · rw [hpart] at hn; cases hn
      · rw [hpart] at hqs
        cases hqs
        refine ⟨_, rfl, fun u hu => (by cases hu), ⟨fun _ => ⟨v, rfl, _, fun k hk => ?_, SR.own hov⟩, fun h => (by rcases h with h | h <;> cases h)⟩, hb2⟩
        have := hov.lt k hk
        have := hbw.size
        omega
    · obtain ⟨o1, o2, o3⟩ := opD_get (x := .move (.tmp 111)) (d := some 99) ho (by kernel_rfl)
      have hl := waits_done (ops := opsD _) (i := 12) (j := 11) (by kernel_rfl) hrd
      have q1 : a'.eval (.tmp 111) = vs 11 := hF.new (i := 11) (by kernel_rfl) (by omega) hl
      refine wpG_mono ?_ (moveG o1 o3 q1)
      rintro a2 w2 ⟨rfl, rfl⟩
      exact ⟨vs 11, rfl, fun u hu => (by cases hu), ⟨fun _ => (hV (11, none) (by simp) hl).1 (.inl rfl), fun h => (by rcases h with h | h <;> cases h)⟩, Below.refl _ _⟩
    · obtain ⟨o1, o2, o3⟩ := opD_get (x := .extract (.tmp 99) 0) (d := some 112) ho (by kernel_rfl)
      have hl := waits_done (ops := opsD _) (i := 13) (j := 12) (by kernel_rfl) hrd
      obtain ⟨vi, hvi, hsr⟩ := (hV (12, none) (by simp) hl).1 (.inr rfl)
      have q1 : a'.eval (.tmp 99) = .tuple #[vi, .bool true] := (hF.new (i := 12) (by kernel_rfl) (by omega) hl).trans hvi
      refine wpG_mono ?_ (extrG o1 o3 q1 (v := vi) rfl)
      rintro a2 w2 ⟨rfl, rfl⟩
      exact ⟨vi, rfl, fun u hu => (by cases hu), ⟨fun h => (by rcases h with h | h <;> cases h), fun _ => hsr⟩, Below.refl _ _⟩
    · obtain ⟨o1, o2, o3⟩ := opD_get (x := .extract (.tmp 99) 1) (d := some 113) ho (by kernel_rfl)
      have hl := waits_done (ops := opsD _) (i := 14) (j := 12) (by kernel_rfl) hrd
      obtain ⟨vi, hvi, hsr⟩ := (hV (12, none) (by simp) hl).1 (.inr rfl)
      have q1 : a'.eval (.tmp 99) = .tuple #[vi, .bool true] := (hF.new (i := 12) (by kernel_rfl) (by omega) hl).trans hvi
      refine wpG_mono ?_ (extrG o1 o3 q1 (v := .bool true) rfl)
      rintro a2 w2 ⟨rfl, rfl⟩
      exact ⟨.bool true, rfl, fun u hu => (by cases hu; rfl), ⟨fun h => (by rcases h with h | h <;> cases h), fun h => (by rcases h with h | h <;> cases h)⟩, Below.refl _ _⟩
    · obtain ⟨o1, o2, o3⟩ := opD_get (x := .assign (.tmp 112)) (d := some 15) ho (by kernel_rfl)
      have hl := waits_done (ops := opsD _) (i := 15) (j := 13) (by kernel_rfl) hrd
      have q1 : a'.eval (.tmp 112) = vs 13 := hF.new (i := 13) (by kernel_rfl) (by omega) hl
      refine wpG_mono ?_ (asgnG o1 o3 q1)
      rintro a2 w2 ⟨rfl, rfl⟩
      exact ⟨vs 13, rfl, fun u hu => (by cases hu), ⟨fun h => (by rcases h with h | h <;> cases h), fun _ => (hV (13, none) (by simp) hl).2 (.inl rfl)⟩, Below.refl _ _⟩
  intro vs a5 w5 hV I
  obtain ⟨Kn, hKi, hSRi⟩ := (hV (15, none) (by simp) (of_decide_eq_true (by kernel_rfl))).2 (.inr rfl)
  clear hV
  obtain ⟨adi, capi, hv15, hmi⟩ := id hSRi
  rw [hv15] at hSRi
  obtain ⟨vs', hvs⟩ : ∃ vs' : Nat → Value, vs = fun j => if j = 15 then Value.slice adi inn.length capi else vs' j := ⟨vs, funext fun j => by
    by_cases h : j = 15
    · rw [if_pos h, h]; exact hv15
    · rw [if_neg h]⟩
  subst hvs
  clear hv15
  have I2 := I.alsoK (J' := SJ Kn (.slice adi inn.length capi) inn) (F' := Kn) ⟨fun k hk => (hKi k hk).2, hSRi⟩ [(0, #[Z lf1])] (fun p hp h => by have h1 := hrl p hp; have h2 := (hKi _ h).1; omega) (by kernel_rfl)
  have hinl : ∀ p ∈ inn, Pt mm p ∧ p.length ≤ 1000 := fun p hp => ⟨hinn p hp, by have h1 := flat_mem hp; rw [← (parts_inv hpart).1] at h1; omega⟩
  -- the row of forms, and what follows
  have fin : ∀ {KS : List Ki} {β : Nat → Nat} {a : Act} {wb : World} {c : Cf}, m ≤ 64 → (b = 40 → inn.length = m) → SI (fun w' => WJ w g (mm + 1) (.slice ad i cap) X ts K' w' ∧ SJ Kn (.slice adi inn.length capi) inn w') (fun k => WJF w g (.slice ad i cap) K' k ∨ Kn k) [] β c a wb → β 0 = g → loopQ c = some (bodyL2 Tryd.f26, (kOf (bodyL Tryd.f26) []).getD []) → dropF (scrF 169 tbK) 0 c.tm = dropF (scrF 169 tbK) 0 (tbV (.slice (some ⟨gp, offp, none⟩) ps.length capp) s (.slice ad i cap) i m s2 (.slice adi inn.length capi) (.slice none 0 0) 0) → [(0, #[Z lf1])].map (fun p => rowOf c.rows p.1) = [(0, #[Z lf1])].map (fun p => some p.2) →
      At Tryd.prog (Exit.then (fun a' w' => ∃ j, j < ps.length - i ∧ St j a' w') (QK Tryd.prog (bodyPost Tryd.prog Tryd.f26 (TakeP (mm + 1) g w ps s lf)) KS)) c a wb := by
    intro KS β a wb c hm64 hm40 I hbb hlq hdr hrw
    obtain ⟨EL, hEL⟩ : ∃ EL, eachM (b :: gq) m = EL := ⟨_, rfl⟩
    have hEL40 : b = 40 → EL = inn := fun h => by rw [← hEL]; unfold eachM; rw [if_pos (by rw [h]; rfl), hinr]
    have hEL91 : b = 91 → ∃ p, inn = [p] ∧ EL = List.replicate m p := fun h => by
      obtain ⟨p, hp⟩ := hone h
      refine ⟨p, hp, ?_⟩
      rw [← hEL]; unfold eachM; rw [if_neg (by rw [h]; simp), hinr, hp]; rfl
    have hELl : EL.length = m := by
      rcases hbk with h | h
      · rw [hEL40 h]; exact hm40 h
      · obtain ⟨p, _, h2⟩ := hEL91 h; rw [h2, List.length_replicate]
    have hELm : ∀ e ∈ EL, Pt mm e ∧ e.length ≤ 1000 := fun e he => by
      rcases hbk with h | h
      · rw [hEL40 h] at he; exact hinl e he
      · obtain ⟨p, h1, h2⟩ := hEL91 h
        rw [h2] at he
        rw [List.eq_of_mem_replicate he]
        exact hinl p (by rw [h1]; exact List.mem_cons_self)
    have hFlt : ∀ k, (WJF w g (.slice ad i cap) K' k ∨ Kn k) → k < wb.heap.size := fun k hk => (((WJ.rs _ _ _ _ _ _ _).both (SJ.rs _ _ _))).lt wb k I.hJ hk
    have hszb := I.hJ.1.ro.gr.size
    let St2 : Nat → Act → World → Prop := fun k a w' => ∃ (j : Nat) (β : Nat → Nat) (u : Nat → Value) (ade : Option Addr) (cape : Nat), k = m - j ∧ j ≤ m ∧ β 0 = g ∧
      SI (fun w' => (WJ w g (mm + 1) (.slice ad i cap) X ts K' w' ∧ SJ Kn (.slice adi inn.length capi) inn w') ∧ OJ wb.heap.size 9 1 (.slice ade j cape) j ((EL.take j).map str) w') (fun k => (WJF w g (.slice ad i cap) K' k ∨ Kn k) ∨ Value.ownBlock (.slice ade j cape) = some k) [] β (cfC (bodyL2 Tryd.f26) (fillF (scrF 169 tbK) u 0 (tbV (.slice (some ⟨gp, offp, none⟩) ps.length capp) s (.slice ad i cap) i m s2 (.slice adi inn.length capi) (.slice ade j cape) j)) [(0, #[Z lf1])] 1) a w'
    refine lpN (bodyL2 Tryd.f26) ((kOf (bodyL Tryd.f26) []).getD []) St2 m ?_ ?_ hlq
    · obtain ⟨u, Iu⟩ := I.scr (bodyL2 Tryd.f26) (scrF 169 tbK) (tbV (.slice (some ⟨gp, offp, none⟩) ps.length capp) s (.slice ad i cap) i m s2 (.slice adi inn.length capi) (.slice none 0 0) 0) [(0, #[Z lf1])] 1 hdr hrw
      exact ⟨0, β, u, none, 0, by omega, Nat.zero_le _, hbb, Iu.alsoK (J' := OJ wb.heap.size 9 1 (.slice none 0 0) 0 []) (F' := fun k => Value.ownBlock (.slice none 0 0) = some k) ⟨World.ownsRow_nil _ _ _ _, Nat.le_refl _⟩ [(0, #[Z lf1])] (fun p hp h => by cases h) rfl⟩
    rintro k a6 w6 ⟨j, β6, u, ade, cape, rfl, hj, hb6, Ij⟩
    refine wp_cfC (tm := fillF (scrF 169 tbK) u 0 (tbV (.slice (some ⟨gp, offp, none⟩) ps.length capp) s (.slice ad i cap) i m s2 (.slice adi inn.length capi) (.slice ade j cape) j)) (rows := [(0, #[Z lf1])]) (nx := 1) ?_
    rcases Nat.lt_or_ge j m with hjm | hjm
    · obtain ⟨e, he⟩ : ∃ e, EL[j]? = some e := ⟨_, List.getElem?_eq_getElem (by omega)⟩
      have htke : (EL.take j).map str ++ [str e] = (EL.take (j + 1)).map str := by rw [List.take_add_one, he, List.map_append]; rfl
      rcases hbk with rfl | rfl
      · have hje : inn[j]? = some e := by rw [← hEL40 rfl]; exact he
        have hjl : j < inn.length := (List.getElem?_eq_some_iff.1 hje).1
        obtain ⟨gi, offi, rfl, _, _⟩ := hmi j e hje
        have hldi : ∀ w', ((WJ w g (mm + 1) (.slice ad i cap) X ts K' w' ∧ SJ Kn (.slice (some ⟨gi, offi, none⟩) inn.length capi) inn w') ∧ OJ wb.heap.size 9 1 (.slice ade j cape) j ((EL.take j).map str) w') → (loadVar 9 ⟨gi, offi + j * 1, none⟩).run Tryd.prog w' = .ok (str e) w' := fun w' h => by
          obtain ⟨ad', cap', hv, hm'⟩ := h.1.2.sr
          cases hv
          obtain ⟨g', off', h1, _, hc'⟩ := hm' j e hje
          cases h1
          exact hc'.text
        have hld3 : ∀ w', ((WJ w g (mm + 1) (.slice ad i cap) X ts K' w' ∧ SJ Kn (.slice (some ⟨gi, offi, none⟩) inn.length capi) inn w') ∧ OJ wb.heap.size 9 1 (.slice ade j cape) j ((EL.take j).map str) w') → (loadVar 9 ⟨gp, offp + i * 1, none⟩).run Tryd.prog w' = .ok (str (40 :: gq)) w' := fun w' h => hld w' h.1.1.ro.gr
        refine goT (T := fun w' => (WJ w g (mm + 1) (.slice ad i cap) X ts K' w' ∧ SJ Kn (.slice (some ⟨gi, offi, none⟩) inn.length capi) inn w') ∧ OJ wb.heap.size 9 1 (.slice ade j cape) j ((EL.take j).map str) w') [bO .lss 3 (run_lssZ (x := j) (y := m) (b := true) (by simp; omega)), iA 52 Tryd.underlying52 (sz := 1) (by kernel_rfl) (g := gp) (off := offp) (n := ps.length) (cap := capp) hil, ldA 9 hld3, iO 9 (p := str (40 :: gq)) (i := Z (0 : Nat)) (v := .int .u8 (40 : UInt8).toNat) (idx_run rfl), bO .eql 5 (eqB_run (x := 40) (y := 40) (q := true) (by decide)), iA 52 Tryd.underlying52 (sz := 1) (by kernel_rfl) (g := gi) (off := offi) (n := inn.length) (cap := capi) (i := j) hjl, ldA 9 hldi] (((WJ.rs _ _ _ _ _ _ _).both (SJ.rs _ _ _)).both (OJ.rs _ _ _ _ _ _)) (fun _ h => h) Ij fun β7 a7 w7 I hb7 => ?_
        have hb70 : β7 0 = g := agr hb7 0 hb6
        refine bslQ (ss := [(0, Sum.inl (str e))]) I (bs_str _ w7) ?_
        have I8 := I.alloc (((WJ.rs _ _ _ _ _ _ _).both (SJ.rs _ _ _)).both (OJ.rs _ _ _ _ _ _)) (.cells #[str e] 9) (.slice (some ⟨w7.heap.size, 0, none⟩) 1 1)
        obtain ⟨inf, hi1, hi2, hi3, hi4⟩ := hI9
        obtain ⟨v', w9, hr9, ho9, hg9⟩ := app_els Tryd.underlying52 hi1 hi2 hi3 hi4 rfl (by decide) (by decide) I8.hJ.2.own I8.hJ.2.le ⟨w7.heap.size, 0, none⟩ [str e] rfl (alloc_cell w7 #[str e] 9) (by intro u hu; rw [List.mem_singleton] at hu; subst hu; rfl) (by omega)
        rw [htke] at ho9
        obtain ⟨ad9, cap9, rfl⟩ := owns_slice ho9
        refine appQ (ss := [Sum.inl (.slice ade j cape), Sum.inl (.slice (some ⟨w7.heap.size, 0, none⟩) 1 1)]) I8 hr9 ?_
        have hkeep : WJ w g (mm + 1) (.slice ad i cap) X ts K' w9 ∧ SJ Kn (.slice (some ⟨gi, offi, none⟩) inn.length capi) inn w9 := ((WJ.rs _ _ _ _ _ _ _).both (SJ.rs _ _ _)).loc _ _ I8.hJ.1 ⟨hg9.gr.os, hg9.gr.tape, hg9.gr.output, hg9.gr.size, fun k hk hF => hg9.gr.block k hk fun e => by have h1 := hFlt k hF; have h2 := (I8.hJ.2.own.lt k e.symm).1; omega⟩
        have I9 : SI (fun w' => (WJ w g (mm + 1) (.slice ad i cap) X ts K' w' ∧ SJ Kn (.slice (some ⟨gi, offi, none⟩) inn.length capi) inn w') ∧ OJ wb.heap.size 9 1 (.slice ad9 (j + 1) cap9) (j + 1) ((EL.take (j + 1)).map str) w') (fun k => (WJF w g (.slice ad i cap) K' k ∨ Kn k) ∨ Value.ownBlock (.slice ad9 (j + 1) cap9) = some k) [] β7 _ _ w9 := I8.moved ⟨hg9.gr.os, hg9.gr.tape, hg9.gr.output, hg9.gr.size, fun k hk hn => hg9.gr.block k hk fun e => hn (.inr e.symm)⟩ ⟨hkeep, ho9, Nat.le_trans I8.hJ.2.le hg9.gr.size⟩ (fun k hk h => by
          rcases h with h | h
          · exact .inl h
          · rcases hg9.nb k h with h4 | h4
            · exact .inr h4
            · omega) (.slice ad9 (j + 1) cap9)
        refine goQ [bO .add 3 (run_addZ (x := j) (y := 1) (z := (j + 1 : Nat)) (by rw [wz (by omega) (by omega)]; omega))] (((WJ.rs _ _ _ _ _ _ _).both (SJ.rs _ _ _)).both (OJ.rs _ _ _ _ _ _)) I9 fun β10 a10 w10 I hb10 => ?_
        obtain ⟨u', Iu⟩ := I.scr (bodyL2 Tryd.f26) (scrF 169 tbK) (tbV (.slice (some ⟨gp, offp, none⟩) ps.length capp) s (.slice ad i cap) i m s2 (.slice (some ⟨gi, offi, none⟩) inn.length capi) (.slice ad9 (j + 1) cap9) (j + 1)) [(0, #[Z lf1])] 1
        exact endL ⟨m - (j + 1), by omega, j + 1, β10, u', ad9, cap9, rfl, hjm, agr hb10 0 hb70, Iu⟩
      · obtain ⟨p1, hp1, hEL1⟩ := hEL91 rfl
        have hje : inn[0]? = some e := by
          rw [hEL1] at he
          rw [List.eq_of_mem_replicate (List.mem_of_getElem? he), hp1]
          rfl
        have hjl : 0 < inn.length := (List.getElem?_eq_some_iff.1 hje).1
        obtain ⟨gi, offi, rfl, _, _⟩ := hmi 0 e hje
        have hldi : ∀ w', ((WJ w g (mm + 1) (.slice ad i cap) X ts K' w' ∧ SJ Kn (.slice (some ⟨gi, offi, none⟩) inn.length capi) inn w') ∧ OJ wb.heap.size 9 1 (.slice ade j cape) j ((EL.take j).map str) w') → (loadVar 9 ⟨gi, offi + 0 * 1, none⟩).run Tryd.prog w' = .ok (str e) w' := fun w' h => by
          obtain ⟨ad', cap', hv, hm'⟩ := h.1.2.sr
          cases hv
          obtain ⟨g', off', h1, _, hc'⟩ := hm' 0 e hje
          cases h1
          exact hc'.text
        have hld3 : ∀ w', ((WJ w g (mm + 1) (.slice ad i cap) X ts K' w' ∧ SJ Kn (.slice (some ⟨gi, offi, none⟩) inn.length capi) inn w') ∧ OJ wb.heap.size 9 1 (.slice ade j cape) j ((EL.take j).map str) w') → (loadVar 9 ⟨gp, offp + i * 1, none⟩).run Tryd.prog w' = .ok (str (91 :: gq)) w' := fun w' h => hld w' h.1.1.ro.gr
        refine goT (T := fun w' => (WJ w g (mm + 1) (.slice ad i cap) X ts K' w' ∧ SJ Kn (.slice (some ⟨gi, offi, none⟩) inn.length capi) inn w') ∧ OJ wb.heap.size 9 1 (.slice ade j cape) j ((EL.take j).map str) w') [bO .lss 3 (run_lssZ (x := j) (y := m) (b := true) (by simp; omega)), iA 52 Tryd.underlying52 (sz := 1) (by kernel_rfl) (g := gp) (off := offp) (n := ps.length) (cap := capp) hil, ldA 9 hld3, iO 9 (p := str (91 :: gq)) (i := Z (0 : Nat)) (v := .int .u8 (91 : UInt8).toNat) (idx_run rfl), bO .eql 5 (eqB_run (x := 91) (y := 40) (q := false) (by decide)), iA 52 Tryd.underlying52 (sz := 1) (by kernel_rfl) (g := gi) (off := offi) (n := inn.length) (cap := capi) (i := 0) hjl, ldA 9 hldi] (((WJ.rs _ _ _ _ _ _ _).both (SJ.rs _ _ _)).both (OJ.rs _ _ _ _ _ _)) (fun _ h => h) Ij fun β7 a7 w7 I hb7 => ?_
        have hb70 : β7 0 = g := agr hb7 0 hb6
        refine bslQ (ss := [(0, Sum.inl (str e))]) I (bs_str _ w7) ?_
        have I8 := I.alloc (((WJ.rs _ _ _ _ _ _ _).both (SJ.rs _ _ _)).both (OJ.rs _ _ _ _ _ _)) (.cells #[str e] 9) (.slice (some ⟨w7.heap.size, 0, none⟩) 1 1)
        obtain ⟨inf, hi1, hi2, hi3, hi4⟩ := hI9
        obtain ⟨v', w9, hr9, ho9, hg9⟩ := app_els Tryd.underlying52 hi1 hi2 hi3 hi4 rfl (by decide) (by decide) I8.hJ.2.own I8.hJ.2.le ⟨w7.heap.size, 0, none⟩ [str e] rfl (alloc_cell w7 #[str e] 9) (by intro u hu; rw [List.mem_singleton] at hu; subst hu; rfl) (by omega)
        rw [htke] at ho9
        obtain ⟨ad9, cap9, rfl⟩ := owns_slice ho9
        refine appQ (ss := [Sum.inl (.slice ade j cape), Sum.inl (.slice (some ⟨w7.heap.size, 0, none⟩) 1 1)]) I8 hr9 ?_
        have hkeep : WJ w g (mm + 1) (.slice ad i cap) X ts K' w9 ∧ SJ Kn (.slice (some ⟨gi, offi, none⟩) inn.length capi) inn w9 := ((WJ.rs _ _ _ _ _ _ _).both (SJ.rs _ _ _)).loc _ _ I8.hJ.1 ⟨hg9.gr.os, hg9.gr.tape, hg9.gr.output, hg9.gr.size, fun k hk hF => hg9.gr.block k hk fun e => by have h1 := hFlt k hF; have h2 := (I8.hJ.2.own.lt k e.symm).1; omega⟩
        have I9 : SI (fun w' => (WJ w g (mm + 1) (.slice ad i cap) X ts K' w' ∧ SJ Kn (.slice (some ⟨gi, offi, none⟩) inn.length capi) inn w') ∧ OJ wb.heap.size 9 1 (.slice ad9 (j + 1) cap9) (j + 1) ((EL.take (j + 1)).map str) w') (fun k => (WJF w g (.slice ad i cap) K' k ∨ Kn k) ∨ Value.ownBlock (.slice ad9 (j + 1) cap9) = some k) [] β7 _ _ w9 := I8.moved ⟨hg9.gr.os, hg9.gr.tape, hg9.gr.output, hg9.gr.size, fun k hk hn => hg9.gr.block k hk fun e => hn (.inr e.symm)⟩ ⟨hkeep, ho9, Nat.le_trans I8.hJ.2.le hg9.gr.size⟩ (fun k hk h => by
          rcases h with h | h
          · exact .inl h
          · rcases hg9.nb k h with h4 | h4
            · exact .inr h4
            · omega) (.slice ad9 (j + 1) cap9)
        refine goQ [bO .add 3 (run_addZ (x := j) (y := 1) (z := (j + 1 : Nat)) (by rw [wz (by omega) (by omega)]; omega))] (((WJ.rs _ _ _ _ _ _ _).both (SJ.rs _ _ _)).both (OJ.rs _ _ _ _ _ _)) I9 fun β10 a10 w10 I hb10 => ?_
        obtain ⟨u', Iu⟩ := I.scr (bodyL2 Tryd.f26) (scrF 169 tbK) (tbV (.slice (some ⟨gp, offp, none⟩) ps.length capp) s (.slice ad i cap) i m s2 (.slice (some ⟨gi, offi, none⟩) inn.length capi) (.slice ad9 (j + 1) cap9) (j + 1)) [(0, #[Z lf1])] 1
        exact endL ⟨m - (j + 1), by omega, j + 1, β10, u', ad9, cap9, rfl, hjm, agr hb10 0 hb70, Iu⟩
    · obtain rfl : j = m := by omega
      refine goQ [bO .lss 3 (run_lssZ (x := j) (y := j) (b := false) (by simp))] (((WJ.rs _ _ _ _ _ _ _).both (SJ.rs _ _ _)).both (OJ.rs _ _ _ _ _ _)) Ij fun β7 a7 w7 I hb7 => ?_
      refine endE 2 ?_
      refine goQ [] (((WJ.rs _ _ _ _ _ _ _).both (SJ.rs _ _ _)).both (OJ.rs _ _ _ _ _ _)) (I.exit _) fun β8 a8 w8 I hb8 => ?_
      have hb80 : β8 0 = g := agr hb8 0 (agr hb7 0 hb6)
      have hrow8 := I.rowG 0 hb80 (r := #[Z lf1])
      have hown8 := I.hJ.2.own
      rw [List.take_of_length_le (by omega)] at hown8
      have hgr8 := I.hJ.1.1.ro.gr
      have hSRe : SR (fun k => Value.ownBlock (.slice ade j cape) = some k) w8 (.slice ade j cape) EL := SR.own (b := wb.heap.size) (by rw [hELl]; exact hown8)
      have hcall := hrec mm rfl hrow8 hSRe (fun k hk => ⟨fun e => (by have := (hown8.lt k hk).1; omega), (hown8.lt k hk).2⟩) hELm (by omega) (show s2.length < 100000000 by omega) (show lf1 < 100000000 by omega)
      refine mcall (ss := [Sum.inl (.slice ade j cape), Sum.inl (str s2), Sum.inr (0, 0)]) Tryd.func26 I ?_
      have hargs : ([Sum.inl (.slice ade j cape), Sum.inl (str s2), Sum.inr (0, 0)].map (up β8)).toArray = #[.slice ade j cape, str s2, ptr0 g] := by simp only [List.map_cons, List.map_nil, up, hb80]
      rw [hargs]
      have hno : ¬ (64 < j ∨ ((b :: gq).head? = some 40 ∧ j ≠ (inr_ (b :: gq)).length)) := by
        rintro (h | ⟨h1, h2⟩)
        · omega
        · rw [hinr] at h2
          simp only [List.head?_cons, Option.some.injEq] at h1
          exact h2 (hm40 h1).symm
      rw [if_neg hno] at htk0
      refine hcall.mono fun e w9 he => ?_
      obtain ⟨hg9, he⟩ := he
      rcases he with ⟨hn, rfl⟩ | ⟨ts2, lf2, v2, K2, htk2, hl2, rfl, hr9, hK2, hL2⟩
      · have hN : tk1 (nilT (mm + 1)) (tkS (mm + 1)) s (b :: gq) i lf1 = none := by
          rw [htk0]
          show Option.map _ (tk mm (eachM (b :: gq) j) s2 lf1) = none
          rw [hEL, hn]
          rfl
        refine at_rows0.1 ?_
        refine goQ [uO .not (p := .bool false) (v := .bool true) (by intros; rfl)] (RO.rs w g 41 7 (.slice none 0 0) 0 []) (I.norow (J' := RO w g 41 7 (.slice none 0 0) 0 []) (F' := ROF w g (.slice none 0 0)) (w' := w9) ⟨hgr8.trans hg9, World.ownsRow_nil _ _ _ _⟩ (.tuple #[.slice none 0 0, .bool false])) fun β10 a10 w10 I hb10 => ?_
        exact endR (retV (v := .tuple #[.slice none 0 0, .bool false]) I ⟨I.hJ.gr, .inl ⟨hnone hN, rfl⟩⟩)
      · have hN : tk1 (nilT (mm + 1)) (tkS (mm + 1)) s (b :: gq) i lf1 = some ((2, 0, ⟨#[]⟩, ts2), lf2) := by
          rw [htk0]
          show Option.map _ (tk mm (eachM (b :: gq) j) s2 lf1) = _
          rw [hEL, htk2]
          rfl
        obtain ⟨adl, ml, capl, rfl⟩ := hL2.slice
        have hsz8 := hgr8.size
        have hownX := I.hJ.1.1.ro.own
        refine (at_row (id := 0) (r := #[Z lf2])).1 ?_
        have I9 : SI (fun w' => WJ w g (mm + 1) (.slice ad i cap) X ts K' w' ∧ LK K2 w8.heap.size (mm + 1) (.slice adl ml capl) ts2 w') (fun k => WJF w g (.slice ad i cap) K' k ∨ K2 k) [] β8 _ _ w9 := I.rowed (id := 0) (r0 := #[Z lf1]) (by kernel_rfl) ⟨hg9.os, hg9.tape, hg9.output, hg9.size, fun k hk hn => hg9.block k hk (by rw [← hb80]; exact hn.2)⟩ (by rw [hb80]; exact hr9) ⟨WJ.grow hlt I.hJ.1.1 hg9, hK2, hL2⟩ (fun k hk h => by
          rcases h with h | h
          · exact .inl (.inl h)
          · have := (hK2 k h).1; omega) (.tuple #[.slice adl ml capl, .bool true])
        refine goQ [uO .not (p := .bool true) (v := .bool false) (by intros; rfl), dO 41 [0, 3] (bd_lst2 adl ml capl)] ((WJ.rs _ _ _ _ _ _ _).both (LK.rs _ _ _ _ _)) I9 fun β10 a10 w10 I hb10 => ?_
        have hb100 : β10 0 = g := agr hb10 0 hb80
        refine app_term (n := mm + 1) (tm := ((2, 0, ⟨#[]⟩, ts2) : TT (mm + 1))) (K1 := K2) (lo := w8.heap.size) (adl := adl) (ml := ml) (capl := capl) I hXi (by omega) (fun k hk => ⟨by have := (hK2 k hk).1; omega, fun e => by have h1 := (hownX.lt k e).2; have h2 := (hK2 k hk).1; omega⟩) fun ad8 cap8 a11 w11 I => ?_
        refine goQ [bO .add 3 (run_addZ (x := i) (y := 1) hadd)] (WJ.rs _ _ _ _ _ _ _) I fun β12 a12 w12 I hb12 => ?_
        exact endL (hnext hN (by omega) (agr hb12 0 hb100) (by simp [hXi]) I (by kernel_rfl) (by kernel_rfl))
  rcases Nat.lt_or_ge 64 m with h64 | h64
  · refine goQ [bO .gtr 3 (run_gtrZ (x := m) (y := 64) (b := true) (decide_eq_true (by omega)))] ((WJ.rs _ _ _ _ _ _ _).both (SJ.rs _ _ _)) I2 fun β6 a6 w6 I hb6 => ?_
    exact endR (retV (v := .tuple #[.slice none 0 0, .bool false]) I ⟨I.hJ.1.ro.gr, .inl ⟨hnone (by rw [htk0, if_pos (.inl h64)]), rfl⟩⟩)
  rcases hbk with rfl | rfl
  · by_cases hml : m = inn.length
    · refine goT (T := fun w' => Grow (fun k => k ≠ g) w w') [bO .gtr 3 (run_gtrZ (x := m) (y := 64) (b := false) (decide_eq_false (by omega))), iA 52 Tryd.underlying52 (sz := 1) (by kernel_rfl) (g := gp) (off := offp) (n := ps.length) (cap := capp) hil, ldA 9 hld, iO 9 (p := str (40 :: gq)) (i := Z (0 : Nat)) (v := .int .u8 (40 : UInt8).toNat) (idx_run rfl), bO .eql 5 (eqB_run (x := 40) (y := 40) (q := true) (by decide)), lS Tryd.underlying52 (ad := adi) (n := inn.length) (cap := capi) rfl, bO .neq 3 (run_neqZ (x := m) (y := inn.length) (b := false) (by simp [hml]))] ((WJ.rs _ _ _ _ _ _ _).both (SJ.rs _ _ _)) (fun _ h => h.1.ro.gr) I2 fun β6 a6 w6 I hb6 => ?_
      exact fin h64 (fun _ => hml.symm) I (agr hb6 0 hb40) (by kernel_rfl) (by kernel_rfl) (by kernel_rfl)
    · refine goT (T := fun w' => Grow (fun k => k ≠ g) w w') [bO .gtr 3 (run_gtrZ (x := m) (y := 64) (b := false) (decide_eq_false (by omega))), iA 52 Tryd.underlying52 (sz := 1) (by kernel_rfl) (g := gp) (off := offp) (n := ps.length) (cap := capp) hil, ldA 9 hld, iO 9 (p := str (40 :: gq)) (i := Z (0 : Nat)) (v := .int .u8 (40 : UInt8).toNat) (idx_run rfl), bO .eql 5 (eqB_run (x := 40) (y := 40) (q := true) (by decide)), lS Tryd.underlying52 (ad := adi) (n := inn.length) (cap := capi) rfl, bO .neq 3 (run_neqZ (x := m) (y := inn.length) (b := true) (decide_eq_true (by omega)))] ((WJ.rs _ _ _ _ _ _ _).both (SJ.rs _ _ _)) (fun _ h => h.1.ro.gr) I2 fun β6 a6 w6 I hb6 => ?_
      exact endR (retV (v := .tuple #[.slice none 0 0, .bool false]) I ⟨I.hJ.1.ro.gr, .inl ⟨hnone (by rw [htk0, if_pos (.inr ⟨rfl, by rw [hinr]; exact hml⟩)]), rfl⟩⟩)
  · refine goT (T := fun w' => Grow (fun k => k ≠ g) w w') [bO .gtr 3 (run_gtrZ (x := m) (y := 64) (b := false) (decide_eq_false (by omega))), iA 52 Tryd.underlying52 (sz := 1) (by kernel_rfl) (g := gp) (off := offp) (n := ps.length) (cap := capp) hil, ldA 9 hld, iO 9 (p := str (91 :: gq)) (i := Z (0 : Nat)) (v := .int .u8 (91 : UInt8).toNat) (idx_run rfl), bO .eql 5 (eqB_run (x := 91) (y := 40) (q := false) (by decide))] ((WJ.rs _ _ _ _ _ _ _).both (SJ.rs _ _ _)) (fun _ h => h.1.ro.gr) I2 fun β6 a6 w6 I hb6 => ?_
    exact fin h64 (fun h => by cases h) I (agr hb6 0 hb40) (by kernel_rfl) (by kernel_rfl) (by kernel_rfl)
theorem takes_any (n : Nat) : n ≤ 8 → TakeC n := by
  induction n with
  | zero => exact fun h => take_of h fun m e => by cases e
  | succ n ih => exact fun h => take_of h fun m e => by cases e; exact ih (by omega)
end Go.Proofs.YtjjiendgmnlokaaDoor

/- The document's Decode; WordDoes walked. -/
namespace Go.Proofs.YtjjiendgmnlokaaDoor
open Go.RowKit Go.Sort
set_option linter.unusedVariables false
set_option maxRecDepth 100000
theorem run_quoZ {x y z : Int} (hy : y ≠ 0) (h : IntKind.i64.wrap (x.tdiv y) = z) (o1 o2 : Operand) (w : World) : (do eqGuard .quo 3 o1 o2 (Z x) (Z y); binOp .quo 3 (Z x) (Z y) : Sem Value).run Tryd.prog w = .ok (Z z) w := by
  simp [go_sem, h, hy]
theorem tkG_tot {n : Nat} (h1 : ∀ {q s : List UInt8} {i lf : Nat} {t : TT n} {lf' : Nat}, tk1 (nilT n) (tkS n) s q i lf = some (t, lf') → tot n t.2.2.2 + lf' = lf) : ∀ (ps : List (List UInt8)) {s : List UInt8} {i lf : Nat} {ts : List (TT n)} {lf' : Nat}, tkG (nilT n) (tkS n) s ps i lf = some (ts, lf') → sub_ n ts + lf' = lf
  | [], s, i, lf, ts, lf', h => by cases h; exact Nat.zero_add _
  | q :: ps, s, i, lf, ts, lf', h => by
    unfold tkG at h
    cases hx : tk1 (nilT n) (tkS n) s q i lf with
    | none => rw [hx] at h; cases h
    | some x =>
      obtain ⟨t, lf1⟩ := x
      rw [hx, Option.bind_some] at h
      cases hy : tkG (nilT n) (tkS n) s ps (i + 1) lf1 with
      | none => rw [hy] at h; cases h
      | some y =>
        obtain ⟨ts', lf2⟩ := y
        rw [hy] at h
        cases h
        have a1 := h1 hx
        have a2 := tkG_tot h1 ps hy
        show sub_ n (t :: ts') + lf2 = lf
        have hsb : sub_ n (t :: ts') = tot n t.2.2.2 + sub_ n ts' := by unfold sub_; rw [List.map_cons, List.sum_cons]
        omega
theorem tk1_tot {n : Nat} (hs : ∀ {ps : List (List UInt8)} {s : List UInt8} {lf : Nat} {x : TL n} {lf' : Nat}, tkS n ps s lf = some (x, lf') → tot n x + lf' = lf) {q s : List UInt8} {i lf : Nat} {t : TT n} {lf' : Nat} (h : tk1 (nilT n) (tkS n) s q i lf = some (t, lf')) : tot n t.2.2.2 + lf' = lf := by
  have nil0 : tot n (nilT n) = 0 := by cases n <;> rfl
  unfold tk1 at h
  split at h
  case isFalse => cases h
  split at h
  · cases h
    show tot n (nilT n) + lf = lf
    omega
  · cases hc : rdC s (32 * i) s.length with
    | none => rw [hc] at h; cases h
    | some p =>
      rw [hc, Option.bind_some] at h
      cases hd : rdC s p 16384 with
      | none => rw [hd] at h; cases h
      | some m =>
        rw [hd, Option.bind_some] at h
        split at h
        · split at h
          · cases h
            show tot n (nilT n) + lf = lf
            omega
          · cases h
        · split at h
          · cases h
          · cases hx : tkS n (eachM q m) (s.drop (p + 32)) lf with
            | none => rw [hx] at h; cases h
            | some x =>
              obtain ⟨x, lf1⟩ := x
              rw [hx] at h
              cases h
              exact hs hx
theorem tk_tot (n : Nat) : ∀ {ps : List (List UInt8)} {s : List UInt8} {lf : Nat} {ts : List (TT n)} {lf' : Nat}, tk n ps s lf = some (ts, lf') → tot (n + 1) ts + lf' ≤ lf + (ts.length - ps.length) := by
  have fin : ∀ {n : Nat}, (∀ {ps : List (List UInt8)} {s : List UInt8} {lf : Nat} {x : TL n} {lf' : Nat}, tkS n ps s lf = some (x, lf') → tot n x + lf' = lf) → ∀ {ps : List (List UInt8)} {s : List UInt8} {lf : Nat} {ts : List (TT n)} {lf' : Nat}, tk n ps s lf = some (ts, lf') → ts.length = ps.length ∧ tot (n + 1) ts + lf' = lf := by
    intro n hs ps s lf ts lf' h
    rw [tk_eq] at h
    split at h
    · cases h
    · next hle =>
      have h1 := tkG_tot (fun h => tk1_tot hs h) ps h
      have hl : ∀ (ps : List (List UInt8)) {i lf : Nat} {ts : List (TT n)} {lf' : Nat}, tkG (nilT n) (tkS n) s ps i lf = some (ts, lf') → ts.length = ps.length := by
        intro ps
        induction ps with
        | nil => intro i lf ts lf' h; cases h; rfl
        | cons q ps ih =>
          intro i lf ts lf' h
          unfold tkG at h
          cases hx : tk1 (nilT n) (tkS n) s q i lf with
          | none => rw [hx] at h; cases h
          | some x =>
            rw [hx, Option.bind_some] at h
            cases hy : tkG (nilT n) (tkS n) s ps (i + 1) x.2 with
            | none => rw [hy] at h; cases h
            | some y =>
              rw [hy] at h
              cases h
              have := ih hy
              show (x.1 :: y.1).length = _
              rw [List.length_cons, this, List.length_cons]
      have h2 := hl ps h
      have htot : tot (n + 1) ts = ts.length + sub_ n ts := rfl
      exact ⟨h2, by omega⟩
  have all : ∀ n, ∀ {ps : List (List UInt8)} {s : List UInt8} {lf : Nat} {x : TL n} {lf' : Nat}, tkS n ps s lf = some (x, lf') → tot n x + lf' = lf := by
    intro n
    induction n with
    | zero => intro ps s lf x lf' h; cases h
    | succ n ih => intro ps s lf x lf' h; exact (fin ih h).2
  intro ps s lf ts lf' h
  have := fin (all n) h
  omega
theorem tok_fit : ∀ (n : Nat) {sl : List (ST n)} {ts : List (TT n)}, fitR (fitS n) sl ts → tok (n + 1) ts := by
  have key : ∀ (n : Nat) {s : ST n} {t : TT n}, fitS n s t → t.2.2.1.size ≤ 20000 ∧ t.2.1 < W ∧ tok n t.2.2.2 := by
    intro n
    induction n with
    | zero =>
      intro s t h
      rcases h with ⟨_, _, h, h2, _⟩ | ⟨_, _, h, h2, _⟩ | h
      · exact ⟨by rw [h2]; exact Nat.zero_le _, h, trivial⟩
      · exact ⟨by omega, by rw [h]; decide, trivial⟩
      · exact h.elim
    | succ n ih =>
      intro s t h
      obtain ⟨k, u, x, l⟩ := t
      rcases h with ⟨_, _, h, h2, hl⟩ | ⟨_, _, h, h2, hl⟩ | ⟨_, _, h, h2, l', hi, hr⟩
      · simp only at hl h2
        subst hl h2
        exact ⟨Nat.zero_le _, h, fun t ht => by cases ht⟩
      · simp only at hl h2
        subst hl
        exact ⟨by show x.size ≤ 20000; omega, by rw [h]; decide, fun t ht => by cases ht⟩
      · simp only at h2
        subst h2
        obtain ⟨r1, r2⟩ := fitR_iff.1 hr
        refine ⟨Nat.zero_le _, by rw [h]; decide, fun t ht => ?_⟩
        obtain ⟨i, hit⟩ := List.mem_iff_getElem?.1 (show @Membership.mem (TT n) (List (TT n)) _ l t from ht)
        obtain ⟨s', hs'⟩ : ∃ s', l'[i]? = some s' := ⟨_, List.getElem?_eq_getElem (by rw [r1]; exact (List.getElem?_eq_some_iff.1 hit).1)⟩
        exact ih (r2 i s' t hs' hit)
  intro n sl ts hf t ht
  obtain ⟨r1, r2⟩ := fitR_iff.1 hf
  obtain ⟨i, hit⟩ := List.mem_iff_getElem?.1 (show @Membership.mem (TT n) (List (TT n)) _ ts t from ht)
  obtain ⟨s', hs'⟩ : ∃ s', sl[i]? = some s' := ⟨_, List.getElem?_eq_getElem (by rw [r1]; exact (List.getElem?_eq_some_iff.1 hit).1)⟩
  exact key n (r2 i s' t hs' hit)
theorem rdecode_any {f S : List UInt8} (hf : f.length ≤ 1000) (hS : S.length ≤ 20000) (w : World) :
    Calls Tryd.prog 11 #[str f, str S] w fun e w' => Below w.heap.size w w' ∧ ((∃ ts v K, rdecM f S = some ts ∧ e = .returned (.tuple #[v, Z 0]) ∧ (∀ k, K k → w.heap.size ≤ k ∧ k < w'.heap.size) ∧ LAf K w' 9 v ts) ∨ (rdecM f S = none ∧ e = .returned (.tuple #[.slice none 0 0, Z 2]))) := by
  have hsz := str_size S
  refine inQ (J := Below w.heap.size w) (F := (· < w.heap.size)) Tryd.func11 (Below.refl _ _) fun a I => ?_
  refine goQ [] (nonR w) I fun β a w1 I hb => ?_
  have hsz1 := I.hJ.size
  refine mcall (ss := [Sum.inl (str f)]) Tryd.func25 I ?_
  refine (parts_any f hf w1).mono fun e w2 he => ?_
  obtain ⟨hb2, h2⟩ := he
  rcases h2 with ⟨hn, rfl⟩ | ⟨ps, v, hps, rfl, ho⟩
  · refine goQ [uO .not (p := .bool false) (v := .bool true) (by intros; rfl)] (nonR w) (I.moved (Grow.of_below hb2) (I.hJ.trans (hb2.mono hsz1)) (fun _ _ h => h) (.tuple #[.slice none 0 0, .bool false])) fun β3 a w3 I hb3 => ?_
    exact outQ (v := .tuple #[.slice none 0 0, Z 2]) I ⟨I.hJ, .inr ⟨by unfold rdecM; rw [hn]; rfl, rfl⟩⟩
  obtain ⟨adp, capp, rfl⟩ := owns_slice ho
  obtain ⟨hfl, hpt⟩ := parts_inv hps
  have hpl : ∀ q ∈ ps, Pt 8 q ∧ q.length ≤ 1000 := fun q hq => ⟨hpt q hq, by have := flat_mem hq; rw [← hfl] at this; omega⟩
  have hplen : ps.length ≤ 1000 := by have := flat_len hpt; rw [← hfl] at this; omega
  have hR : rdecM f S = (tk 8 ps S (S.length / 32)).bind fun x => if enc 9 x.1 = S then some x.1 else none := by unfold rdecM; rw [hps]; rfl
  have I2 : SI (EO w 9 1 (.slice adp ps.length capp) ps.length (ps.map str)) (EF w (.slice adp ps.length capp)) [] β _ _ w2 := I.moved (Grow.of_below hb2) ⟨I.hJ.trans (hb2.mono hsz1), owns_base ho hsz1⟩ (fun k hk h => by
      rcases h with h | h
      · exact h
      · have := (ho.lt k h).1; omega) (.tuple #[.slice adp ps.length capp, .bool true])
  refine goQ [uO .not (p := .bool true) (v := .bool false) (by intros; rfl), lO Tryd.underlying9 (b := ⟨S.toArray⟩) (n := S.length) (by rw [hsz]), bO .quo 3 (run_quoZ (x := S.length) (y := 32) (z := (S.length / 32 : Nat)) (by decide) (by rw [Int.tdiv_eq_ediv_of_nonneg (by omega), wz (by omega) (by omega)]; omega))] (EO.rs _ _ _ _ _ _) I2 fun β3 a w3 I hb3 => ?_
  have hrow := I.rowAt 0 (r := #[Z (S.length / 32 : Nat)])
  have hd0 := I.disG 0 (r := #[Z (S.length / 32 : Nat)])
  have hown := I.hJ.own
  have hsz3 := I.hJ.bw.size
  have hg0 : w.heap.size ≤ β3 0 := Nat.le_of_not_lt fun h => hd0 (.inl h)
  have hcall := takes_any 8 (Nat.le_refl _) hrow (SR.own hown) (fun k hk => ⟨fun e => hd0 (.inr (e ▸ hk)), (hown.lt k hk).2⟩) hpl (by omega) (show S.length < 100000000 by omega) (show S.length / 32 < 100000000 by omega)
  refine mcall (ss := [Sum.inl (.slice adp ps.length capp), Sum.inl (str S), Sum.inr (0, 0)]) Tryd.func26 I ?_
  refine hcall.mono fun e w4 he => ?_
  obtain ⟨hg4, he⟩ := he
  have hbw4 : Below w.heap.size w w4 := ⟨hg4.os.trans I.hJ.bw.os, hg4.tape.trans I.hJ.bw.tape, hg4.output.trans I.hJ.bw.output, Nat.le_trans hsz3 hg4.size, fun k hk => (hg4.block k (Nat.lt_of_lt_of_le hk hsz3) (by omega)).trans (I.hJ.bw.block k hk)⟩
  rcases he with ⟨hn, rfl⟩ | ⟨ts, lf', v2, K2, htk, hl2, rfl, hr4, hK2, hL2⟩
  · refine at_rows0.1 ?_
    refine goQ [uO .not (p := .bool false) (v := .bool true) (by intros; rfl)] (nonR w) (I.norow (J' := Below w.heap.size w) (F' := (· < w.heap.size)) (w' := w4) hbw4 (.tuple #[.slice none 0 0, .bool false])) fun β5 a w5 I hb5 => ?_
    exact outQ (v := .tuple #[.slice none 0 0, Z 2]) I ⟨I.hJ, .inr ⟨by rw [hR, hn]; rfl, rfl⟩⟩
  rw [htk, Option.bind_some] at hR
  obtain ⟨adl, ml, capl, rfl⟩ := hL2.slice
  have hfitR := tk_fit 8 (Nat.le_refl _) hpt htk
  have hll := fitR_len hfitR
  rw [List.length_map] at hll
  have htot : tot 9 ts + lf' ≤ S.length / 32 + (ts.length - ps.length) := tk_tot 8 htk
  have hbound := enc_bound 9 ts (tok_fit 8 hfitR)
  have htot2 : tot 9 ts ≤ S.length / 32 := by omega
  have hE : ∀ w', (Below w.heap.size w w' ∧ LK K2 w.heap.size 9 (.slice adl ml capl) ts w') → Calls Tryd.prog 13 #[.slice adl ml capl] w' fun e w'' => e = .returned (str (enc 9 ts)) ∧ Below w'.heap.size w' w'' := fun w' h => renc_any 9 h.2.la.la (by omega) w' (Below.refl _ _)
  refine at_rows0.1 ?_
  have I4 := I.norow (J' := fun w' => Below w.heap.size w w' ∧ LK K2 w.heap.size 9 (.slice adl ml capl) ts w') (F' := fun k => k < w.heap.size ∨ K2 k) (w' := w4) ⟨hbw4, fun k hk => ⟨Nat.le_trans hsz3 (hK2 k hk).1, (hK2 k hk).2⟩, hL2⟩ (.tuple #[.slice adl ml capl, .bool true])
  by_cases heq : enc 9 ts = S
  · refine goT (T := fun w' => Below w.heap.size w w' ∧ LK K2 w.heap.size 9 (.slice adl ml capl) ts w') [uO .not (p := .bool true) (v := .bool false) (by intros; rfl), cA Tryd.func13 hE, bO .neq 9 (neqS_run (a := enc 9 ts) (b := S) (q := false) (by simp [heq]))] ((nonR w).both (LK.rs _ _ _ _ _)) (fun _ h => h) I4 fun β5 a w5 I hb5 => ?_
    exact outQ (v := .tuple #[.slice adl ml capl, Z 0]) I ⟨I.hJ.1, .inl ⟨ts, _, K2, by rw [hR, if_pos heq], rfl, I.hJ.2.kb, I.hJ.2.la⟩⟩
  · refine goT (T := fun w' => Below w.heap.size w w' ∧ LK K2 w.heap.size 9 (.slice adl ml capl) ts w') [uO .not (p := .bool true) (v := .bool false) (by intros; rfl), cA Tryd.func13 hE, bO .neq 9 (neqS_run (a := enc 9 ts) (b := S) (q := true) (by simp [heq]))] ((nonR w).both (LK.rs _ _ _ _ _)) (fun _ h => h) I4 fun β5 a w5 I hb5 => ?_
    exact outQ (v := .tuple #[.slice none 0 0, Z 2]) I ⟨I.hJ.1, .inr ⟨by rw [hR, if_neg heq], rfl⟩⟩
end Go.Proofs.YtjjiendgmnlokaaDoor

/- WordDoes walked. -/
namespace Go.Proofs.YtjjiendgmnlokaaDoor
open Go.RowKit Go.Sort
set_option linter.unusedVariables false
set_option maxRecDepth 100000
theorem does_walk {w : World} {va vb : Value} (ha : LR w 9 va) (hb : LR w 9 vb) (f S : List UInt8) : Calls Tryd.prog 3 #[va, vb, str f, str S] w fun e w' => e = .returned (.bool true) ∧ Below w.heap.size w w' := by
  have hsz := str_size f
  have hsS := str_size S
  refine inQ (J := Below w.heap.size w) (F := (· < w.heap.size)) Tryd.func3 (Below.refl _ _) fun a I => ?_
  refine goQ [] (nonR w) I fun β a w1 I hb1 => ?_
  refine bcall [Sum.inl va] Tryd.func8 (nonR w) I _ (few_up ha I.hJ) fun v' w2 hv I => ?_
  rcases hv with rfl | ⟨l, h1, h2, h3, rfl⟩
  · refine goQ [uO .not (p := .bool false) (v := .bool true) (by intros; rfl), kC Tryd.func9 awake_any] (nonR w) I fun β6 a6 w6 I hb6 => ?_
    exact outQ (v := .bool true) I ⟨rfl, I.hJ⟩
  refine goQ [uO .not (p := .bool true) (v := .bool false) (by intros; rfl)] (nonR w) I fun β3 a w3 I hb3 => ?_
  refine bcall [Sum.inl vb] Tryd.func8 (nonR w) I _ (few_up hb I.hJ) fun v' w4 hv I => ?_
  rcases hv with rfl | ⟨m, k1, k2, k3, rfl⟩
  · refine goQ [uO .not (p := .bool false) (v := .bool true) (by intros; rfl), kC Tryd.func9 awake_any] (nonR w) I fun β6 a6 w6 I hb6 => ?_
    exact outQ (v := .bool true) I ⟨rfl, I.hJ⟩
  have fl := fit_of 9 l h2 (by omega)
  have fm := fit_of 9 m k2 (by omega)
  have b1 := enc_bound 9 l h2
  rcases Nat.lt_or_ge 200 f.length with hf | hf
  · refine goQ [uO .not (p := .bool true) (v := .bool false) (by intros; rfl), lO Tryd.underlying9 (b := ⟨f.toArray⟩) (n := f.length) (by rw [hsz]), bO .gtr 3 (run_gtrZ (x := f.length) (y := 200) (b := true) (by simp; omega)), kC Tryd.func9 awake_any] (nonR w) I fun β6 a6 w6 I hb6 => ?_
    exact outQ (v := .bool true) I ⟨rfl, I.hJ⟩
  rcases Nat.lt_or_ge 20000 S.length with hS | hS
  · refine goQ [uO .not (p := .bool true) (v := .bool false) (by intros; rfl), lO Tryd.underlying9 (b := ⟨f.toArray⟩) (n := f.length) (by rw [hsz]), bO .gtr 3 (run_gtrZ (x := f.length) (y := 200) (b := false) (by simp; omega)), lO Tryd.underlying9 (b := ⟨S.toArray⟩) (n := S.length) (by rw [hsS]), bO .gtr 3 (run_gtrZ (x := S.length) (y := 20000) (b := true) (by simp; omega)), kC Tryd.func9 awake_any] (nonR w) I fun β6 a6 w6 I hb6 => ?_
    exact outQ (v := .bool true) I ⟨rfl, I.hJ⟩
  have hSW : S.length < W := Nat.lt_of_le_of_lt hS (by decide)
  have hRD := rdec_eq (f := f) hSW
  refine goQ [uO .not (p := .bool true) (v := .bool false) (by intros; rfl), lO Tryd.underlying9 (b := ⟨f.toArray⟩) (n := f.length) (by rw [hsz]), bO .gtr 3 (run_gtrZ (x := f.length) (y := 200) (b := false) (by simp; omega)), lO Tryd.underlying9 (b := ⟨S.toArray⟩) (n := S.length) (by rw [hsS]), bO .gtr 3 (run_gtrZ (x := S.length) (y := 20000) (b := false) (by simp; omega))] (nonR w) I fun β5 a w5 I hb5 => ?_
  have hsz5 := I.hJ.size
  refine mcall (ss := [Sum.inl (str f), Sum.inl (str S)]) Tryd.func10 I ?_
  refine (decode_any (by omega) (by omega) w5).mono fun e w6 he => ?_
  obtain ⟨hb6, he⟩ := he
  rcases he with ⟨ts, v1, K1, hd, rfl, hK1, hL1⟩ | ⟨hd, rfl⟩
  · obtain ⟨ad1, m1, cap1, rfl⟩ := hL1.slice
    obtain ⟨f9, e9⟩ := fit_dec (by omega) hd
    have I6 : SI (fun w' => Below w.heap.size w w' ∧ LK K1 w.heap.size 9 (.slice ad1 m1 cap1) ts w') (fun k => k < w.heap.size ∨ K1 k) [] β5 _ _ w6 := I.moved (Grow.of_below hb6) ⟨I.hJ.trans (hb6.mono hsz5), fun k hk => ⟨Nat.le_trans hsz5 (hK1 k hk).1, (hK1 k hk).2⟩, hL1⟩ (fun k hk h => by
      rcases h with h | h
      · exact h
      · have := (hK1 k h).1; omega) (.tuple #[.slice ad1 m1 cap1, Z 0])
    refine goQ [] ((nonR w).both (LK.rs _ _ _ _ _)) I6 fun β7 a w7 I hb7 => ?_
    have hsz7 := I.hJ.1.size
    refine mcall (ss := [Sum.inl (str f), Sum.inl (str S)]) Tryd.func11 I ?_
    refine (rdecode_any (by omega) hS w7).mono fun e w8 he => ?_
    obtain ⟨hb8, he⟩ := he
    rcases he with ⟨ts', v2, K2, hd2, rfl, hK2, hL2⟩ | ⟨hd2, rfl⟩
    case inr => rw [hRD, hd] at hd2; cases hd2
    rw [hRD, hd] at hd2
    cases hd2
    obtain ⟨ad2, m2, cap2, rfl⟩ := hL2.slice
    have I8 : SI (fun w' => (Below w.heap.size w w' ∧ LK K1 w.heap.size 9 (.slice ad1 m1 cap1) ts w') ∧ LK K2 w.heap.size 9 (.slice ad2 m2 cap2) ts w') (fun k => (k < w.heap.size ∨ K1 k) ∨ K2 k) [] β7 _ _ w8 := I.moved (Grow.of_below hb8) ⟨((nonR w).both (LK.rs _ _ _ _ _)).loc _ _ I.hJ (Grow.of_below hb8), fun k hk => ⟨Nat.le_trans hsz7 (hK2 k hk).1, (hK2 k hk).2⟩, hL2⟩ (fun k hk h => by
      rcases h with h | h
      · exact h
      · have := (hK2 k h).1; omega) (.tuple #[.slice ad2 m2 cap2, Z 0])
    have S0 : ∀ w', ((Below w.heap.size w w' ∧ LK K1 w.heap.size 9 (.slice ad1 m1 cap1) ts w') ∧ LK K2 w.heap.size 9 (.slice ad2 m2 cap2) ts w') → Calls Tryd.prog 14 #[.slice ad1 m1 cap1, .slice ad2 m2 cap2] w' fun e w'' => e = .returned (.bool true) ∧ Below w'.heap.size w' w'' := fun w' h => by
      have := rsame_any 9 h.1.2.la.la h.2.la.la f9 f9 w' (Below.refl _ _)
      have hq : same 9 ts ts = true := same_refl 9 ts
      rw [hq] at this
      exact this
    have I := I8
    have E1 : ∀ w', ((Below w.heap.size w w' ∧ LK K1 w.heap.size 9 (.slice ad1 m1 cap1) ts w') ∧ LK K2 w.heap.size 9 (.slice ad2 m2 cap2) ts w') → Calls Tryd.prog 12 #[va] w' fun e w'' => e = .returned (str (enc 9 l)) ∧ Below w'.heap.size w' w'' := fun w' h => encode_any 9 l (h1.below (h.1.1)) (by omega)
    have E2 : ∀ w', ((Below w.heap.size w w' ∧ LK K1 w.heap.size 9 (.slice ad1 m1 cap1) ts w') ∧ LK K2 w.heap.size 9 (.slice ad2 m2 cap2) ts w') → Calls Tryd.prog 13 #[va] w' fun e w'' => e = .returned (str (enc 9 l)) ∧ Below w'.heap.size w' w'' := fun w' h => renc_any 9 h1 (by omega) w' (h.1.1)
    have F1 : ∀ w', ((Below w.heap.size w w' ∧ LK K1 w.heap.size 9 (.slice ad1 m1 cap1) ts w') ∧ LK K2 w.heap.size 9 (.slice ad2 m2 cap2) ts w') → Calls Tryd.prog 15 #[str f, va] w' fun e w'' => e = .returned (.bool (fitsM 8 f l)) ∧ Below w'.heap.size w' w'' := fun w' h => wfits_any (by omega) h1 (fun t ht => fl.2 t ht) fl.1 w' (h.1.1)
    have F2 : ∀ w', ((Below w.heap.size w w' ∧ LK K1 w.heap.size 9 (.slice ad1 m1 cap1) ts w') ∧ LK K2 w.heap.size 9 (.slice ad2 m2 cap2) ts w') → Calls Tryd.prog 16 #[str f, va] w' fun e w'' => e = .returned (.bool (fitsM 8 f l)) ∧ Below w'.heap.size w' w'' := fun w' h => Fits_any 8 f (by omega) h1 (fun t ht => fl.2 t ht) fl.1 w' (h.1.1)
    have S1 : ∀ w', ((Below w.heap.size w w' ∧ LK K1 w.heap.size 9 (.slice ad1 m1 cap1) ts w') ∧ LK K2 w.heap.size 9 (.slice ad2 m2 cap2) ts w') → Calls Tryd.prog 17 #[va, vb] w' fun e w'' => e = .returned (.bool (same 9 l m)) ∧ Below w'.heap.size w' w'' := fun w' h => same_any 9 h1 k1 fl fm w' (h.1.1)
    have S2 : ∀ w', ((Below w.heap.size w w' ∧ LK K1 w.heap.size 9 (.slice ad1 m1 cap1) ts w') ∧ LK K2 w.heap.size 9 (.slice ad2 m2 cap2) ts w') → Calls Tryd.prog 14 #[va, vb] w' fun e w'' => e = .returned (.bool (same 9 l m)) ∧ Below w'.heap.size w' w'' := fun w' h => rsame_any 9 h1 k1 fl fm w' (h.1.1)
    have S3 : ∀ w', ((Below w.heap.size w w' ∧ LK K1 w.heap.size 9 (.slice ad1 m1 cap1) ts w') ∧ LK K2 w.heap.size 9 (.slice ad2 m2 cap2) ts w') → Calls Tryd.prog 17 #[va, va] w' fun e w'' => e = .returned (.bool true) ∧ Below w'.heap.size w' w'' := fun w' h => by
      have := same_any 9 h1 h1 fl fl w' (h.1.1)
      rw [same_refl] at this
      exact this
    refine goT (T := fun w' => ((Below w.heap.size w w' ∧ LK K1 w.heap.size 9 (.slice ad1 m1 cap1) ts w') ∧ LK K2 w.heap.size 9 (.slice ad2 m2 cap2) ts w')) [cA Tryd.func12 E1, cA Tryd.func13 E2, bO .eql 9 (eqS_run (a := enc 9 l) (b := enc 9 l) (q := true) (by simp)), cA Tryd.func14 S0, bO .eql 3 (run_eqlZ (x := 0) (y := 0) (b := true) (by decide)), cA Tryd.func15 F1, cA Tryd.func16 F2, bO .eql 4 (p := .bool (fitsM 8 f l)) (q := .bool (fitsM 8 f l)) (v := .bool true) (eqlB_run (fitsM 8 f l)), cA Tryd.func17 S1, cA Tryd.func14 S2, bO .eql 4 (p := .bool (same 9 l m)) (q := .bool (same 9 l m)) (v := .bool true) (eqlB_run (same 9 l m)), cA Tryd.func17 S3, kC Tryd.func9 awake_any] (((nonR w).both (LK.rs _ _ _ _ _)).both (LK.rs _ _ _ _ _)) (fun _ h => h) I fun β8 a8 w8 I hb8 => ?_
    exact outQ (v := .bool true) I ⟨rfl, I.hJ.1.1⟩
  · refine goQ [] (nonR w) (I.moved (Grow.of_below hb6) (I.hJ.trans (hb6.mono hsz5)) (fun _ _ h => h) (.tuple #[.slice none 0 0, Z 2])) fun β7 a w7 I hb7 => ?_
    have hsz7 := I.hJ.size
    refine mcall (ss := [Sum.inl (str f), Sum.inl (str S)]) Tryd.func11 I ?_
    refine (rdecode_any (by omega) hS w7).mono fun e w8 he => ?_
    obtain ⟨hb8, he⟩ := he
    rcases he with ⟨ts', v2, K2, hd2, rfl, hK2, hL2⟩ | ⟨hd2, rfl⟩
    case inl => rw [hRD, hd] at hd2; cases hd2
    have I8 : SI (Below w.heap.size w) (· < w.heap.size) [] β7 _ _ w8 := I.moved (Grow.of_below hb8) (I.hJ.trans (hb8.mono hsz7)) (fun _ _ h => h) (.tuple #[.slice none 0 0, Z 2])
    have S0 : ∀ w', Below w.heap.size w w' → Calls Tryd.prog 14 #[.slice none 0 0, .slice none 0 0] w' fun e w'' => e = .returned (.bool true) ∧ Below w'.heap.size w' w'' := fun w' h => by
      have hnil : LA w' 9 (.slice none 0 0) ([] : List (TT 8)) := ⟨none, 0, rfl, fun i t h => (by simp at h)⟩
      have hfit : fit 9 ([] : List (TT 8)) := ⟨show (0 : Nat) < 1000000000 by decide, fun t ht => (by cases ht)⟩
      have := rsame_any 9 hnil hnil hfit hfit w' (Below.refl _ _)
      have hq : same 9 ([] : List (TT 8)) ([] : List (TT 8)) = true := rfl
      rw [hq] at this
      exact this
    have I := I8
    have E1 : ∀ w', Below w.heap.size w w' → Calls Tryd.prog 12 #[va] w' fun e w'' => e = .returned (str (enc 9 l)) ∧ Below w'.heap.size w' w'' := fun w' h => encode_any 9 l (h1.below (h)) (by omega)
    have E2 : ∀ w', Below w.heap.size w w' → Calls Tryd.prog 13 #[va] w' fun e w'' => e = .returned (str (enc 9 l)) ∧ Below w'.heap.size w' w'' := fun w' h => renc_any 9 h1 (by omega) w' (h)
    have F1 : ∀ w', Below w.heap.size w w' → Calls Tryd.prog 15 #[str f, va] w' fun e w'' => e = .returned (.bool (fitsM 8 f l)) ∧ Below w'.heap.size w' w'' := fun w' h => wfits_any (by omega) h1 (fun t ht => fl.2 t ht) fl.1 w' (h)
    have F2 : ∀ w', Below w.heap.size w w' → Calls Tryd.prog 16 #[str f, va] w' fun e w'' => e = .returned (.bool (fitsM 8 f l)) ∧ Below w'.heap.size w' w'' := fun w' h => Fits_any 8 f (by omega) h1 (fun t ht => fl.2 t ht) fl.1 w' (h)
    have S1 : ∀ w', Below w.heap.size w w' → Calls Tryd.prog 17 #[va, vb] w' fun e w'' => e = .returned (.bool (same 9 l m)) ∧ Below w'.heap.size w' w'' := fun w' h => same_any 9 h1 k1 fl fm w' (h)
    have S2 : ∀ w', Below w.heap.size w w' → Calls Tryd.prog 14 #[va, vb] w' fun e w'' => e = .returned (.bool (same 9 l m)) ∧ Below w'.heap.size w' w'' := fun w' h => rsame_any 9 h1 k1 fl fm w' (h)
    have S3 : ∀ w', Below w.heap.size w w' → Calls Tryd.prog 17 #[va, va] w' fun e w'' => e = .returned (.bool true) ∧ Below w'.heap.size w' w'' := fun w' h => by
      have := same_any 9 h1 h1 fl fl w' (h)
      rw [same_refl] at this
      exact this
    refine goT (T := fun w' => Below w.heap.size w w') [cA Tryd.func12 E1, cA Tryd.func13 E2, bO .eql 9 (eqS_run (a := enc 9 l) (b := enc 9 l) (q := true) (by simp)), cA Tryd.func14 S0, bO .eql 3 (run_eqlZ (x := 2) (y := 2) (b := true) (by decide)), cA Tryd.func15 F1, cA Tryd.func16 F2, bO .eql 4 (p := .bool (fitsM 8 f l)) (q := .bool (fitsM 8 f l)) (v := .bool true) (eqlB_run (fitsM 8 f l)), cA Tryd.func17 S1, cA Tryd.func14 S2, bO .eql 4 (p := .bool (same 9 l m)) (q := .bool (same 9 l m)) (v := .bool true) (eqlB_run (same 9 l m)), cA Tryd.func17 S3, kC Tryd.func9 awake_any] (nonR w) (fun _ h => h) I fun β8 a8 w8 I hb8 => ?_
    exact outQ (v := .bool true) I ⟨rfl, I.hJ⟩
theorem does_any {w : World} {va vb : Value} (ha : LR w 9 va) (hb : LR w 9 vb) (f S : ByteArray) : Calls Tryd.prog 3 #[va, vb, .string f, .string S] w fun e w' => e = .returned (.bool true) ∧ Below w.heap.size w w' :=
  does_walk ha hb f.data.toList S.data.toList
end Go.Proofs.YtjjiendgmnlokaaDoor
