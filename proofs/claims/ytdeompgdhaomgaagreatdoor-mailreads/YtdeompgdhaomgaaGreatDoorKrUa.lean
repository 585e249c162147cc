/- Laid one behind the other: Ua, Ub, Ud. -/
import Derived.Test.YtdeompgdhaomgaaGreatDoorKrVo
namespace Go.Proofs.YtdeompgdhaomgaaGreatDoor
open Go.RowKit Go.Sort
set_option linter.unusedVariables false
set_option maxRecDepth 100000
abbrev Spt : Type := List (Nat × Option Value)
def spec (sp : Spt) (j : Nat) : Option (Option Value) := (sp.find? fun p => p.1 == j).map (·.2)
theorem spec_mem {sp : Spt} {j : Nat} {x : Option Value} (h : spec sp j = some x) : (j, x) ∈ sp := by
  unfold spec at h
  rw [Option.map_eq_some_iff] at h
  obtain ⟨p, h1, h2⟩ := h
  have h3 := List.find?_some h1
  have h4 := List.mem_of_find?_eq_some h1
  simp only [beq_iff_eq] at h3
  obtain ⟨p1, p2⟩ := p
  simp only at h2 h3
  subst h2 h3
  exact h4
theorem mem_spec {sp : Spt} {p : Nat × Option Value} (h : p ∈ sp) : ∃ x, spec sp p.1 = some x := by
  unfold spec
  cases hq : sp.find? fun q => q.1 == p.1 with
  | none =>
    have := List.find?_eq_none.1 hq p h
    simp at this
  | some q => exact ⟨q.2, rfl⟩
section
variable (P : Program) (T : World → Prop) (fo : Nat → Nat → Option Nat) (io : Nat → Int → Option Nat)
def goS (sp : Spt) (ops : Array Oper) (tm : Vs) (rows : Rows) : List Oper → Nat → Vs → List (Fa P T) → Option (Vs × List (Fa P T) × List (Value × Value))
  | [], _, vals, _ => some (vals, [], [])
  | o :: os, k, vals, fs => match spec sp k with
    | some x => (goS sp ops tm rows os (k + 1) (vals ++ [x.map Sum.inl]) fs).map fun r => (r.1, Sum.inl () :: r.2.1, r.2.2)
    | none => match qop P T fo io ops tm rows vals k o (Sum.inl ()) with
      | some (s, e) => (goS sp ops tm rows os (k + 1) (vals ++ [s]) fs).map fun r => (r.1, Sum.inl () :: r.2.1, e ++ r.2.2)
      | none => match fs with
        | [] => none
        | f :: fs' => match qop P T fo io ops tm rows vals k o f with
          | some (s, e) => (goS sp ops tm rows os (k + 1) (vals ++ [s]) fs').map fun r => (r.1, f :: r.2.1, e ++ r.2.2)
          | none => none
end
def tmS (ops : Array Oper) (sp : Spt) (tm vals : Vs) (vs : Nat → Value) : Vs := (List.range tm.length).map fun t => match wr ops t with
  | some j => (match spec sp j with
    | some _ => some (Sum.inl (vs j))
    | none => (vals[j]?).join)
  | none => (tm[t]?).join
theorem ids_tmS {ops : Array Oper} {sp : Spt} {tm vals : Vs} {vs : Nat → Value} {nx : Nat} (h : idsB (tmS ops sp tm vals fun _ => undef) nx = true) : idsB (tmS ops sp tm vals vs) nx = true := by
  unfold idsB tmS at h ⊢
  rw [List.all_map, List.all_eq_true] at h ⊢
  intro t ht
  have := h t ht
  simp only [Function.comp] at this ⊢
  cases hw : wr ops t with
  | none => rw [hw] at this; exact this
  | some j =>
    rw [hw] at this
    simp only at this ⊢
    cases hs : spec sp j with
    | none => rw [hs] at this; exact this
    | some x => rfl
section
variable {P : Program} {T : World → Prop} {fo : Nat → Nat → Option Nat} {io : Nat → Int → Option Nat} {ze : Nat → Option (Array Value)} {ops : Array Oper} {tm : Vs} {rows : Rows} {sp : Spt}
theorem goS_spec : ∀ {os : List Oper} {k : Nat} {v0 vals : Vs} {fs us : List (Fa P T)} {e : List (Value × Value)}, v0.length = k → goS P T fo io sp ops tm rows os k v0 fs = some (vals, us, e) → (∀ p ∈ e, p.1 = p.2) →
    vals.length = k + os.length ∧ vals.take k = v0 ∧ ∀ j o, os[j]? = some o → (∀ x, spec sp (k + j) = some x → vals[k + j]? = some (x.map Sum.inl)) ∧ (spec sp (k + j) = none → ∃ f s e', qop P T fo io ops tm rows (vals.take (k + j)) (k + j) o f = some (s, e') ∧ (∀ p ∈ e', p.1 = p.2) ∧ vals[k + j]? = some s)
  | [], k, v0, vals, fs, us, e, hk, h, he => by
    simp only [goS, Option.some.injEq, Prod.mk.injEq] at h
    obtain ⟨rfl, rfl, rfl⟩ := h
    exact ⟨by simp [hk], by rw [← hk, List.take_length], fun j o ho => by simp at ho⟩
  | o :: os, k, v0, vals, fs, us, e, hk, h, he => by
    have main : ∀ {s : Option SV} {e1 : List (Value × Value)} {fs' us' : List (Fa P T)} {e2 : List (Value × Value)}, ((∀ x, spec sp k = some x → s = x.map Sum.inl) ∧ (spec sp k = none → ∃ f, qop P T fo io ops tm rows v0 k o f = some (s, e1))) → goS P T fo io sp ops tm rows os (k + 1) (v0 ++ [s]) fs' = some (vals, us', e2) → e = e1 ++ e2 →
        vals.length = k + (o :: os).length ∧ vals.take k = v0 ∧ ∀ j o', (o :: os)[j]? = some o' → (∀ x, spec sp (k + j) = some x → vals[k + j]? = some (x.map Sum.inl)) ∧ (spec sp (k + j) = none → ∃ f s e', qop P T fo io ops tm rows (vals.take (k + j)) (k + j) o' f = some (s, e') ∧ (∀ p ∈ e', p.1 = p.2) ∧ vals[k + j]? = some s) := by
      intro s e1 fs' us' e2 hq hg hee
      subst hee
      obtain ⟨h1, h2, h3⟩ := goS_spec (by simp [hk]) hg fun p hp => he p (List.mem_append_right _ hp)
      have ht : vals.take k = v0 := by
        have := congrArg (List.take k) h2
        rw [List.take_take, Nat.min_eq_left (Nat.le_succ k), List.take_append_of_le_length (by omega), ← hk, List.take_length] at this
        rw [← hk]; exact this
      have hvk : vals[k]? = some s := by
        have := congrArg (·[k]?) h2
        simp only [List.getElem?_take, Nat.lt_succ_self, if_true] at this
        rw [this]
        simp [hk]
      refine ⟨by simp only [List.length_cons]; omega, ht, fun j o' ho => ?_⟩
      cases j with
      | zero =>
        simp only [List.getElem?_cons_zero, Option.some.injEq] at ho
        subst ho
        rw [Nat.add_zero]
        refine ⟨fun x hx => by rw [hvk, hq.1 x hx], fun hn => ?_⟩
        obtain ⟨f, hf⟩ := hq.2 hn
        exact ⟨f, s, e1, by rw [ht]; exact hf, fun p hp => he p (List.mem_append_left _ hp), hvk⟩
      | succ j =>
        have := h3 j o' (by simpa using ho)
        rw [show k + (j + 1) = k + 1 + j by omega]
        exact this
    simp only [goS] at h
    split at h
    · next x hx =>
      simp only [Option.map_eq_some_iff, Prod.mk.injEq] at h
      obtain ⟨⟨v, u, e2⟩, hg, rfl, rfl, rfl⟩ := h
      exact main (e1 := []) ⟨fun y hy => (by rw [hx] at hy; cases hy; rfl), fun hn => (by rw [hx] at hn; cases hn)⟩ hg rfl
    · next hx =>
      split at h
      · next s e1 hq =>
        simp only [Option.map_eq_some_iff, Prod.mk.injEq] at h
        obtain ⟨⟨v, u, e2⟩, hg, rfl, rfl, rfl⟩ := h
        exact main ⟨fun y hy => (by rw [hx] at hy; cases hy), fun _ => ⟨_, hq⟩⟩ hg rfl
      · split at h
        · cases h
        · next f fs' =>
          split at h
          · next s e1 hq =>
            simp only [Option.map_eq_some_iff, Prod.mk.injEq] at h
            obtain ⟨⟨v, u, e2⟩, hg, rfl, rfl, rfl⟩ := h
            exact main ⟨fun y hy => (by rw [hx] at hy; cases hy), fun _ => ⟨_, hq⟩⟩ hg rfl
          · cases h
/-- What is known of what is done. -/
structure DS (ops : Array Oper) (sp : Spt) (β : Nat → Nat) (vals : Vs) (V : Nat → Value → World → Prop) (w : World) (listed : Array Bool) (vs : Nat → Value) (w' : World) : Prop where
  bw : Below w.heap.size w w'
  wt : ∀ j k, waitsB ops k j = true → listed.getD k false = true → listed.getD j false = true
  rk : ∀ j, listed.getD j false = true → spec sp j = none → vs j = upO β (vals[j]?).join
  sv : ∀ j x, listed.getD j false = true → spec sp j = some x → V j (vs j) w' ∧ ∀ u, x = some u → vs j = u
theorem DS.val {β : Nat → Nat} {vals : Vs} {V : Nat → Value → World → Prop} {w w' : World} {listed : Array Bool} {vs : Nat → Value} (D : DS ops sp β vals V w listed vs w') (hs : ∀ j x, spec sp j = some x → j < ops.size → vals[j]? = some (x.map Sum.inl)) {j : Nat} (hj : j < ops.size) (hl : listed.getD j false = true) {s : SV} (h : (vals[j]?).join = some s) : vs j = up β s := by
  cases hq : spec sp j with
  | none => rw [D.rk j hl hq, h]; rfl
  | some x =>
    have h1 := hs j x hq hj
    rw [h1] at h
    cases x with
    | none => cases h
    | some u =>
      simp only [Option.map_some, Option.join_some, Option.some.injEq] at h
      subst h
      exact (D.sv j _ hl hq).2 u rfl
theorem evF_ok {β : Nat → Nat} {vals : Vs} {V : Nat → Value → World → Prop} {w w' : World} {a a' : Act} {listed : Array Bool} {vs : Nat → Value} (D : DS ops sp β vals V w listed vs w') (hsv : ∀ j x, spec sp j = some x → j < ops.size → vals[j]? = some (x.map Sum.inl)) (hF : Frm ops vs a listed a') (ha : a.tmps = (tm.map (upO β)).toArray) {i : Nat} (hs : listed.size = ops.size) (hi : i ∈ Region.ready .any ops listed) {x : Operand} {s : SV} (h : evS ops tm (vals.take i) i x = some s) : a'.eval x = up β s := by
  have hun := undone hi hs
  cases x with
  | const v => simp only [evS, Option.some.injEq] at h; subst h; rfl
  | tmp t =>
    simp only [evS] at h
    cases hw : wr ops t with
    | none => rw [hw] at h; rw [hF.old hw]; exact tm_get ha h
    | some j =>
      rw [hw] at h
      simp only [] at h
      by_cases hn : newB ops tm.length i t j = true
      · rw [if_pos hn] at h
        simp only [newB, Bool.and_eq_true, beq_iff_eq, decide_eq_true_eq] at hn
        have hl := waits_done hn.1.2 hi
        have h2 := join_some h
        rw [List.getElem?_take] at h2
        split at h2
        · next hlt =>
          rw [hF.new hw (by rw [ha]; simpa using hn.2) hl]
          exact D.val hsv (wr_dst hw).2 hl (by rw [h2]; rfl)
        · cases h2
      · rw [if_neg hn] at h
        by_cases hq : waitsB ops j i = true
        · rw [if_pos hq] at h
          have hnl : ¬ listed.getD j false = true := fun hl => hun (D.wt i j hq hl)
          rw [← tm_get ha h]
          show a'.tmps.getD t undef = a.tmps.getD t undef
          rw [Array.getD_eq_getD_getElem?, Array.getD_eq_getD_getElem?]
          by_cases ht : t < a.tmps.size
          · rw [hF.2.2 t ht, hw]
            simp only [if_neg hnl]
          · have h1 : a.tmps.size ≤ t := Nat.le_of_not_lt ht
            have h2 : a'.tmps.size ≤ t := by rw [hF.2.1]; exact h1
            rw [Array.getElem?_eq_none h2, Array.getElem?_eq_none h1]
        · rw [if_neg hq] at h; cases h
  | global g => simp [evS] at h
  | func f => simp [evS] at h
theorem wantS_ok {β : Nat → Nat} {vals : Vs} {V : Nat → Value → World → Prop} {w w' : World} {a a' : Act} {listed : Array Bool} {vs : Nat → Value} (D : DS ops sp β vals V w listed vs w') (hsv : ∀ j x, spec sp j = some x → j < ops.size → vals[j]? = some (x.map Sum.inl)) (hF : Frm ops vs a listed a') {i : Nat} {o : Oper} (hB : onceG ops = true) (hdl : ∀ t j, wr ops t = some j → t < a.tmps.size) (hi : i ∈ Region.ready .any ops listed) {b : Bool} (hgs : ∀ j b, o.guard = some (j, b) → spec sp j = none) (h : wantD ops (vals.take i) i o = some b) : Region.wanted o (yielded ops a'.tmps) = b := by
  unfold wantD at h
  unfold Region.wanted
  split at h
  · next hg => rw [hg]; cases h; rfl
  · next j b' hg =>
    rw [hg]
    simp only []
    split at h
    · next hj =>
      obtain ⟨hw, hd⟩ := hj
      obtain ⟨t, ht⟩ := Option.isSome_iff_exists.1 hd
      obtain ⟨oj, hoj, hojd⟩ : ∃ oj, ops[j]? = some oj ∧ oj.dst = some t := by
        cases hq : ops[j]? with
        | none => rw [hq] at ht; cases ht
        | some oj => rw [hq] at ht; exact ⟨oj, rfl, ht⟩
      have hwr := onceG_spec hB hoj t hojd
      have hl := waits_done hw hi
      have ey : ∀ s, (vals.take i)[j]? = some s → yielded ops a'.tmps j = (match upO β s with | .bool q => some q | _ => none) := by
        intro s hs
        rw [List.getElem?_take] at hs
        split at hs
        · next hlt =>
          have h3 : a'.tmps[t]? = some (vs j) := by
            rw [hF.2.2 t (hdl t j hwr), hwr]
            simp only [if_pos hl]
          rw [D.rk j hl (hgs j b' hg), hs] at h3
          unfold yielded
          rw [ht]
          simp only [Option.bind_some]
          rw [h3]
          simp only [Option.join_some]
          cases upO β s <;> rfl
        · cases hs
      split at h
      · next q hq => rw [ey _ hq]; cases h; cases q <;> cases b' <;> rfl
      · next hq => rw [ey _ hq]; cases h; cases b' <;> rfl
      · cases h
    · cases h
def gsB (ops : Array Oper) (sp : Spt) : Bool := ops.all fun o => match o.guard with | some (j, _) => (spec sp j).isNone | none => true
theorem drawS {J : World → Prop} {F : Nat → Prop} {ds : List Deferred} {β : Nat → Nat} {c : Cf} {a : Act} {w : World} {Q : Exit → Act → World → Prop} (Y : Ty P fo io ze) (R : Rsrc J F) (hT : ∀ w, J w → T w) {ks : List Ki} {fs us : List (Fa P T)} {vals : Vs} {e : List (Value × Value)} (V : Nat → Value → World → Prop) (hV : ∀ i v w w', V i v w → Below w.heap.size w w' → V i v w')
    (hc : drQ c = some (ops, ks)) (hg : goS P T fo io sp ops c.tm c.rows ops.toList 0 [] fs = some (vals, us, e)) (he : ∀ p ∈ e, p.1 = p.2) (hb : backB2 ops = true) (hB : onceG ops = true) (hgs : gsB ops sp = true) (hds : dstB ops c.tm.length = true)
    (hids : idsB (tmS ops sp c.tm vals fun _ => undef) c.nx = true) (I : SI J F ds β c a w)
    (hsp : ∀ i x o, spec sp i = some x → ops[i]? = some o → ∀ listed vs a' w', Frm ops vs a listed a' → i ∈ Region.ready .any ops listed → Below w.heap.size w w' → (∀ q ∈ sp, listed.getD q.1 false = true → V q.1 (vs q.1) w') → (∀ x s, evS ops c.tm (vals.take i) i x = some s → a'.eval x = up β s) →
      wpG ops o P a' w' (fun a'' w'' => ∃ v, a'' = a'.put o.dst v ∧ (∀ u, x = some u → v = u) ∧ V i v w'' ∧ Below w'.heap.size w' w'') (QK P Q ks))
    (k : ∀ vs a' w', (∀ q ∈ sp, q.1 < ops.size → V q.1 (vs q.1) w') → SI J F ds β { ops := #[], rest := [], ks := ks, tm := tmS ops sp c.tm vals vs, rows := c.rows, nx := c.nx, dn := none } a' w' → At P Q { ops := #[], rest := [], ks := ks, tm := tmS ops sp c.tm vals vs, rows := c.rows, nx := c.nx, dn := none } a' w') : At P Q c a w := by
  obtain ⟨hvl, _, hspec⟩ := goS_spec (k := 0) (v0 := []) rfl hg he
  have htm : a.tmps.size = c.tm.length := by rw [I.fr]; simp
  have dl : ∀ t j, wr ops t = some j → t < a.tmps.size := fun t j h => by rw [htm]; exact dstB_ok hds h
  have hsv : ∀ j x, spec sp j = some x → j < ops.size → vals[j]? = some (x.map Sum.inl) := fun j x hx hj => by
    have := (hspec j ops[j] (by simp [hj])).1 x (by rw [Nat.zero_add]; exact hx)
    rwa [Nat.zero_add] at this
  refine at_reg Y.hm hc ?_
  refine regV_vals3 hb hB (fun listed vs w' => DS ops sp β vals V w listed vs w') ?_ ?_ ?_
  · intro w1 h1
    have hf : ∀ j, ¬ (Array.replicate ops.size false).getD j false = true := fun j h => by
      rw [Array.getD_eq_getD_getElem?, Array.getElem?_replicate] at h
      split at h <;> simp at h
    refine ⟨?_, fun j k _ h => absurd h (hf k), fun j h => absurd h (hf j), fun j x h => absurd h (hf j)⟩
    rcases h1 with rfl | rfl
    · exact Below.refl _ _
    · exact ⟨rfl, rfl, rfl, Nat.le_refl _, fun _ _ => rfl⟩
  · intro listed vs a' w' i o hs ho hi hF D
    have hun := undone hi hs
    have hio : i < ops.size := (Array.getElem?_eq_some_iff.1 ho).1
    have hev : ∀ x s, evS ops c.tm (vals.take i) i x = some s → a'.eval x = up β s := fun x s h => evF_ok D hsv hF I.fr hs hi h
    have wt' : ∀ j k, waitsB ops k j = true → (listed.setIfInBounds i true).getD k false = true → (listed.setIfInBounds i true).getD j false = true := fun j k hw hk => by
      rcases done_set hk with rfl | hk
      · exact done_keep (waits_done hw hi)
      · exact done_keep (D.wt j k hw hk)
    cases hsi : spec sp i with
    | some x =>
      refine wpG_mono (fun a'' w'' h => ?_) (hsp i x o hsi ho listed vs a' w' hF hi D.bw (fun q hq hl => by
        obtain ⟨y, hy⟩ := mem_spec hq
        exact (D.sv q.1 y hl hy).1) hev)
      obtain ⟨v, rfl, h1, h2, h3⟩ := h
      refine ⟨v, rfl, D.bw.trans (h3.mono D.bw.size), wt', fun j hj hn => ?_, fun j y hj hy => ?_⟩
      · have hji : j ≠ i := fun e => by rw [e, hsi] at hn; cases hn
        simp only [if_neg hji]
        exact D.rk j ((done_set hj).resolve_left hji) hn
      · by_cases hji : j = i
        · subst hji
          rw [hsi] at hy
          cases hy
          simp only [if_true]
          exact ⟨h2, h1⟩
        · simp only [if_neg hji]
          obtain ⟨a1, a2⟩ := D.sv j y ((done_set hj).resolve_left hji) hy
          exact ⟨hV j _ _ _ a1 h3, a2⟩
    | none =>
      obtain ⟨f, s, e', hq, he', hvi⟩ := (hspec i o (by simpa using ho)).2 (by rw [Nat.zero_add]; exact hsi)
      rw [Nat.zero_add] at hq hvi
      have next : ∀ v w2, v = upO β s → Below w'.heap.size w' w2 → ∃ v', a'.put o.dst v = a'.put o.dst v' ∧ DS ops sp β vals V w (listed.setIfInBounds i true) (fun j => if j = i then v' else vs j) w2 := by
        intro v w2 hv hb2
        refine ⟨v, rfl, D.bw.trans (hb2.mono D.bw.size), wt', fun j hj hn => ?_, fun j y hj hy => ?_⟩
        · by_cases hji : j = i
          · subst hji
            simp only [if_true]
            rw [hvi, hv]; rfl
          · simp only [if_neg hji]
            exact D.rk j ((done_set hj).resolve_left hji) hn
        · have hji : j ≠ i := fun e => by rw [e, hsi] at hy; cases hy
          simp only [if_neg hji]
          obtain ⟨a1, a2⟩ := D.sv j y ((done_set hj).resolve_left hji) hy
          exact ⟨hV j _ _ _ a1 hb2, a2⟩
      have hgo : ∀ j b, o.guard = some (j, b) → spec sp j = none := fun j b hg => by
        unfold gsB at hgs
        have := Array.all_eq_true.1 hgs i hio
        rw [Array.getElem?_eq_some_iff] at ho
        obtain ⟨_, ho⟩ := ho
        rw [ho, hg] at this
        simpa using this
      unfold qop at hq
      split at hq
      · next hw =>
        cases hq
        have hnw := wantS_ok D hsv hF hB dl hi hgo hw
        unfold wpG
        rw [hnw]
        simp only [Bool.false_eq_true, if_false]
        exact next undef w' rfl (Below.refl _ _)
      · cases hq
      · next hw =>
        have hnw := wantS_ok D hsv hF hB dl hi hgo hw
        unfold wpG
        rw [hnw]
        simp only [if_true]
        have hJ' : J w' := R.loc w w' I.hJ (Grow.of_below D.bw)
        have hevL : ∀ {xs : List Operand} {us : List Value}, (xs.mapM fun x => plain (evS ops c.tm (vals.take i) i x)) = some us → xs.map a'.eval = us := by
          intro xs
          induction xs with
          | nil => intro us h; simp at h; subst h; rfl
          | cons x xs ih =>
            intro us h
            rw [List.mapM_cons] at h
            cases h1 : plain (evS ops c.tm (vals.take i) i x) with
            | none => rw [h1] at h; simp at h
            | some v =>
              cases h2 : (xs.mapM fun x => plain (evS ops c.tm (vals.take i) i x)) with
              | none => rw [h1, h2] at h; simp at h
              | some us' =>
                rw [h1, h2] at h
                simp at h
                subst h
                rw [List.map_cons, ih h2, hev _ _ (plain_some h1)]
                rfl
        split at hq
        · simp only [Option.map_eq_some_iff, Prod.mk.injEq] at hq
          obtain ⟨sv, hn, rfl, rfl⟩ := hq
          exact natG_ok Y hev (fun id r h => (I.row _ (rowOf_mem h)).below D.bw) hn fun w2 hb2 => next _ w2 rfl hb2
        · next f =>
          split at hq
          · next g xs ts hop =>
            split at hq
            · next hfg =>
              subst hfg
              simp only [Option.map_eq_some_iff, Prod.mk.injEq] at hq
              obtain ⟨us', hm2, rfl, rfl⟩ := hq
              have h1 := hevL hm2
              have h2 := he' _ (List.mem_singleton.2 rfl)
              simp only [Value.tuple.injEq] at h2
              refine Oper.wp_mono ?_ (ob_fcall f.f xs ts hop (vs := f.args) ?_ (f.hr xs ts) (f.hc w' (hT w' hJ')))
              · rintro a2 w2 ⟨rfl, hb2⟩
                exact next _ w2 rfl hb2
              · rw [← h2, ← h1]
                apply Array.ext'
                simp
            · cases hq
          · cases hq
        · next f =>
          split at hq
          · next hok =>
            simp only [Option.map_eq_some_iff, Prod.mk.injEq] at hq
            obtain ⟨us', hm2, rfl, rfl⟩ := hq
            have h1 := hevL hm2
            have h2 := he' _ (List.mem_singleton.2 rfl)
            simp only [Value.tuple.injEq] at h2
            exact wp_of_run (f.h a' w' o (.inr (hT w' hJ')) hok (by rw [h1, h2])) (next _ w' rfl (Below.refl _ _))
          · cases hq
  · intro listed vs a' w' hd hF D
    have hfr : a'.tmps = ((tmS ops sp c.tm vals vs).map (upO β)).toArray := by
      apply Array.ext_getElem?
      intro t
      by_cases ht : t < a.tmps.size
      · have ht' : t < c.tm.length := by omega
        rw [hF.2.2 t ht]
        have e0 : a.tmps[t]? = some (upO β (c.tm[t]?).join) := by
          rw [I.fr]
          simp [List.getElem?_eq_getElem ht']
        simp only [List.getElem?_toArray, tmS, List.getElem?_map, List.getElem?_range ht', Option.map_some]
        cases hw : wr ops t with
        | none => exact e0
        | some j =>
          have hj := (wr_dst hw).2
          simp only []
          rw [if_pos (hd j hj)]
          cases hs : spec sp j with
          | none => simp only []; rw [D.rk j (hd j hj) hs]
          | some x => rfl
      · rw [Array.getElem?_eq_none (by have := hF.2.1; omega), Array.getElem?_eq_none (by simp [tmS]; omega)]
    have := (k vs a' w' (fun q hq hl => by
      obtain ⟨y, hy⟩ := mem_spec hq
      exact (D.sv q.1 y (hd q.1 hl) hy).1) ⟨hfr, hF.1.trans I.df, R.loc w w' I.hJ (Grow.of_below D.bw), fun p hp => (I.row p hp).below D.bw, I.dis, I.lt, I.inj, ids_tmS hids⟩).out
    exact this
end
section
variable {P : Program} {J : World → Prop} {F : Nat → Prop} {ds : List Deferred} {β : Nat → Nat} {c : Cf} {a : Act} {w : World} {Q : Exit → Act → World → Prop}
abbrev opsD (c : Cf) : Array Oper := ((drQ c).map (·.1)).getD #[]
abbrev ksD (c : Cf) : List Ki := ((drQ c).map (·.2)).getD []
def dsX (P : Program) {T : World → Prop} (sp : Spt) (fs : List (Fa P T)) (c : Cf) : Option (Vs × List (Value × Value)) :=
  match drQ c with
  | some (ops, ks) => match goS P T (foV P) (ioV P) sp ops c.tm c.rows ops.toList 0 [] fs with
    | some (vals, us, e) => if (backB2 ops && onceG ops && gsB ops sp && dstB ops c.tm.length && idsB (tmS ops sp c.tm vals fun _ => undef) c.nx) = true then some (vals, e) else none
    | none => none
  | none => none
abbrev valsD (P : Program) {T : World → Prop} (sp : Spt) (fs : List (Fa P T)) (c : Cf) : Vs := ((dsX P sp fs c).map (·.1)).getD []
abbrev dsC (P : Program) {T : World → Prop} (sp : Spt) (fs : List (Fa P T)) (c : Cf) (vs : Nat → Value) : Cf := { ops := #[], rest := [], ks := ksD c, tm := tmS (opsD c) sp c.tm (valsD P sp fs c) vs, rows := c.rows, nx := c.nx, dn := none }
theorem dwS {T : World → Prop} (sp : Spt) (fs : List (Fa P T)) (V : Nat → Value → World → Prop) (hV : ∀ i v w w', V i v w → Below w.heap.size w w' → V i v w') (R : Rsrc J F) (hT : ∀ w, J w → T w) (I : SI J F ds β c a w)
    (hsp : ∀ p ∈ sp, ∀ o, (opsD c)[p.1]? = some o → ∀ listed vs a' w', Frm (opsD c) vs a listed a' → p.1 ∈ Region.ready .any (opsD c) listed → Below w.heap.size w w' → (∀ q ∈ sp, listed.getD q.1 false = true → V q.1 (vs q.1) w') → (∀ x s, evS (opsD c) c.tm ((valsD P sp fs c).take p.1) p.1 x = some s → a'.eval x = up β s) →
      wpG (opsD c) o P a' w' (fun a'' w'' => ∃ v, a'' = a'.put o.dst v ∧ (∀ u, p.2 = some u → v = u) ∧ V p.1 v w'' ∧ Below w'.heap.size w' w'') (QK P Q (ksD c)))
    (k : ∀ vs a' w', (∀ q ∈ sp, q.1 < (opsD c).size → V q.1 (vs q.1) w') → SI J F ds β (dsC P sp fs c vs) a' w' → At P Q (dsC P sp fs c vs) a' w') (hm : P.follows .mixedOrders = true := by kernel_rfl)
    (hs : (dsX P sp fs c).isSome = true := by kernel_rfl) (he : (dsX P sp fs c).map (fun r => r.2.map (·.1)) = (dsX P sp fs c).map (fun r => r.2.map (·.2)) := by kernel_rfl) : At P Q c a w := by
  cases hx : dsX P sp fs c with
  | none => rw [hx] at hs; cases hs
  | some r =>
    unfold valsD at hsp
    unfold dsC valsD at k
    rw [hx] at he k hsp
    unfold dsX at hx
    unfold opsD ksD at hsp k
    split at hx
    · next ops ks hc =>
      rw [hc] at hsp k
      split at hx
      · next vals us e hg =>
        split at hx
        · next hb =>
          cases hx
          simp only [Option.map_some, Option.some.injEq, Option.getD_some] at he k hsp
          simp only [Bool.and_eq_true] at hb
          exact drawS (ty_ok hm) R hT V hV hc hg (eqs_of he) hb.1.1.1.1 hb.1.1.1.2 hb.1.1.2 hb.1.2 hb.2 I (fun i x o hx ho => hsp (i, x) (spec_mem hx) o ho) k
        · cases hx
      · cases hx
    · cases hx
end
end Go.Proofs.YtdeompgdhaomgaaGreatDoor
namespace Go.Proofs.YtdeompgdhaomgaaGreatDoor
open Go.RowKit Go.Sort
set_option linter.unusedVariables false
set_option maxRecDepth 100000
section
variable {P : Program} {ops : Array Oper} {Q : Exit → Act → World → Prop} {K : Act → World → Prop} {o : Oper} {a : Act} {w : World}
end
theorem opD_get {c : Cf} {i : Nat} {o : Oper} {x : Op} {d : Option Tmp} (ho : (opsD c)[i]? = some o) (h : ((opsD c)[i]?).map (fun o => (o.op, o.dst, o.guard)) = some (x, d, none)) : o.op = x ∧ o.dst = d ∧ o.guard = none := by
  rw [ho] at h
  simp only [Option.map_some, Option.some.injEq, Prod.mk.injEq] at h
  exact h
end Go.Proofs.YtdeompgdhaomgaaGreatDoor
namespace Go.Proofs.YtdeompgdhaomgaaGreatDoor
open Go.RowKit Go.Sort
set_option linter.unusedVariables false
set_option maxRecDepth 100000
theorem LA.cnt {w : World} : ∀ {n : Nat} {v : Value} {l : TL n}, LA w n v l → ∃ ad cap, v = .slice ad (cntL n l) cap
  | 0, v, l, h => h
  | n + 1, v, l, h => by obtain ⟨ad, cap, hv, _⟩ := h; exact ⟨ad, cap, hv⟩
end Go.Proofs.YtdeompgdhaomgaaGreatDoor
