/- A region by its values, where edges that do not bind may lead forth. -/
import Derived.Test.YtdlanihbpbfbcaaDoorRv
namespace Go.Proofs.YtdlanihbpbfbcaaDoor
open Go.RowKit Go.Sort
set_option linter.unusedVariables false
section
variable {P : Program} {ops : Array Oper} {Q : Exit → Act → World → Prop}
def backB2 (ops : Array Oper) : Bool := (List.range ops.size).all fun i => match ops[i]? with | some o => o.after.all (fun e => !Region.binds .any e || decide (e.on < i)) | none => true
theorem all_done2 (hb : backB2 ops = true) {listed : Array Bool} (hs : listed.size = ops.size) (hr : Region.ready .any ops listed = []) : ∀ i, i < ops.size → listed.getD i false = true := by
  intro i
  induction i using Nat.strongRecOn with
  | _ i ih =>
    intro hi
    by_cases h : listed.getD i false = true
    · exact h
    · exfalso
      have ho : ops[i]? = some ops[i] := Array.getElem?_eq_getElem hi
      have hmem : i ∈ Region.ready .any ops listed := by
        refine mem_ready.2 ⟨?_, ops[i], ho, fun e he hbd => ?_⟩
        · have hi' : i < listed.size := by omega
          simp [Array.getD, hi'] at h ⊢
          exact h
        · have h1 := (List.all_eq_true.1 hb) i (by simpa using hi)
          simp only [ho] at h1
          have h2 := (Array.all_eq_true_iff_forall_mem.1 h1) e he
          have h3 : e.on < i := by simpa [hbd] using h2
          exact ih e.on h3 (by omega)
      rw [hr] at hmem; cases hmem
theorem wp_region_vals2 {id : Nat} {a : Act} {w : World} (hm : P.follows .mixedOrders = true) (hb : backB2 ops = true) (hB : onceB ops = true)
    (C : Array Bool → (Nat → Value) → World → Prop)
    (h0 : C (Array.replicate ops.size false) (fun _ => undef) { w with drawn := w.drawn + 1 })
    (hop : ∀ listed vs a' w' i o, listed.size = ops.size → ops[i]? = some o → i ∈ Region.ready .any ops listed → Frm ops vs a listed a' → C listed vs w' →
      o.wp P a' w' (fun a'' w'' => ∃ v, a'' = a'.put o.dst v ∧ C (listed.setIfInBounds i true) (fun j => if j = i then v else vs j) w'') Q)
    (hend : ∀ listed vs a' w', (∀ i, i < ops.size → listed.getD i false = true) → Frm ops vs a listed a' → C listed vs w' → Q .normal a' w') : (Code.region id ops true).wp P Q a w := by
  refine wp_region_inv hm (fun listed a' w' => ∃ vs, Frm ops vs a listed a' ∧ C listed vs w') ⟨_, Frm.start _ a, h0⟩ ?_ ?_
  · rintro listed a' w' i hs ⟨vs, hF, hC⟩ hi
    obtain ⟨_, o, ho, _⟩ := mem_ready.1 hi
    refine wpOp_plain ho (once_spec hB ho).1 ?_
    have hun := undone hi hs
    have := hop listed vs a' w' i o hs ho hi hF hC
    refine Oper.wp_mono (fun a'' w'' h => ?_) this
    obtain ⟨v, rfl, hC'⟩ := h
    exact ⟨_, hF.step hs ho (once_spec hB ho).2 (fun h => hun h) v, hC'⟩
  · rintro listed a' w' hs ⟨vs, hF, hC⟩ hr
    have hd := all_done2 hb hs hr
    exact hend listed vs a' w' hd hF hC
/-- An operation with what it hangs on: not wanted it hands its slot nothing. -/
def wpG (ops : Array Oper) (o : Oper) (P : Program) (a : Act) (w : World) (K : Act → World → Prop) (Q : Exit → Act → World → Prop) : Prop :=
  if Region.wanted o (yielded ops a.tmps) = true then o.wp P a w K Q else K (a.put o.dst undef) w
theorem wpG_mono {o : Oper} {a : Act} {w : World} {K K' : Act → World → Prop} (h : ∀ a w, K a w → K' a w) (hh : wpG ops o P a w K Q) : wpG ops o P a w K' Q := by
  unfold wpG at *
  split
  · next hw => rw [if_pos hw] at hh; exact Oper.wp_mono h hh
  · next hw => rw [if_neg hw] at hh; exact h _ _ hh
theorem wpG_plain {o : Oper} {a : Act} {w : World} {K : Act → World → Prop} (hg : o.guard = none) (h : o.wp P a w K Q) : wpG ops o P a w K Q := by
  unfold wpG
  rw [if_pos (by simp [Region.wanted, hg])]
  exact h
def onceG (ops : Array Oper) : Bool := (List.range ops.size).all fun i => match ops[i]? with | some o => (match o.dst with | some t => wr ops t == some i | none => true) | none => true
theorem onceG_spec (h : onceG ops = true) {i : Nat} {o : Oper} (ho : ops[i]? = some o) : ∀ t, o.dst = some t → wr ops t = some i := by
  intro t ht
  have hi : i < ops.size := (Array.getElem?_eq_some_iff.1 ho).1
  have h1 := (List.all_eq_true.1 h) i (by simpa using hi)
  simp only [ho, ht] at h1
  simpa using h1
/-- The same where the order is the listed one. -/
theorem wpList_inv (hb : backB2 ops = true) (I : Array Bool → Act → World → Prop)
    (hstep : ∀ (listed : Array Bool) (a : Act) (w : World) (i : Nat) (o : Oper), listed.size = ops.size → ops[i]? = some o → I listed a w → i ∈ Region.ready .any ops listed → wpG ops o P a w (fun a' w' => I (listed.setIfInBounds i true) a' w') Q)
    (hend : ∀ (listed : Array Bool) (a : Act) (w : World), listed.size = ops.size → (∀ i, i < ops.size → listed.getD i false = true) → I listed a w → Q .normal a w) :
    ∀ (l : List Oper) (k : Nat) (listed : Array Bool) (a : Act) (w : World), l = ops.toList.drop k → listed.size = ops.size → (∀ i, i < ops.size → listed.getD i false = decide (i < k)) → I listed a w → wpList P ops Q l a w
  | [], k, listed, a, w, hl, hs, hd, hI => by
    refine wpList_nil (hend listed a w hs (fun i hi => ?_) hI)
    have hk : ops.size ≤ k := by
      have := congrArg List.length hl
      simp at this
      omega
    rw [hd i hi]
    exact decide_eq_true (by omega)
  | o :: rest, k, listed, a, w, hl, hs, hd, hI => by
    have hk : k < ops.size := by
      have := congrArg List.length hl
      simp at this
      omega
    have hcons := List.drop_eq_getElem_cons (l := ops.toList) (i := k) (by simpa using hk)
    rw [hcons] at hl
    obtain ⟨h1, h2⟩ := List.cons.inj hl
    have ho : ops[k]? = some o := by rw [h1]; simp [hk]
    have hr : k ∈ Region.ready .any ops listed := by
      refine mem_ready.2 ⟨?_, o, ho, fun e he hbd => ?_⟩
      · have h3 := hd k hk
        have hk' : k < listed.size := by omega
        simp [Array.getD, hk'] at h3 ⊢
        exact h3
      · have h3 := (List.all_eq_true.1 hb) k (by simpa using hk)
        simp only [ho] at h3
        have h4 := (Array.all_eq_true_iff_forall_mem.1 h3) e he
        have h5 : e.on < k := by simpa [hbd] using h4
        rw [hd _ (by omega)]
        exact decide_eq_true h5
    refine wpList_step fun K hK => ?_
    show wpG ops o P a w K Q
    refine wpG_mono (fun a' w' h => ?_) (hstep listed a w k o hs ho hI hr)
    refine hK _ _ (wpList_inv hb I hstep hend rest (k + 1) _ a' w' h2 (by simpa using hs) (fun i hi => ?_) h)
    have hi' : i < listed.size := by omega
    by_cases e : i = k
    · subst e
      simp [Array.getD, hi']
    · have := hd i hi
      simp [Array.getD, hi'] at this ⊢
      rw [Array.getElem_setIfInBounds_ne hi' (fun h => e h.symm), this]
      exact decide_eq_decide.2 ⟨fun h => by omega, fun h => by omega⟩
/-- What a region's operations come to, in whatever order they may be run: something that holds whatever has been done so far. -/
def RegV (P : Program) (ops : Array Oper) (Q : Exit → Act → World → Prop) (a : Act) (w : World) : Prop :=
  backB2 ops = true ∧ ∃ I : Array Bool → Act → World → Prop, (∀ w1, w1 = w ∨ w1 = { w with drawn := w.drawn + 1 } → I (Array.replicate ops.size false) a w1) ∧
    (∀ (listed : Array Bool) (a' : Act) (w' : World) (i : Nat) (o : Oper), listed.size = ops.size → ops[i]? = some o → I listed a' w' → i ∈ Region.ready .any ops listed → wpG ops o P a' w' (fun a'' w'' => I (listed.setIfInBounds i true) a'' w'') Q) ∧
    ∀ (listed : Array Bool) (a' : Act) (w' : World), listed.size = ops.size → (∀ i, i < ops.size → listed.getD i false = true) → I listed a' w' → Q .normal a' w'
theorem RegV.wp {id : Nat} {d : Bool} {a : Act} {w : World} (hm : P.follows .mixedOrders = true) (h : RegV P ops Q a w) : (Code.region id ops d).wp P Q a w := by
  obtain ⟨hb, I, h0, step, hend⟩ := h
  cases d with
  | true =>
    refine wp_region_inv hm I (h0 _ (.inr rfl)) ?_ ?_
    · rintro listed a' w' i hs hI hi
      obtain ⟨_, o, ho, _⟩ := mem_ready.1 hi
      have h := step listed a' w' i o hs ho hI hi
      unfold wpOp
      rw [ho]
      unfold wpG at h
      show if _ then _ else _
      split
      · next hw => rw [if_pos hw] at h; exact .inl h
      · next hw => rw [if_neg hw] at h; exact h
    · rintro listed a' w' hs hI hr
      exact hend listed a' w' hs (all_done2 hb hs hr) hI
  | false => exact wp_region_list (wpList_inv hb I step hend ops.toList 0 (Array.replicate ops.size false) a w rfl (by simp) (fun i hi => by simp [Array.getD, hi]) (h0 _ (.inl rfl)))
theorem regV_vals3 {a : Act} {w : World} (hb : backB2 ops = true) (hB : onceG ops = true)
    (C : Array Bool → (Nat → Value) → World → Prop)
    (h0 : ∀ w1, w1 = w ∨ w1 = { w with drawn := w.drawn + 1 } → C (Array.replicate ops.size false) (fun _ => undef) w1)
    (hop : ∀ listed vs a' w' i o, listed.size = ops.size → ops[i]? = some o → i ∈ Region.ready .any ops listed → Frm ops vs a listed a' → C listed vs w' →
      wpG ops o P a' w' (fun a'' w'' => ∃ v, a'' = a'.put o.dst v ∧ C (listed.setIfInBounds i true) (fun j => if j = i then v else vs j) w'') Q)
    (hend : ∀ listed vs a' w', (∀ i, i < ops.size → listed.getD i false = true) → Frm ops vs a listed a' → C listed vs w' → Q .normal a' w') : RegV P ops Q a w := by
  refine ⟨hb, fun listed a' w' => ∃ vs, Frm ops vs a listed a' ∧ C listed vs w', fun w1 h1 => ⟨_, Frm.start _ a, h0 w1 h1⟩, ?_, ?_⟩
  · rintro listed a' w' i o hs ho ⟨vs, hF, hC⟩ hi
    have hun := undone hi hs
    refine wpG_mono (fun a'' w'' h => ?_) (hop listed vs a' w' i o hs ho hi hF hC)
    obtain ⟨v, rfl, hC'⟩ := h
    exact ⟨_, hF.step hs ho (onceG_spec hB ho) (fun h => hun h) v, hC'⟩
  · rintro listed a' w' hs hd ⟨vs, hF, hC⟩
    exact hend listed vs a' w' hd hF hC
end
end Go.Proofs.YtdlanihbpbfbcaaDoor
