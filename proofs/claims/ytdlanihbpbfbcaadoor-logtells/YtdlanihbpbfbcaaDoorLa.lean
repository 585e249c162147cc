/- A region that draws its order, whose last operation waits for all others, and whose other operations yield one value in every world of a class: one walk in the order of the text serves every order. -/
import Derived.Deep.Quiet
import Derived.Lib.QuietBelow
namespace Go.Proofs.YtdlanihbpbfbcaaDoor
open Go.Sort Go.RowKit

section
variable {P : Program} {ops : Array Oper} {md : Region.Mode} {C : World → Prop}

/-- Whatever order is picked from here on: all but number L are quiet in the class; at L the state meets F. -/
def anyLast (P : Program) (md : Region.Mode) (ops : Array Oper) (C : World → Prop) (L : Nat) (F : Act → Prop) : Nat → Array Bool → Act → Prop
  | 0, _, _ => False
  | fuel + 1, listed, a => Region.ready md ops listed ≠ [] ∧ ∀ i ∈ Region.ready md ops listed, (i = L → F a) ∧ (i ≠ L → qOp P ops C i (anyLast P md ops C L F fuel (listed.setIfInBounds i true)) a)

theorem any_of_last {L : Nat} {F : Act → Prop} {Q' : Exit → Act → World → Prop}
    (hF : ∀ (fuel : Nat) (listed : Array Bool) (a : Act) (w : World), C w → L ∈ Region.ready md ops listed → F a → wpOp P ops Q' L (wpAny P md ops Q' fuel (listed.setIfInBounds L true)) a w) :
    ∀ (fuel : Nat) (listed : Array Bool) (a : Act) (w : World), C w → anyLast P md ops C L F fuel listed a → wpAny P md ops Q' fuel listed a w
  | 0, _, _, _, _, h => h.elim
  | fuel + 1, listed, a, w, hw, h => by
    refine ⟨fun h0 => absurd h0 h.1, fun i hi => ?_⟩
    by_cases hL : i = L
    · subst hL; exact hF fuel listed a w hw hi ((h.2 i hi).1 rfl)
    · exact wpOp_of_qOp hw (fun a' w' hw' h' => any_of_last hF fuel _ a' w' hw' h') ((h.2 i hi).2 hL)

theorem last_first {L : Nat} {F : Act → Prop} {i : Nat} {oi : Oper} {v : Value} (hi : ops[i]? = some oi) (hiL : i ≠ L)
    (hwait : ∀ oL, ops[L]? = some oL → ∃ e ∈ oL.after, Region.binds md e = true ∧ e.on = i)
    (hsel : ∀ (j : Nat) (o : Oper) cs b, ops[j]? = some o → o.op ≠ .select cs b) :
    ∀ (fuel : Nat) (listed : Array Bool) (a : Act),
      (∀ j oj, ops[j]? = some oj → j ≠ i → listed.getD j true = false → (∀ e ∈ oj.after, Region.binds md e = true → e.on ≠ i) → oi.apart ops oj = true) →
      i ∈ Region.ready md ops listed → YieldsIn P ops C oi v a →
      anyLast P md ops C L F fuel (listed.setIfInBounds i true) (a.put oi.dst v) → anyLast P md ops C L F (fuel + 1) listed a := by
  intro fuel
  induction fuel with
  | zero => intro listed a _ _ _ H; exact H.elim
  | succ fuel ih =>
    intro listed a hfree hr hy H
    refine ⟨fun h => (by rw [h] at hr; cases hr), fun j hj => ⟨fun hjL => ?_, fun hjL => ?_⟩⟩
    · subst hjL
      obtain ⟨_, oj, hoj, hall⟩ := mem_ready.1 hj
      obtain ⟨e, he, hb, hon⟩ := hwait oj hoj
      have h1 := hall e he hb
      have h0 := (mem_ready.1 hr).1
      rw [hon] at h1
      rcases Nat.lt_or_ge i listed.size with h' | h'
      · simp [h'] at h0 h1; rw [h0] at h1; cases h1
      · simp [Array.getElem?_eq_none h'] at h1
    · by_cases hji : j = i
      · subst hji; exact hy.qOp hi H
      · have h1 := (H.2 j (ready_mono hj hji)).2 hjL
        obtain ⟨hjun, oj, hoj, hall⟩ := mem_ready.1 hj
        have hnot : ∀ e ∈ oj.after, Region.binds md e = true → e.on ≠ i := fun e he hb heq => by
          have h1 := hall e he hb
          have h0 := (mem_ready.1 hr).1
          rw [heq] at h1
          rcases Nat.lt_or_ge i listed.size with h' | h'
          · simp [h'] at h0 h1; rw [h0] at h1; cases h1
          · simp [Array.getElem?_eq_none h'] at h1
        have h2 := qOp_put hoj (hfree j oj hoj hji hjun hnot) (fun cs b => hsel i oi cs b hi) (fun cs b => hsel j oj cs b hoj) hy h1
        have hfree' : ∀ k ok, ops[k]? = some ok → k ≠ i → (listed.setIfInBounds j true).getD k true = false →
            (∀ e ∈ ok.after, Region.binds md e = true → e.on ≠ i) → oi.apart ops ok = true := fun k ok hk hki hun hno => by
          refine hfree k ok hk hki ?_ hno
          by_cases hjk : j = k
          · subst hjk; exact hjun
          · rw [getD_set_ne true hjk] at hun; exact hun
        refine qOp_mono (fun a' h3 => ih (listed.setIfInBounds j true) a' hfree' (ready_mono hr (Ne.symm hji)) h3.1 ?_) h2
        rw [Array.setIfInBounds_comm _ _ hji]
        exact h3.2

/-- The order of the text, up to the last one. -/
def lexTo (md : Region.Mode) (ops : Array Oper) : Nat → Nat → Array Bool → Bool
  | 0, k, listed => Region.ready md ops listed == [k]
  | fuel + 1, k, listed => (Region.ready md ops listed).contains k && Region.free md ops listed k && lexTo md ops fuel (k + 1) (listed.setIfInBounds k true)
/-- Number L waits for all ahead of it. -/
def waitsAll (md : Region.Mode) (ops : Array Oper) (L : Nat) : Bool :=
  match ops[L]? with
  | some oL => (List.range L).all fun i => oL.after.any fun e => Region.binds md e && e.on == i
  | none => false
theorem waitsAll_spec {L : Nat} (h : waitsAll md ops L = true) (i : Nat) (hi : i < L) : ∀ oL, ops[L]? = some oL → ∃ e ∈ oL.after, Region.binds md e = true ∧ e.on = i := by
  intro oL hL
  simp only [waitsAll, hL, List.all_eq_true, List.mem_range] at h
  have h1 := h i hi
  obtain ⟨n, hn, hb⟩ := Array.any_eq_true.1 h1
  have he := Array.getElem_mem hn
  generalize oL.after[n] = e at *
  simp only [Bool.and_eq_true, beq_iff_eq] at hb
  exact ⟨e, he, hb.1, hb.2⟩

theorem last_lex {L : Nat} {F : Act → Prop} (hs : Region.noSelect ops = true) (hw : waitsAll md ops L = true) : ∀ (l : List Oper) (k : Nat) (listed : Array Bool) (a : Act), k + l.length = L → (∀ j, j < l.length → l[j]? = ops[k + j]?) →
    lexTo md ops l.length k listed = true → wpQuiet P ops C F l a → anyLast P md ops C L F (l.length + 1) listed a
  | [], k, listed, a, hk, _, hB, h => by
    have hr : Region.ready md ops listed = [k] := by simpa [lexTo] using hB
    have hk' : k = L := by simpa using hk
    refine ⟨by rw [hr]; simp, fun i hi => ⟨fun _ => h, fun hne => ?_⟩⟩
    rw [hr] at hi
    simp at hi
    exact absurd (hi.trans hk') hne
  | o :: l, k, listed, a, hk, hl, hB, h => by
    have h0 : ops[k]? = some o := by simpa using (hl 0 (by simp)).symm
    simp only [List.length_cons, lexTo, Bool.and_eq_true] at hB
    obtain ⟨⟨hr, hf⟩, hB'⟩ := hB
    have hst : qOp P ops C k (wpQuiet P ops C F l) a := by unfold qOp; simp only [h0]; exact h
    obtain ⟨v, hy, hK⟩ := yieldsIn_of_qOp h0 hst
    have hkL : k < L := by simp at hk; omega
    exact last_first h0 (Nat.ne_of_lt hkL) (waitsAll_spec hw k hkL) (Region.noSelect_spec hs) (l.length + 1) listed a (Region.free_spec h0 hf) (by simpa using hr) hy
      (last_lex hs hw l (k + 1) _ _ (by simp at hk; omega) (fun j hj => by have := hl (j + 1) (by simpa using hj); simpa [Nat.add_assoc, Nat.add_comm 1 j] using this) hB' hK)

theorem any_done {Q' : Exit → Act → World → Prop} {listed : Array Bool} {a : Act} {w : World} (hr : Region.ready md ops listed = []) (h : Q' .normal a w) : ∀ fuel, wpAny P md ops Q' fuel listed a w
  | 0 => ⟨hr, h⟩
  | _ + 1 => ⟨fun _ => h, by rw [hr]; simp⟩

def lastB (md : Region.Mode) (ops : Array Oper) : Bool :=
  Region.noSelect ops && waitsAll md ops (ops.size - 1) && lexTo md ops (ops.size - 1) 0 (Array.replicate ops.size false)

theorem ready_behind {L : Nat} (hw : waitsAll md ops L = true) (hL : ops.size = L + 1) {listed : Array Bool} (h : L ∈ Region.ready md ops listed) : Region.ready md ops (listed.setIfInBounds L true) = [] := by
  rw [List.eq_nil_iff_forall_not_mem]
  intro j hj
  obtain ⟨hun, oj, hoj, _⟩ := mem_ready.1 hj
  obtain ⟨_, oL, hoL, hall⟩ := mem_ready.1 h
  have hjs : j < ops.size := (Array.getElem?_eq_some_iff.1 hoj).1
  by_cases hjL : j = L
  · subst hjL
    rcases Nat.lt_or_ge j listed.size with h' | h'
    · simp [h'] at hun
    · simp [Array.setIfInBounds, Nat.not_lt.2 h'] at hun
  · obtain ⟨e, he, hb, hon⟩ := waitsAll_spec hw j (by omega) oL hoL
    have h1 := hall e he hb
    rw [hon] at h1
    rw [getD_set_ne true (Ne.symm hjL)] at hun
    rcases Nat.lt_or_ge j listed.size with h' | h'
    · simp [h'] at hun h1; rw [hun] at h1; cases h1
    · simp [Array.getElem?_eq_none h'] at h1

theorem wp_region_last {id : Nat} {Q : Exit → Act → World → Prop} {a : Act} {w : World} {ol : List Oper} (hm : P.follows .mixedOrders = true) (hB : lastB .any ol.toArray = true) (hne : ol ≠ []) (hC : C { w with drawn := w.drawn + 1 })
    (h : wpQuiet P ol.toArray C (fun a' => ∀ w', C w' → wpOp P ol.toArray Q (ol.length - 1) (fun a'' w'' => Q .normal a'' w'') a' w') ol.dropLast a) : (Code.region id ol.toArray true).wp P Q a w := by
  simp only [lastB, Bool.and_eq_true, List.size_toArray] at hB
  obtain ⟨⟨hs, hw⟩, hx⟩ := hB
  have hlen : ol.length = (ol.length - 1) + 1 := by
    cases ol with
    | nil => exact absurd rfl hne
    | cons _ _ => simp
  refine wp_region_any hm (any_of_last (C := C) (L := ol.length - 1) (F := fun a' => ∀ w', C w' → wpOp P ol.toArray Q (ol.length - 1) (fun a'' w'' => Q .normal a'' w'') a' w') ?_ _ _ _ _ hC ?_)
  · intro fuel listed a' w' hw' hr hF
    exact wpOp_mono (fun a'' w'' hq => any_done (ready_behind hw (by simpa using hlen) hr) hq fuel) (hF w' hw')
  · have := last_lex (P := P) (C := C) (md := .any) (L := ol.length - 1) (F := fun a' => ∀ w', C w' → wpOp P ol.toArray Q (ol.length - 1) (fun a'' w'' => Q .normal a'' w'') a' w') hs hw ol.dropLast 0 (Array.replicate ol.length false) a (by simp) (by
      intro j hj
      rw [List.length_dropLast] at hj
      simp [hj]) (by simpa using hx) h
    rw [List.length_dropLast, ← hlen] at this
    simpa using this

/-- The last operation, not guarded. -/
theorem wpOp_plain {Q : Exit → Act → World → Prop} {i : Nat} {o : Oper} {K : Act → World → Prop} {a : Act} {w : World} (ho : ops[i]? = some o) (hg : o.guard = none) (h : o.wp P a w K Q) : wpOp P ops Q i K a w := by
  unfold wpOp
  simp only [ho, Region.wanted, hg, if_true]
  exact .inl h

theorem wp_region_last_below {id : Nat} {Q : Exit → Act → World → Prop} {a : Act} {w : World} {ol : List Oper} (hm : P.follows .mixedOrders = true) (hB : lastB .any ol.toArray = true) (hne : ol ≠ [])
    (h : wpQuiet P ol.toArray (fun w' => ∃ p : Regrown, w' = grow (redrawn w p.d) p.os) (fun a' => ∀ w', (∃ p : Regrown, w' = grow (redrawn w p.d) p.os) → wpOp P ol.toArray Q (ol.length - 1) (fun a'' w'' => Q .normal a'' w'') a' w') ol.dropLast a) : (Code.region id ol.toArray true).wp P Q a w :=
  wp_region_last hm hB hne ⟨⟨w.drawn + 1, #[]⟩, by rw [grow_empty]; rfl⟩ h
end
end Go.Proofs.YtdlanihbpbfbcaaDoor
