/- A drawn region whose last operations come one by one. -/
import Derived.Test.YtdiblfgnnliifaaUa
namespace Go.Proofs.Ytdiblfgnnliifaa
open Go.RowKit Go.Sort
set_option linter.unusedVariables false
set_option maxRecDepth 100000
section
variable {P : Program} {T : World → Prop} {fo : Nat → Nat → Option Nat} {io : Nat → Int → Option Nat} {ze : Nat → Option (Array Value)} {ops : Array Oper} {tm : Vs} {rows : Rows} {sp : Spt}
abbrev spM (ops : Array Oper) (m : Nat) (sp : Spt) : Spt := sp ++ (List.range (ops.size - m)).map fun i => (m + i, none)
def tmM (ops : Array Oper) (m : Nat) (sp : Spt) (tm vals : Vs) (vs : Nat → Value) : Vs := (List.range tm.length).map fun t => match wr ops t with
  | some j => if m ≤ j then (tm[t]?).join else (match spec sp j with
    | some _ => some (Sum.inl (vs j))
    | none => (vals[j]?).join)
  | none => (tm[t]?).join
theorem ids_tmM {m : Nat} {vals : Vs} {vs : Nat → Value} {nx : Nat} (h : idsB (tmM ops m sp tm vals fun _ => undef) nx = true) : idsB (tmM ops m sp tm vals vs) nx = true := by
  unfold idsB tmM at h ⊢
  rw [List.all_map, List.all_eq_true] at h ⊢
  intro t ht
  have := h t ht
  simp only [Function.comp] at this ⊢
  cases hw : wr ops t with
  | none => rw [hw] at this; exact this
  | some j =>
    rw [hw] at this
    simp only at this ⊢
    by_cases hj : m ≤ j
    · rw [if_pos hj] at this ⊢; exact this
    · rw [if_neg hj] at this ⊢
      cases hs : spec sp j with
      | none => rw [hs] at this; exact this
      | some x => rfl
theorem put_anyN {o : Oper} {a : Act} {w : World} (hnd : ∀ d w', (execOp a.eval o).run P w ≠ .ok (.defer d) w') {K : Act → World → Prop} {Q : Exit → Act → World → Prop} (hh : o.wp P a w K Q) : o.wp P a w (fun a'' w'' => (∃ v, a'' = a.put o.dst v) ∧ K a'' w'') Q := by
  unfold Oper.wp at *
  generalize (execOp a.eval o).run P w = r at *
  cases r with
  | ok n w' =>
    cases n <;> simp only [Oper.upon] at hh ⊢ <;>
      first
        | exact ⟨⟨_, rfl⟩, hh⟩
        | exact Calls.mono hh (fun e w'' he => by cases e <;> first | exact ⟨⟨_, rfl⟩, he⟩ | exact he)
        | exact Rows.mono hh (fun _ _ he => ⟨⟨_, rfl⟩, he⟩)
        | exact absurd rfl (hnd _ _)
  | halt x w' => cases x <;> simp only [Oper.upon] at hh ⊢ <;> exact hh
/-- Operations that never put off a call. -/
structure NoD (P : Program) (o : Oper) : Prop where
  nd : ∀ (a : Act) (w : World) d w', (execOp a.eval o).run P w ≠ .ok (.defer d) w'
def tailX (ops : Array Oper) (m : Nat) : Bool := decide (m < ops.size) && ((List.range m).all fun j => ancB ops ops.size m j) && (List.range ops.size).all fun n => decide (n < m) || (match ops[n]? with
  | some o => o.guard.isNone && (n == m || waitsB ops n (n - 1))
  | none => false)
theorem drawN (m : Nat) {J : World → Prop} {F : Nat → Prop} {ds : List Deferred} {β : Nat → Nat} {c : Cf} {a : Act} {w : World} {Q : Exit → Act → World → Prop} (Y : Ty P fo io ze) (R : Rsrc J F) (hT : ∀ w, J w → T w) {ks : List Ki} {fs us : List (Fa P T)} {vals : Vs} {e : List (Value × Value)} (V : Nat → Value → World → Prop) (hV : ∀ i v w w', V i v w → Below w.heap.size w w' → V i v w')
    (hc : drQ c = some (ops, ks)) (hg : goS P T fo io (spM ops m sp) ops c.tm c.rows ops.toList 0 [] fs = some (vals, us, e)) (he : ∀ p ∈ e, p.1 = p.2) (hb : backB2 ops = true) (hB : onceG ops = true) (hgs : gsB ops (spM ops m sp) = true) (hds : dstB ops c.tm.length = true)
    (hids : idsB (tmM ops m sp c.tm vals fun _ => undef) c.nx = true) (hla : tailX ops m = true) (hnd : ∀ (n : Nat) (o : Oper), m ≤ n → ops[n]? = some o → NoD P o) (hsn : (sp.all fun p => decide (p.1 < m)) = true) (I : SI J F ds β c a w)
    (hsp : ∀ i x o, spec sp i = some x → ops[i]? = some o → ∀ listed vs a' w', Frm ops vs a listed a' → i ∈ Region.ready .any ops listed → Below w.heap.size w w' → (∀ q ∈ sp, listed.getD q.1 false = true → V q.1 (vs q.1) w') → (∀ x s, evS ops c.tm (vals.take i) i x = some s → a'.eval x = up β s) →
      wpG ops o P a' w' (fun a'' w'' => ∃ v, a'' = a'.put o.dst v ∧ (∀ u, x = some u → v = u) ∧ V i v w'' ∧ Below w'.heap.size w' w'') (QK P Q ks))
    (k : ∀ vs a' w', (∀ q ∈ sp, q.1 < ops.size → V q.1 (vs q.1) w') → SI J F ds β { ops := ops, rest := ops.toList.drop m, ks := ks, tm := tmM ops m sp c.tm vals vs, rows := c.rows, nx := c.nx, dn := none } a' w' → At P Q { ops := ops, rest := ops.toList.drop m, ks := ks, tm := tmM ops m sp c.tm vals vs, rows := c.rows, nx := c.nx, dn := none } a' w') : At P Q c a w := by
  obtain ⟨hvl, _, hspec⟩ := goS_spec (k := 0) (v0 := []) rfl hg he
  have htm : a.tmps.size = c.tm.length := by rw [I.fr]; simp
  have dl : ∀ t j, wr ops t = some j → t < a.tmps.size := fun t j h => by rw [htm]; exact dstB_ok hds h
  have hsv : ∀ j x, spec (spM ops m sp) j = some x → j < ops.size → vals[j]? = some (x.map Sum.inl) := fun j x hx hj => by
    have := (hspec j ops[j] (by simp [hj])).1 x (by rw [Nat.zero_add]; exact hx)
    rwa [Nat.zero_add] at this
  unfold tailX at hla
  simp only [Bool.and_eq_true, List.all_eq_true, List.mem_range, decide_eq_true_eq] at hla
  obtain ⟨⟨hmo, hanc⟩, hla2⟩ := hla
  have htl : ∀ n o, m ≤ n → ops[n]? = some o → o.guard = none ∧ (n = m ∨ waitsB ops n (n - 1) = true) := fun n o hn ho => by
    have h1 := hla2 n (Array.getElem?_eq_some_iff.1 ho).1
    rw [ho, decide_eq_false (by omega)] at h1
    simp only [Bool.false_or, Bool.and_eq_true, Option.isNone_iff_eq_none, Bool.or_eq_true, beq_iff_eq] at h1
    exact ⟨h1.1, h1.2⟩
  have spn : ∀ i x, spec sp i = some x → spec (spM ops m sp) i = some x := fun i x h => by
    unfold spec at h ⊢
    rw [List.find?_append]
    rw [Option.map_eq_some_iff] at h
    obtain ⟨p, h1, h2⟩ := h
    rw [h1]
    exact congrArg some h2
  have spi : ∀ i x, i < m → spec (spM ops m sp) i = some x → spec sp i = some x := fun i x hi h => by
    unfold spec at h ⊢
    rw [List.find?_append] at h
    cases hq : sp.find? fun p => p.1 == i with
    | some p => rw [hq] at h; exact h
    | none =>
      rw [hq] at h
      simp only [Option.none_or, Option.map_eq_some_iff] at h
      obtain ⟨p, h1, h2⟩ := h
      have h3 := List.find?_some h1
      have h4 := List.mem_of_find?_eq_some h1
      obtain ⟨q, hq1, rfl⟩ := List.mem_map.1 h4
      simp only [beq_iff_eq] at h3
      omega
  have spl : ∀ i x, spec sp i = some x → i < m := fun i x h => by
    have := List.all_eq_true.1 hsn _ (spec_mem h)
    simpa using this
  let V' : Nat → Value → World → Prop := fun i v w => m ≤ i ∨ V i v w
  have hV' : ∀ i v w w', V' i v w → Below w.heap.size w w' → V' i v w' := fun i v w w' h hb => h.imp id fun h => hV i v w w' h hb
  have hfr : ∀ listed vs a' w', (∀ j, j < m → listed.getD j false = true) → (∀ j, m ≤ j → listed.getD j false = false) → Frm ops vs a listed a' → DS ops (spM ops m sp) β vals V' w listed vs w' → a'.tmps = ((tmM ops m sp c.tm vals vs).map (upO β)).toArray := by
    intro listed vs a' w' hd hno hF D
    apply Array.ext_getElem?
    intro t
    by_cases ht : t < a.tmps.size
    · have ht' : t < c.tm.length := by omega
      rw [hF.2.2 t ht]
      have e0 : a.tmps[t]? = some (upO β (c.tm[t]?).join) := by
        rw [I.fr]
        simp [List.getElem?_eq_getElem ht']
      simp only [List.getElem?_toArray, tmM, List.getElem?_map, List.getElem?_range ht', Option.map_some]
      cases hw : wr ops t with
      | none => exact e0
      | some j =>
        simp only []
        by_cases hj : m ≤ j
        · rw [if_neg (by rw [hno j hj]; decide), if_pos hj]; exact e0
        · have hj2 : j < m := by omega
          rw [if_pos (hd j hj2), if_neg hj]
          cases hs : spec sp j with
          | none =>
            have hs2 : spec (spM ops m sp) j = none := by
              cases hq : spec (spM ops m sp) j with
              | none => rfl
              | some x => rw [spi j x hj2 hq] at hs; cases hs
            simp only []; rw [D.rk j (hd j hj2) hs2]
          | some x => rfl
    · rw [Array.getElem?_eq_none (by have := hF.2.1; omega), Array.getElem?_eq_none (by simp [tmM]; omega)]
  -- one of the last ones
  have tstep : ∀ (n : Nat) (listed : Array Bool) (vs : Nat → Value) (a' : Act) (w' : World) (o : Oper), m ≤ n → listed.size = ops.size → ops[n]? = some o → ¬ listed.getD n false = true → (∀ j, j < n → listed.getD j false = true) → (∀ j, n ≤ j → listed.getD j false = false) → Frm ops vs a listed a' → wpL P ops (QK P Q ks) (ops.toList.drop n) a' w' →
      wpG ops o P a' w' (fun a'' w'' => ∃ v, a'' = a'.put o.dst v ∧ ((∀ j, m ≤ j → (listed.setIfInBounds n true).getD j false = false) ∧ DS ops (spM ops m sp) β vals V' w (listed.setIfInBounds n true) (fun j => if j = n then v else vs j) w'' ∨ ∃ n', m < n' ∧ n' ≤ ops.size ∧ (∀ j, j < n' → (listed.setIfInBounds n true).getD j false = true) ∧ (∀ j, n' ≤ j → (listed.setIfInBounds n true).getD j false = false) ∧ ∀ a3, Frm ops (fun j => if j = n then v else vs j) a (listed.setIfInBounds n true) a3 → wpL P ops (QK P Q ks) (ops.toList.drop n') a3 w'')) (QK P Q ks) := by
    intro n listed vs a' w' o hmn hs ho hun hall hno hF hwp
    obtain ⟨h1, h3⟩ := htl n o hmn ho
    have hnl : n < ops.size := (Array.getElem?_eq_some_iff.1 ho).1
    have hdrop : ops.toList.drop n = o :: ops.toList.drop (n + 1) := nat_drop (by simpa using ho)
    rw [hdrop] at hwp
    have hwn : Region.wanted o (yielded ops a'.tmps) = true := by unfold Region.wanted; rw [h1]
    unfold wpG
    rw [if_pos hwn]
    unfold wpL at hwp
    rw [if_pos hwn] at hwp
    refine Oper.wp_mono ?_ (put_anyN ((hnd n o hmn ho).nd a' w') hwp)
    rintro a2 w2 ⟨⟨v, rfl⟩, h4⟩
    have hset : ∀ j, (listed.setIfInBounds n true).getD j false = true ↔ (j = n ∨ listed.getD j false = true) := fun j => by
      constructor
      · intro h; exact done_set h
      · rintro (rfl | h)
        · rw [Array.getD_eq_getD_getElem?, Array.getElem?_setIfInBounds, if_pos rfl, if_pos (by omega)]; rfl
        · exact done_keep h
    refine ⟨v, rfl, .inr ⟨n + 1, by omega, by omega, fun j hj => (hset j).2 ?_, fun j hj => ?_, fun a3 hF3 => ?_⟩⟩
    · rcases Nat.lt_or_ge j n with h | h
      · exact .inr (hall j h)
      · exact .inl (by omega)
    · have : ¬ (listed.setIfInBounds n true).getD j false = true := fun h => by
        rcases (hset j).1 h with h | h
        · omega
        · rw [hno j (by omega)] at h; cases h
      simpa using this
    · have hst := hF.step hs ho (onceG_spec hB ho) hun v
      have e : a3 = a'.put o.dst v := by
        have q : ∀ (x y : Act), Frm ops (fun j => if j = n then v else vs j) a (listed.setIfInBounds n true) x → Frm ops (fun j => if j = n then v else vs j) a (listed.setIfInBounds n true) y → x = y := by
          intro x y hx hy
          have ht : x.tmps = y.tmps := by
            apply Array.ext_getElem?
            intro t
            by_cases htl : t < a.tmps.size
            · rw [hx.2.2 t htl, hy.2.2 t htl]
            · rw [Array.getElem?_eq_none (by have := hx.2.1; omega), Array.getElem?_eq_none (by have := hy.2.1; omega)]
          have hd : x.defers = y.defers := hx.1.trans hy.1.symm
          cases x; cases y
          simp only at ht hd
          rw [ht, hd]
        exact q _ _ hF3 hst
      rw [e]
      exact h4
  refine at_reg Y.hm hc ?_
  refine regV_vals3 hb hB (fun listed vs w' => ((∀ j, m ≤ j → listed.getD j false = false) ∧ DS ops (spM ops m sp) β vals V' w listed vs w') ∨ ∃ n', m < n' ∧ n' ≤ ops.size ∧ (∀ j, j < n' → listed.getD j false = true) ∧ (∀ j, n' ≤ j → listed.getD j false = false) ∧ ∀ a', Frm ops vs a listed a' → wpL P ops (QK P Q ks) (ops.toList.drop n') a' w') ?_ ?_ ?_
  · intro w1 h1
    have hf : ∀ j, ¬ (Array.replicate ops.size false).getD j false = true := fun j h => by
      rw [Array.getD_eq_getD_getElem?, Array.getElem?_replicate] at h
      split at h <;> simp at h
    refine .inl ⟨fun j _ => by simpa using hf j, ?_, fun j k _ h => absurd h (hf k), fun j h => absurd h (hf j), fun j x h => absurd h (hf j)⟩
    rcases h1 with rfl | rfl
    · exact Below.refl _ _
    · exact ⟨rfl, rfl, rfl, Nat.le_refl _, fun _ _ => rfl⟩
  · intro listed vs a' w' i o hs ho hi hF D
    have hun := undone hi hs
    have hio : i < ops.size := (Array.getElem?_eq_some_iff.1 ho).1
    rcases D with ⟨hLn, D⟩ | ⟨n', h1, h2, h3, h4, h5⟩
    case inr =>
      have hin : i = n' := by
        have hge : n' ≤ i := Nat.le_of_not_lt fun h => hun (h3 i h)
        rcases Nat.eq_or_lt_of_le hge with h | h
        · exact h.symm
        · rcases (htl i o (by omega) ho).2 with h6 | h6
          · omega
          · have := waits_done h6 hi
            rw [h4 (i - 1) (by omega)] at this; cases this
      subst hin
      exact tstep i listed vs a' w' o (by omega) hs ho hun h3 h4 hF (h5 a' hF)
    have hev : ∀ x s, evS ops c.tm (vals.take i) i x = some s → a'.eval x = up β s := fun x s h => evF_ok D hsv hF I.fr hs hi h
    by_cases hiL : m ≤ i
    · have him : i = m := by
        rcases Nat.eq_or_lt_of_le hiL with h | h
        · exact h.symm
        · rcases (htl i o hiL ho).2 with h6 | h6
          · omega
          · have := waits_done h6 hi
            rw [hLn (i - 1) (by omega)] at this; cases this
      subst him
      have hall : ∀ j, j < i → listed.getD j false = true := fun j hj => ancB_ready D.wt (hanc j hj) hi
      have := (k vs a' w' (fun q hq hl => by
        obtain ⟨y, hy⟩ := mem_spec hq
        rcases (D.sv q.1 y (hall q.1 (spl _ _ hy)) (spn _ _ hy)).1 with h | h
        · have := spl _ _ hy; omega
        · exact h) ⟨hfr listed vs a' w' hall hLn hF D, hF.1.trans I.df, R.loc w w' I.hJ (Grow.of_below D.bw), fun p hp => (I.row p hp).below D.bw, I.dis, I.lt, I.inj, ids_tmM hids⟩).out
      unfold AtD at this
      exact tstep i listed vs a' w' o (Nat.le_refl _) hs ho hun hall hLn hF this
    have hLs : ∀ (v : Value) w2, DS ops (spM ops m sp) β vals V' w (listed.setIfInBounds i true) (fun j => if j = i then v else vs j) w2 → ((∀ j, m ≤ j → (listed.setIfInBounds i true).getD j false = false) ∧ DS ops (spM ops m sp) β vals V' w (listed.setIfInBounds i true) (fun j => if j = i then v else vs j) w2) ∨ ∃ n', m < n' ∧ n' ≤ ops.size ∧ (∀ j, j < n' → (listed.setIfInBounds i true).getD j false = true) ∧ (∀ j, n' ≤ j → (listed.setIfInBounds i true).getD j false = false) ∧ ∀ a', Frm ops (fun j => if j = i then v else vs j) a (listed.setIfInBounds i true) a' → wpL P ops (QK P Q ks) (ops.toList.drop n') a' w2 := by
      intro v w2 D2
      refine .inl ⟨fun j hj => ?_, D2⟩
      have : ¬ (listed.setIfInBounds i true).getD j false = true := fun h => by
        rcases done_set h with h | h
        · omega
        · rw [hLn j hj] at h; cases h
      simpa using this
    have wt' : ∀ j k, waitsB ops k j = true → (listed.setIfInBounds i true).getD k false = true → (listed.setIfInBounds i true).getD j false = true := fun j k hw hk => by
      rcases done_set hk with rfl | hk
      · exact done_keep (waits_done hw hi)
      · exact done_keep (D.wt j k hw hk)
    cases hsi : spec (spM ops m sp) i with
    | some x =>
      have hsi' : spec sp i = some x := spi i x (by omega) hsi
      refine wpG_mono (fun a'' w'' h => ?_) (hsp i x o hsi' ho listed vs a' w' hF hi D.bw (fun q hq hl => by
        obtain ⟨y, hy⟩ := mem_spec hq
        rcases (D.sv q.1 y hl (spn _ _ hy)).1 with h | h
        · rw [hLn _ h] at hl; cases hl
        · exact h) hev)
      obtain ⟨v, rfl, h1, h2, h3⟩ := h
      refine ⟨v, rfl, hLs v w'' ⟨D.bw.trans (h3.mono D.bw.size), wt', fun j hj hn => ?_, fun j y hj hy => ?_⟩⟩
      · have hji : j ≠ i := fun e => by rw [e, hsi] at hn; cases hn
        simp only [if_neg hji]
        exact D.rk j ((done_set hj).resolve_left hji) hn
      · by_cases hji : j = i
        · subst hji
          rw [hsi] at hy
          cases hy
          simp only [if_true]
          exact ⟨.inr h2, h1⟩
        · simp only [if_neg hji]
          obtain ⟨a1, a2⟩ := D.sv j y ((done_set hj).resolve_left hji) hy
          exact ⟨hV' j _ _ _ a1 h3, a2⟩
    | none =>
      obtain ⟨f, s, e', hq, he', hvi⟩ := (hspec i o (by simpa using ho)).2 (by rw [Nat.zero_add]; exact hsi)
      rw [Nat.zero_add] at hq hvi
      have next : ∀ v w2, v = upO β s → Below w'.heap.size w' w2 → ∃ v', a'.put o.dst v = a'.put o.dst v' ∧ (((∀ j, m ≤ j → (listed.setIfInBounds i true).getD j false = false) ∧ DS ops (spM ops m sp) β vals V' w (listed.setIfInBounds i true) (fun j => if j = i then v' else vs j) w2) ∨ ∃ n', m < n' ∧ n' ≤ ops.size ∧ (∀ j, j < n' → (listed.setIfInBounds i true).getD j false = true) ∧ (∀ j, n' ≤ j → (listed.setIfInBounds i true).getD j false = false) ∧ ∀ a', Frm ops (fun j => if j = i then v' else vs j) a (listed.setIfInBounds i true) a' → wpL P ops (QK P Q ks) (ops.toList.drop n') a' w2) := by
        intro v w2 hv hb2
        refine ⟨v, rfl, hLs v w2 ⟨D.bw.trans (hb2.mono D.bw.size), wt', fun j hj hn => ?_, fun j y hj hy => ?_⟩⟩
        · by_cases hji : j = i
          · subst hji
            simp only [if_true]
            rw [hvi, hv]; rfl
          · simp only [if_neg hji]
            exact D.rk j ((done_set hj).resolve_left hji) hn
        · have hji : j ≠ i := fun e => by rw [e, hsi] at hy; cases hy
          simp only [if_neg hji]
          obtain ⟨a1, a2⟩ := D.sv j y ((done_set hj).resolve_left hji) hy
          exact ⟨hV' j _ _ _ a1 hb2, a2⟩
      have hgo : ∀ j b, o.guard = some (j, b) → spec (spM ops m sp) j = none := fun j b hg => by
        unfold gsB at hgs
        have := Array.all_eq_true.1 hgs i hio
        rw [Array.getElem?_eq_some_iff] at ho
        obtain ⟨_, ho⟩ := ho
        rw [ho, hg] at this
        simpa using this
      unfold qop at hq
      split at hq
      · next hw =>
        cases hq
        have hnw := wantS_ok D hsv hF hB dl hi hgo hw
        unfold wpG
        rw [hnw]
        simp only [Bool.false_eq_true, if_false]
        exact next undef w' rfl (Below.refl _ _)
      · cases hq
      · next hw =>
        have hnw := wantS_ok D hsv hF hB dl hi hgo hw
        unfold wpG
        rw [hnw]
        simp only [if_true]
        have hJ' : J w' := R.loc w w' I.hJ (Grow.of_below D.bw)
        have hevL : ∀ {xs : List Operand} {us : List Value}, (xs.mapM fun x => plain (evS ops c.tm (vals.take i) i x)) = some us → xs.map a'.eval = us := by
          intro xs
          induction xs with
          | nil => intro us h; simp at h; subst h; rfl
          | cons x xs ih =>
            intro us h
            rw [List.mapM_cons] at h
            cases h1 : plain (evS ops c.tm (vals.take i) i x) with
            | none => rw [h1] at h; simp at h
            | some v =>
              cases h2 : (xs.mapM fun x => plain (evS ops c.tm (vals.take i) i x)) with
              | none => rw [h1, h2] at h; simp at h
              | some us' =>
                rw [h1, h2] at h
                simp at h
                subst h
                rw [List.map_cons, ih h2, hev _ _ (plain_some h1)]
                rfl
        split at hq
        · simp only [Option.map_eq_some_iff, Prod.mk.injEq] at hq
          obtain ⟨sv, hn, rfl, rfl⟩ := hq
          exact natG_ok Y hev (fun id r h => (I.row _ (rowOf_mem h)).below D.bw) hn fun w2 hb2 => next _ w2 rfl hb2
        · next f =>
          split at hq
          · next g xs ts hop =>
            split at hq
            · next hfg =>
              subst hfg
              simp only [Option.map_eq_some_iff, Prod.mk.injEq] at hq
              obtain ⟨us', hm2, rfl, rfl⟩ := hq
              have h1 := hevL hm2
              have h2 := he' _ (List.mem_singleton.2 rfl)
              simp only [Value.tuple.injEq] at h2
              refine Oper.wp_mono ?_ (ob_fcall f.f xs ts hop (vs := f.args) ?_ (f.hr xs ts) (f.hc w' (hT w' hJ')))
              · rintro a2 w2 ⟨rfl, hb2⟩
                exact next _ w2 rfl hb2
              · rw [← h2, ← h1]
                apply Array.ext'
                simp
            · cases hq
          · cases hq
        · next f =>
          split at hq
          · next hok =>
            simp only [Option.map_eq_some_iff, Prod.mk.injEq] at hq
            obtain ⟨us', hm2, rfl, rfl⟩ := hq
            have h1 := hevL hm2
            have h2 := he' _ (List.mem_singleton.2 rfl)
            simp only [Value.tuple.injEq] at h2
            exact wp_of_run (f.h a' w' o (.inr (hT w' hJ')) hok (by rw [h1, h2])) (next _ w' rfl (Below.refl _ _))
          · cases hq
  · intro listed vs a' w' hd hF D
    rcases D with ⟨h1, _⟩ | ⟨n', h1, h2, h3, h4, h5⟩
    · have := hd m hmo
      rw [h1 m (Nat.le_refl _)] at this; cases this
    · have hn : n' = ops.size := by
        rcases Nat.eq_or_lt_of_le h2 with h | h
        · exact h
        · have := hd n' h
          rw [h4 n' (Nat.le_refl _)] at this; cases this
      have := h5 a' hF
      rw [hn, List.drop_eq_nil_of_le (by simp)] at this
      exact this
end
section
variable {P : Program} {J : World → Prop} {F : Nat → Prop} {ds : List Deferred} {β : Nat → Nat} {c : Cf} {a : Act} {w : World} {Q : Exit → Act → World → Prop}
def dnX (P : Program) {T : World → Prop} (m : Nat) (sp : Spt) (fs : List (Fa P T)) (c : Cf) : Option (Vs × List (Value × Value)) :=
  match drQ c with
  | some (ops, ks) => match goS P T (foV P) (ioV P) (spM ops m sp) ops c.tm c.rows ops.toList 0 [] fs with
    | some (vals, us, e) => if (backB2 ops && onceG ops && gsB ops (spM ops m sp) && dstB ops c.tm.length && idsB (tmM ops m sp c.tm vals fun _ => undef) c.nx && tailX ops m && (sp.all fun p => decide (p.1 < m))) = true then some (vals, e) else none
    | none => none
  | none => none
abbrev valsN (P : Program) {T : World → Prop} (m : Nat) (sp : Spt) (fs : List (Fa P T)) (c : Cf) : Vs := ((dnX P m sp fs c).map (·.1)).getD []
abbrev dnC (P : Program) {T : World → Prop} (m : Nat) (sp : Spt) (fs : List (Fa P T)) (c : Cf) (vs : Nat → Value) : Cf := { ops := opsD c, rest := (opsD c).toList.drop m, ks := ksD c, tm := tmM (opsD c) m sp c.tm (valsN P m sp fs c) vs, rows := c.rows, nx := c.nx, dn := none }
theorem dwN {T : World → Prop} (m : Nat) (sp : Spt) (hnd : ∀ (n : Nat) (o : Oper), m ≤ n → (opsD c)[n]? = some o → NoD P o) (fs : List (Fa P T)) (V : Nat → Value → World → Prop) (hV : ∀ i v w w', V i v w → Below w.heap.size w w' → V i v w') (R : Rsrc J F) (hT : ∀ w, J w → T w) (I : SI J F ds β c a w)
    (hsp : ∀ p ∈ sp, ∀ o, (opsD c)[p.1]? = some o → ∀ listed vs a' w', Frm (opsD c) vs a listed a' → p.1 ∈ Region.ready .any (opsD c) listed → Below w.heap.size w w' → (∀ q ∈ sp, listed.getD q.1 false = true → V q.1 (vs q.1) w') → (∀ x s, evS (opsD c) c.tm ((valsN P m sp fs c).take p.1) p.1 x = some s → a'.eval x = up β s) →
      wpG (opsD c) o P a' w' (fun a'' w'' => ∃ v, a'' = a'.put o.dst v ∧ (∀ u, p.2 = some u → v = u) ∧ V p.1 v w'' ∧ Below w'.heap.size w' w'') (QK P Q (ksD c)))
    (k : ∀ vs a' w', (∀ q ∈ sp, q.1 < (opsD c).size → V q.1 (vs q.1) w') → SI J F ds β (dnC P m sp fs c vs) a' w' → At P Q (dnC P m sp fs c vs) a' w') (hm : P.follows .mixedOrders = true := by kernel_rfl)
    (hs : (dnX P m sp fs c).isSome = true := by kernel_rfl) (he : (dnX P m sp fs c).map (fun r => r.2.map (·.1)) = (dnX P m sp fs c).map (fun r => r.2.map (·.2)) := by kernel_rfl) : At P Q c a w := by
  cases hx : dnX P m sp fs c with
  | none => rw [hx] at hs; cases hs
  | some r =>
    unfold valsN at hsp
    unfold dnC valsN at k
    rw [hx] at he k hsp
    unfold dnX at hx
    unfold opsD ksD at hsp k
    unfold opsD at hnd
    split at hx
    · next ops ks hc =>
      rw [hc] at hsp k hnd
      split at hx
      · next vals us e hg =>
        split at hx
        · next hb =>
          cases hx
          simp only [Option.map_some, Option.some.injEq, Option.getD_some] at he k hsp hnd
          simp only [Bool.and_eq_true] at hb
          exact drawN m (ty_ok hm) R hT V hV hc hg (eqs_of he) hb.1.1.1.1.1.1 hb.1.1.1.1.1.2 hb.1.1.1.1.2 hb.1.1.1.2 hb.1.1.2 hb.1.2 hnd hb.2 I (fun i x o hx ho => hsp (i, x) (spec_mem hx) o ho) k
        · cases hx
      · cases hx
    · cases hx
end
theorem noD_store {P : Program} {o : Oper} {t : TypeId} {x y : Operand} (hop : o.op = .store t x y) : NoD P o := ⟨fun a w d w' h => by
  unfold execOp at h
  simp only [hop, Sem.run_bind] at h
  cases hq : (Instr.storeAt t (a.eval x) (a.eval y)).run P w with
  | ok u w2 => rw [hq] at h; simp [Result.andThen] at h
  | halt s w2 => rw [hq] at h; simp [Result.andThen] at h⟩
theorem noD_field {P : Program} {o : Oper} {t : TypeId} {x : Operand} {f : Nat} (hop : o.op = .fieldAddr t x f) : NoD P o := ⟨fun a w d w' h => by
  unfold execOp at h
  simp only [hop, Sem.run_bind] at h
  cases hq : (Instr.fieldAt t (a.eval x) f).run P w with
  | ok u w2 => rw [hq] at h; simp [Result.andThen] at h
  | halt s w2 => rw [hq] at h; simp [Result.andThen] at h⟩
theorem noD_app {P : Program} {o : Oper} {xs : Array Operand} {ts : Array TypeId} (hop : o.op = .call ⟨.builtin .append, xs, ts⟩) : NoD P o := ⟨fun a w d w' h => by
  have he : ∃ ty, (execOp a.eval o).run P w = ((Builtin.append_ ts ty (xs.map a.eval)).run P w).andThen fun v w2 => .ok (.value v) w2 := by
    refine ⟨o.type, ?_⟩
    unfold execOp
    simp only [hop, resolve, invoke, Sem.run_bind, Sem.run_pure, Result.andThen_ok, builtin]
  obtain ⟨ty, he⟩ := he
  rw [he] at h
  cases hq : (Builtin.append_ ts ty (xs.map a.eval)).run P w with
  | ok u w2 => rw [hq] at h; simp [Result.andThen] at h
  | halt s w2 => rw [hq] at h; simp [Result.andThen] at h⟩
end Go.Proofs.Ytdiblfgnnliifaa
