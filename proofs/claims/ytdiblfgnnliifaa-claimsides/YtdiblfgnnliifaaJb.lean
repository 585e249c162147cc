/- Ground out of other seats: slices in memory, drawn regions that lay a number. -/
import Derived.Test.YtdiblfgnnliifaaUa
import Derived.Test.YtdiblfgnnliifaaNa
import Derived.Test.YtdiblfgnnliifaaJa
namespace Go.Proofs.Ytdiblfgnnliifaa
open Go.RowKit Go.Sort
set_option linter.unusedVariables false
set_option maxRecDepth 100000
theorem Grow.mono {F G : Nat → Prop} {w w' : World} (h : Grow F w w') (k : ∀ i, G i → F i) : Grow G w w' := ⟨h.os, h.tape, h.output, h.size, fun i hi hG => h.block i hi (k i hG)⟩
theorem CellsAt.lt {w : World} {g o : Nat} {c : Value} {cs : List Value} (h : CellsAt w g o (c :: cs)) : g < w.heap.size := by
  have := h 0 c rfl
  unfold World.cell? at this
  cases hg : w.heap[g]? with
  | none => simp [hg] at this
  | some x => exact (Array.getElem?_eq_some_iff.1 hg).1
theorem CellsAt.keep {w w' : World} {g o : Nat} {cs : List Value} (h : CellsAt w g o cs) (hb : w'.heap[g]? = w.heap[g]?) : CellsAt w' g o cs := fun j c hc => by
  rw [← h j c hc]
  simp [World.cell?, hb]
theorem Rsrc.both {J1 J2 : World → Prop} {F1 F2 : Nat → Prop} (a : Rsrc J1 F1) (b : Rsrc J2 F2) : Rsrc (fun w => J1 w ∧ J2 w) (fun k => F1 k ∨ F2 k) :=
  ⟨fun w w' h g => ⟨a.loc w w' h.1 (g.mono fun k hk => .inl hk), b.loc w w' h.2 (g.mono fun k hk => .inr hk)⟩, fun w k h hk => hk.elim (a.lt w k h.1) (b.lt w k h.2)⟩
theorem info_of {t : Nat} {z : Value} {s b : Nat} (h : (Try.prog.info? t).map (fun i => (i.zero, i.size, i.bytes)) = some (some z, s, b)) : ∃ i, Try.prog.info? t = some i ∧ i.zero = some z ∧ i.size = s ∧ i.bytes = b := by
  cases hq : Try.prog.info? t with
  | none => rw [hq] at h; simp at h
  | some i => rw [hq] at h; simp at h; exact ⟨i, rfl, h.1, h.2.1, h.2.2⟩
theorem RO.start (w : World) (g e sz : Nat) : RO w g e sz (.slice none 0 0) 0 [] w := ⟨Grow.refl _ _, World.ownsRow_nil _ _ _ _⟩
theorem neqT_run {a b : ByteArray} {q : Bool} (h : decide (a ≠ b) = q) (x y : Operand) (w : World) : (do eqGuard .neq 9 x y (.string a) (.string b); binOp .neq 9 (.string a) (.string b) : Sem Value).run Try.prog w = .ok (.bool q) w := by
  obtain ⟨la, rfl⟩ : ∃ l : List UInt8, a = ⟨l.toArray⟩ := ⟨a.data.toList, by simp⟩
  obtain ⟨lb, rfl⟩ : ∃ l : List UInt8, b = ⟨l.toArray⟩ := ⟨b.data.toList, by simp⟩
  have e : ((⟨la.toArray⟩ : ByteArray) = ⟨lb.toArray⟩) ↔ la = lb := ⟨fun e => by have := congrArg ByteArray.data e; simpa using this, fun e => by rw [e]⟩
  rw [← h]
  by_cases hx : la = lb
  · simp [go_sem, hx]
  · have h2 : ¬ ((⟨la.toArray⟩ : ByteArray) = ⟨lb.toArray⟩) := fun q => hx (e.1 q)
    simp [go_sem, hx]
theorem geqT_run {a b : ByteArray} {q : Bool} (h : (!ltB a b) = q) (x y : Operand) (w : World) : (do eqGuard .geq 9 x y (.string a) (.string b); binOp .geq 9 (.string a) (.string b) : Sem Value).run Try.prog w = .ok (.bool q) w := by
  have h1 : (binOp .geq 9 (.string a) (.string b)).run Try.prog w = .ok (.bool (!ltB a b)) w := by
    unfold binOp
    rfl
  rw [← h]
  simp [go_sem, h1]
theorem thenR {P : Program} {Q : Exit → Act → World → Prop} {N : Act → World → Prop} {ks : List Ki} {a : Act} {w : World} (h : Q .ret a w) : Exit.then N (QK P Q ks) .ret a w := retQ_ok h
theorem sum_take {α : Type} (f : α → Nat) (l : List α) {i : Nat} {x : α} (h : l[i]? = some x) : ((l.take (i + 1)).map f).sum = ((l.take i).map f).sum + f x := by
  rw [List.take_add_one, h, List.map_append, List.sum_append]
  simp
theorem sum_take_le {α : Type} (f : α → Nat) (l : List α) (i : Nat) : ((l.take i).map f).sum ≤ (l.map f).sum := by
  conv => rhs; rw [← List.take_append_drop i l, List.map_append, List.sum_append]
  omega
abbrev rU (n : Nat) : Array Value := #[B (l0 n), B (l1 n), B (l2 n), B (l3 n)]
theorem eqU_run {n m : Nat} (hn : n < W) (hm : m < W) {b : Bool} (h : decide (n = m) = b) (x y : Operand) (w : World) : (do eqGuard .eql 25 x y (U n) (U m); binOp .eql 25 (U n) (U m) : Sem Value).run Try.prog w = .ok (.bool b) w := by
  have he := run_eqU n m hn hm w
  rw [h] at he
  have hg : (eqGuard .eql 25 x y (U n) (U m)).run Try.prog w = .ok () w := by
    unfold eqGuard
    simp [go_sem]
  simp only [Sem.run_bind, hg, Result.andThen_ok]
  unfold binOp Op.equal
  simp only [Sem.run_bind]
  rw [show Op.maxDepth = 10000 from rfl, he]
  rfl
theorem neqU_run {n m : Nat} (hn : n < W) (hm : m < W) {b : Bool} (h : decide (n ≠ m) = b) (x y : Operand) (w : World) : (do eqGuard .neq 25 x y (U n) (U m); binOp .neq 25 (U n) (U m) : Sem Value).run Try.prog w = .ok (.bool b) w := by
  have he := run_eqU n m hn hm w
  have hg : (eqGuard .neq 25 x y (U n) (U m)).run Try.prog w = .ok () w := by
    unfold eqGuard
    simp [go_sem]
  simp only [Sem.run_bind, hg, Result.andThen_ok]
  unfold binOp Op.equal
  simp only [Sem.run_bind]
  rw [show Op.maxDepth = 10000 from rfl, he]
  subst h
  by_cases hq : n = m <;> simp [go_sem, hq]
section
variable {P : Program} {J : World → Prop} {F : Nat → Prop} {ds : List Deferred} {β : Nat → Nat} {c : Cf} {ops : Array Oper} {a : Act} {w : World} {Q : Exit → Act → World → Prop}
theorem s_at_reg {ks : List Ki} (hm : P.follows .mixedOrders = true) (hc : drQ c = some (ops, ks)) (h : RegV P ops (QK P Q ks) a w) : At P Q c a w := by
  unfold drQ at hc
  split at hc
  · next rid ops' ks' hd hr hk =>
    cases hc
    refine ⟨?_⟩
    unfold AtD
    rw [hd, hr, hk]
    show (Code.region rid ops true).wp P (QK P Q ks) a w
    exact RegV.wp hm h
  · cases hc
end
section
variable {P : Program} {T : World → Prop} {fo : Nat → Nat → Option Nat} {io : Nat → Int → Option Nat} {ze : Nat → Option (Array Value)} {ops : Array Oper} {tm : Vs} {rows : Rows} {sp : Spt}
theorem drawC {J : World → Prop} {F : Nat → Prop} {ds : List Deferred} {β : Nat → Nat} {c : Cf} {a : Act} {w : World} {Q : Exit → Act → World → Prop} (Y : Ty P fo io ze) (R : Rsrc J F) (hT : ∀ w, J w → T w) {ks : List Ki} {fs us : List (Fa P T)} {vals : Vs} {e : List (Value × Value)} (C : Array Bool → (Nat → Value) → World → Prop) (hC0 : ∀ w1, Below w.heap.size w w1 → C (Array.replicate ops.size false) (fun _ => undef) w1) (hCk : ∀ listed vs w' w'' i v, spec sp i = none → C listed vs w' → Below w'.heap.size w' w'' → C (listed.setIfInBounds i true) (fun j => if j = i then v else vs j) w'')
    (hc : drQ c = some (ops, ks)) (hg : goS P T fo io sp ops c.tm c.rows ops.toList 0 [] fs = some (vals, us, e)) (he : ∀ p ∈ e, p.1 = p.2) (hb : backB2 ops = true) (hB : onceG ops = true) (hgs : gsB ops sp = true) (hds : dstB ops c.tm.length = true)
    (hids : idsB (tmS ops sp c.tm vals fun _ => undef) c.nx = true) (I : SI J F ds β c a w)
    (hsp : ∀ i x o, spec sp i = some x → ops[i]? = some o → ∀ listed vs a' w', Frm ops vs a listed a' → i ∈ Region.ready .any ops listed → Below w.heap.size w w' → C listed vs w' → (∀ x s, evS ops c.tm (vals.take i) i x = some s → a'.eval x = up β s) →
      wpG ops o P a' w' (fun a'' w'' => ∃ v, a'' = a'.put o.dst v ∧ (∀ u, x = some u → v = u) ∧ C (listed.setIfInBounds i true) (fun j => if j = i then v else vs j) w'' ∧ Below w.heap.size w' w'') (QK P Q ks))
    (k : ∀ listed vs a' w', (∀ j, j < ops.size → listed.getD j false = true) → C listed vs w' → SI J F ds β { ops := #[], rest := [], ks := ks, tm := tmS ops sp c.tm vals vs, rows := c.rows, nx := c.nx, dn := none } a' w' → At P Q { ops := #[], rest := [], ks := ks, tm := tmS ops sp c.tm vals vs, rows := c.rows, nx := c.nx, dn := none } a' w') : At P Q c a w := by
  obtain ⟨hvl, _, hspec⟩ := goS_spec (k := 0) (v0 := []) rfl hg he
  have htm : a.tmps.size = c.tm.length := by rw [I.fr]; simp
  have dl : ∀ t j, wr ops t = some j → t < a.tmps.size := fun t j h => by rw [htm]; exact dstB_ok hds h
  have hsv : ∀ j x, spec sp j = some x → j < ops.size → vals[j]? = some (x.map Sum.inl) := fun j x hx hj => by
    have := (hspec j ops[j] (by simp [hj])).1 x (by rw [Nat.zero_add]; exact hx)
    rwa [Nat.zero_add] at this
  refine s_at_reg Y.hm hc ?_
  refine regV_vals3 hb hB (fun listed vs w' => DS ops sp β vals (fun _ _ _ => True) w listed vs w' ∧ C listed vs w') ?_ ?_ ?_
  · intro w1 h1
    have hf : ∀ j, ¬ (Array.replicate ops.size false).getD j false = true := fun j h => by
      rw [Array.getD_eq_getD_getElem?, Array.getElem?_replicate] at h
      split at h <;> simp at h
    have hbl : Below w.heap.size w w1 := by
      rcases h1 with rfl | rfl
      · exact Below.refl _ _
      · exact ⟨rfl, rfl, rfl, Nat.le_refl _, fun _ _ => rfl⟩
    exact ⟨⟨hbl, fun j k _ h => absurd h (hf k), fun j h => absurd h (hf j), fun j x h => absurd h (hf j)⟩, hC0 w1 hbl⟩
  · rintro listed vs a' w' i o hs ho hi hF ⟨D, hC⟩
    have hun := undone hi hs
    have hio : i < ops.size := (Array.getElem?_eq_some_iff.1 ho).1
    have hev : ∀ x s, evS ops c.tm (vals.take i) i x = some s → a'.eval x = up β s := fun x s h => evF_ok D hsv hF I.fr hs hi h
    have wt' : ∀ j k, waitsB ops k j = true → (listed.setIfInBounds i true).getD k false = true → (listed.setIfInBounds i true).getD j false = true := fun j k hw hk => by
      rcases done_set hk with rfl | hk
      · exact done_keep (waits_done hw hi)
      · exact done_keep (D.wt j k hw hk)
    cases hsi : spec sp i with
    | some x =>
      refine wpG_mono (fun a'' w'' h => ?_) (hsp i x o hsi ho listed vs a' w' hF hi D.bw hC hev)
      obtain ⟨v, rfl, h1, h2, h3⟩ := h
      refine ⟨v, rfl, ⟨D.bw.trans h3, wt', fun j hj hn => ?_, fun j y hj hy => ?_⟩, h2⟩
      · have hji : j ≠ i := fun e => by rw [e, hsi] at hn; cases hn
        simp only [if_neg hji]
        exact D.rk j ((done_set hj).resolve_left hji) hn
      · by_cases hji : j = i
        · subst hji
          rw [hsi] at hy
          cases hy
          simp only [if_true]
          exact ⟨trivial, h1⟩
        · simp only [if_neg hji]
          obtain ⟨a1, a2⟩ := D.sv j y ((done_set hj).resolve_left hji) hy
          exact ⟨trivial, a2⟩
    | none =>
      obtain ⟨f, s, e', hq, he', hvi⟩ := (hspec i o (by simpa using ho)).2 (by rw [Nat.zero_add]; exact hsi)
      rw [Nat.zero_add] at hq hvi
      have next : ∀ v w2, v = upO β s → Below w'.heap.size w' w2 → ∃ v', a'.put o.dst v = a'.put o.dst v' ∧ (DS ops sp β vals (fun _ _ _ => True) w (listed.setIfInBounds i true) (fun j => if j = i then v' else vs j) w2 ∧ C (listed.setIfInBounds i true) (fun j => if j = i then v' else vs j) w2) := by
        intro v w2 hv hb2
        refine ⟨v, rfl, ⟨D.bw.trans (hb2.mono D.bw.size), wt', fun j hj hn => ?_, fun j y hj hy => ?_⟩, hCk listed vs w' w2 i v hsi hC hb2⟩
        · by_cases hji : j = i
          · subst hji
            simp only [if_true]
            rw [hvi, hv]; rfl
          · simp only [if_neg hji]
            exact D.rk j ((done_set hj).resolve_left hji) hn
        · have hji : j ≠ i := fun e => by rw [e, hsi] at hy; cases hy
          simp only [if_neg hji]
          obtain ⟨a1, a2⟩ := D.sv j y ((done_set hj).resolve_left hji) hy
          exact ⟨trivial, a2⟩
      have hgo : ∀ j b, o.guard = some (j, b) → spec sp j = none := fun j b hg => by
        unfold gsB at hgs
        have := Array.all_eq_true.1 hgs i hio
        rw [Array.getElem?_eq_some_iff] at ho
        obtain ⟨_, ho⟩ := ho
        rw [ho, hg] at this
        simpa using this
      unfold qop at hq
      split at hq
      · next hw =>
        cases hq
        have hnw := wantS_ok D hsv hF hB dl hi hgo hw
        unfold wpG
        rw [hnw]
        simp only [Bool.false_eq_true, if_false]
        exact next undef w' rfl (Below.refl _ _)
      · cases hq
      · next hw =>
        have hnw := wantS_ok D hsv hF hB dl hi hgo hw
        unfold wpG
        rw [hnw]
        simp only [if_true]
        have hJ' : J w' := R.loc w w' I.hJ (Grow.of_below D.bw)
        have hevL : ∀ {xs : List Operand} {us : List Value}, (xs.mapM fun x => plain (evS ops c.tm (vals.take i) i x)) = some us → xs.map a'.eval = us := by
          intro xs
          induction xs with
          | nil => intro us h; simp at h; subst h; rfl
          | cons x xs ih =>
            intro us h
            rw [List.mapM_cons] at h
            cases h1 : plain (evS ops c.tm (vals.take i) i x) with
            | none => rw [h1] at h; simp at h
            | some v =>
              cases h2 : (xs.mapM fun x => plain (evS ops c.tm (vals.take i) i x)) with
              | none => rw [h1, h2] at h; simp at h
              | some us' =>
                rw [h1, h2] at h
                simp at h
                subst h
                rw [List.map_cons, ih h2, hev _ _ (plain_some h1)]
                rfl
        split at hq
        · simp only [Option.map_eq_some_iff, Prod.mk.injEq] at hq
          obtain ⟨sv, hn, rfl, rfl⟩ := hq
          exact natG_ok Y hev (fun id r h => (I.row _ (rowOf_mem h)).below D.bw) hn fun w2 hb2 => next _ w2 rfl hb2
        · next f =>
          split at hq
          · next g xs ts hop =>
            split at hq
            · next hfg =>
              subst hfg
              simp only [Option.map_eq_some_iff, Prod.mk.injEq] at hq
              obtain ⟨us', hm2, rfl, rfl⟩ := hq
              have h1 := hevL hm2
              have h2 := he' _ (List.mem_singleton.2 rfl)
              simp only [Value.tuple.injEq] at h2
              refine Oper.wp_mono ?_ (ob_fcall f.f xs ts hop (vs := f.args) ?_ (f.hr xs ts) (f.hc w' (hT w' hJ')))
              · rintro a2 w2 ⟨rfl, hb2⟩
                exact next _ w2 rfl hb2
              · rw [← h2, ← h1]
                apply Array.ext'
                simp
            · cases hq
          · cases hq
        · next f =>
          split at hq
          · next hok =>
            simp only [Option.map_eq_some_iff, Prod.mk.injEq] at hq
            obtain ⟨us', hm2, rfl, rfl⟩ := hq
            have h1 := hevL hm2
            have h2 := he' _ (List.mem_singleton.2 rfl)
            simp only [Value.tuple.injEq] at h2
            exact wp_of_run (f.h a' w' o (.inr (hT w' hJ')) hok (by rw [h1, h2])) (next _ w' rfl (Below.refl _ _))
          · cases hq
  · rintro listed vs a' w' hd hF ⟨D, hC⟩
    have hfr : a'.tmps = ((tmS ops sp c.tm vals vs).map (upO β)).toArray := by
      apply Array.ext_getElem?
      intro t
      by_cases ht : t < a.tmps.size
      · have ht' : t < c.tm.length := by omega
        rw [hF.2.2 t ht]
        have e0 : a.tmps[t]? = some (upO β (c.tm[t]?).join) := by
          rw [I.fr]
          simp [List.getElem?_eq_getElem ht']
        simp only [List.getElem?_toArray, tmS, List.getElem?_map, List.getElem?_range ht', Option.map_some]
        cases hw : wr ops t with
        | none => exact e0
        | some j =>
          have hj := (wr_dst hw).2
          simp only []
          rw [if_pos (hd j hj)]
          cases hs : spec sp j with
          | none => simp only []; rw [D.rk j (hd j hj) hs]
          | some x => rfl
      · rw [Array.getElem?_eq_none (by have := hF.2.1; omega), Array.getElem?_eq_none (by simp [tmS]; omega)]
    have := (k listed vs a' w' hd hC ⟨hfr, hF.1.trans I.df, R.loc w w' I.hJ (Grow.of_below D.bw), fun p hp => (I.row p hp).below D.bw, I.dis, I.lt, I.inj, ids_tmS hids⟩).out
    exact this
end
section
variable {P : Program} {J : World → Prop} {F : Nat → Prop} {ds : List Deferred} {β : Nat → Nat} {c : Cf} {a : Act} {w : World} {Q : Exit → Act → World → Prop}
theorem dwC {T : World → Prop} (sp : Spt) (fs : List (Fa P T)) (C : Array Bool → (Nat → Value) → World → Prop) (hC0 : ∀ w1, Below w.heap.size w w1 → C (Array.replicate (opsD c).size false) (fun _ => undef) w1) (hCk : ∀ listed vs w' w'' i v, spec sp i = none → C listed vs w' → Below w'.heap.size w' w'' → C (listed.setIfInBounds i true) (fun j => if j = i then v else vs j) w'') (R : Rsrc J F) (hT : ∀ w, J w → T w) (I : SI J F ds β c a w)
    (hsp : ∀ p ∈ sp, ∀ o, (opsD c)[p.1]? = some o → ∀ listed vs a' w', Frm (opsD c) vs a listed a' → p.1 ∈ Region.ready .any (opsD c) listed → Below w.heap.size w w' → C listed vs w' → (∀ x s, evS (opsD c) c.tm ((valsD P sp fs c).take p.1) p.1 x = some s → a'.eval x = up β s) →
      wpG (opsD c) o P a' w' (fun a'' w'' => ∃ v, a'' = a'.put o.dst v ∧ (∀ u, p.2 = some u → v = u) ∧ C (listed.setIfInBounds p.1 true) (fun j => if j = p.1 then v else vs j) w'' ∧ Below w.heap.size w' w'') (QK P Q (ksD c)))
    (k : ∀ listed vs a' w', (∀ j, j < (opsD c).size → listed.getD j false = true) → C listed vs w' → SI J F ds β (dsC P sp fs c vs) a' w' → At P Q (dsC P sp fs c vs) a' w') (hm : P.follows .mixedOrders = true := by kernel_rfl)
    (hs : (dsX P sp fs c).isSome = true := by kernel_rfl) (he : (dsX P sp fs c).map (fun r => r.2.map (·.1)) = (dsX P sp fs c).map (fun r => r.2.map (·.2)) := by kernel_rfl) : At P Q c a w := by
  cases hx : dsX P sp fs c with
  | none => rw [hx] at hs; cases hs
  | some r =>
    unfold valsD at hsp
    unfold dsC valsD at k
    rw [hx] at he k hsp
    unfold dsX at hx
    unfold opsD ksD at hsp k
    unfold opsD at hC0
    split at hx
    · next ops ks hc =>
      rw [hc] at hsp k hC0
      split at hx
      · next vals us e hg =>
        split at hx
        · next hb =>
          cases hx
          simp only [Option.map_some, Option.some.injEq, Option.getD_some] at he k hsp hC0
          simp only [Bool.and_eq_true] at hb
          exact drawC (ty_ok hm) R hT C hC0 hCk hc hg (eqs_of he) hb.1.1.1.1 hb.1.1.1.2 hb.1.1.2 hb.1.2 hb.2 I (fun i x o hx ho => hsp (i, x) (spec_mem hx) o ho) k
        · cases hx
      · cases hx
    · cases hx
def adC (c : Cf) (t : Nat) (r : Array Value) : Cf := { c with tm := c.tm.set t (some (Sum.inr (c.nx, 0))), rows := (c.nx, r) :: c.rows, nx := c.nx + 1 }
theorem adopt (t : Nat) {g : Nat} {r : Array Value} (I : SI J F ds β c a w) (ht : (c.tm[t]?).join = some (Sum.inl (.pointer (some ⟨g, 0, none⟩)))) (hr : HasRow w g r) (hF : ¬ F g) (hd : ∀ p ∈ c.rows, β p.1 ≠ g)
    (k : ∀ β', Agree c.nx β β' → β' c.nx = g → SI J F ds β' (adC c t r) a w → At P Q (adC c t r) a w) : At P Q c a w := by
  have hbe : ∀ i, i < c.nx → (fun i => if i = c.nx then g else β i) i = β i := fun i hi => by simp only [if_neg (show ¬ i = c.nx by omega)]
  have hup : ∀ s : Option SV, (∀ i o, s = some (Sum.inr (i, o)) → i < c.nx) → upO (fun i => if i = c.nx then g else β i) s = upO β s := by
    intro s hs
    rcases s with _ | v | ⟨i, o⟩
    · rfl
    · rfl
    · simp only [upO, up, hbe i (hs i o rfl)]
  have := k (fun i => if i = c.nx then g else β i) (fun i hi => hbe i hi) (by simp) ⟨?_, I.df, I.hJ, ?_, ?_, ?_, ?_, ?_⟩
  · exact ⟨this.out⟩
  · rw [I.fr]
    congr 1
    refine List.ext_getElem? fun i => ?_
    simp only [adC, List.getElem?_map, List.getElem?_set]
    by_cases hit : t = i
    · subst hit
      cases hq : c.tm[t]? with
      | none => rw [hq] at ht; cases ht
      | some s =>
        rw [hq] at ht
        simp only [Option.join_some] at ht
        subst ht
        have hlt : t < c.tm.length := (List.getElem?_eq_some_iff.1 hq).1
        simp [hlt, upO, up]
    · rw [if_neg hit]
      cases hq : c.tm[i]? with
      | none => rfl
      | some s =>
        simp only [Option.map_some]
        rw [hup s fun i' o hs => idsB_get I.ids (t := i) (by rw [hq, hs]; rfl)]
  · intro p hp
    rcases List.mem_cons.1 hp with rfl | hp
    · simpa using hr
    · have := I.row p hp
      simp only [if_neg (show ¬ p.1 = c.nx by have := I.lt p hp; omega)]
      exact this
  · intro p hp
    rcases List.mem_cons.1 hp with rfl | hp
    · simpa using hF
    · simp only [if_neg (show ¬ p.1 = c.nx by have := I.lt p hp; omega)]
      exact I.dis p hp
  · intro p hp
    rcases List.mem_cons.1 hp with rfl | hp
    · exact Nat.lt_succ_self _
    · exact Nat.lt_succ_of_lt (I.lt p hp)
  · intro p hp q hq hne
    rcases List.mem_cons.1 hp with rfl | hp
    · rcases List.mem_cons.1 hq with rfl | hq
      · exact absurd rfl hne
      · have h1 := I.lt q hq
        simp only [if_true, if_neg (show ¬ q.1 = c.nx by omega)]
        exact fun e => hd q hq e.symm
    · have h1 := I.lt p hp
      rcases List.mem_cons.1 hq with rfl | hq
      · simp only [if_true, if_neg (show ¬ p.1 = c.nx by omega)]
        exact hd p hp
      · have h2 := I.lt q hq
        simp only [if_neg (show ¬ p.1 = c.nx by omega), if_neg (show ¬ q.1 = c.nx by omega)]
        exact I.inj p hp q hq hne
  · have h0 := I.ids
    unfold idsB at h0 ⊢
    rw [List.all_eq_true] at h0 ⊢
    intro x hx
    rcases List.mem_or_eq_of_mem_set hx with hx | rfl
    · have := h0 x hx
      rcases x with _ | v | ⟨i, o⟩
      · rfl
      · rfl
      · simp only [decide_eq_true_eq] at this ⊢
        exact Nat.lt_succ_of_lt this
    · simp [adC]
theorem allocG {ops : Array Oper} {K : Act → World → Prop} {o : Oper} {t : TypeId} {r : Array Value} (hop : o.op = .alloc t) (hg : o.guard = none) (hz : zeV P t = some r) (hm : P.follows .mixedOrders = true) (hK : ∀ w', Below w.heap.size w w' → HasRow w' w.heap.size r → K (a.put o.dst (.pointer (some ⟨w.heap.size, 0, none⟩))) w') : wpG ops o P a w K Q := by
  refine wpG_plain hg ?_
  obtain ⟨t', h1⟩ := (ty_ok hm).hze t r hz a.eval o w hop
  exact wp_of_run h1 (hK _ (below_alloc w _) ⟨t', Array.getElem?_push_size⟩)
abbrev cfK (c : Cf) (tm : Vs) (rows : Rows) (nx : Nat) : Cf := { ops := opsD c, rest := [], ks := ksD c, tm := tm, rows := rows, nx := nx, dn := none }
theorem meet (I : SI J F ds β c a w) (H : Prop) (X : Cf → (Nat → Value) → Cf) (D : H → ∀ u a' w', SI J F ds β (X c u) a' w' → At P Q (X c u) a' w') (k : (H → ∀ u a' w', SI J F ds β (X c u) a' w' → At P Q (X c u) a' w') → At P Q c a w) : At P Q c a w := k D
end
theorem zeU : zeV Try.prog 25 = some (rU 0) := by kernel_rfl
section
variable {J : World → Prop} {F : Nat → Prop} {ds : List Deferred} {β : Nat → Nat} {c : Cf} {a : Act} {w : World} {Q : Exit → Act → World → Prop}
theorem dwA {T : World → Prop} (ia is d x n : Nat) (fs : List (Fa Try.prog T)) (R : Rsrc J F) (hT : ∀ w, J w → T w) (I : SI J F ds β c a w)
    (k : ∀ (b : Nat) (vs : Nat → Value) β' a' w', Agree c.nx β β' → SI J F ds β' (adC (dsC Try.prog [(ia, none), (is, none)] fs c (fun j => if j = ia then .pointer (some ⟨b, 0, none⟩) else vs j)) d (rU n)) a' w' → At Try.prog Q (adC (dsC Try.prog [(ia, none), (is, none)] fs c (fun j => if j = ia then .pointer (some ⟨b, 0, none⟩) else vs j)) d (rU n)) a' w')
    (hne : decide (is ≠ ia) = true := by kernel_rfl) (h1 : ((opsD c)[ia]?).map (fun o => (o.op, o.dst, o.guard)) = some (.alloc 25, some d, none) := by kernel_rfl) (h2 : ((opsD c)[is]?).map (fun o => (o.op, o.dst, o.guard)) = some (.store 25 (.tmp d) (.tmp x), none, none) := by kernel_rfl)
    (h3 : waitsB (opsD c) is ia = true := by kernel_rfl) (h4 : wr (opsD c) d = some ia := by kernel_rfl) (h5 : evS (opsD c) c.tm ((valsD Try.prog [(ia, none), (is, none)] fs c).take is) is (.tmp x) = some (Sum.inl (U n)) := by kernel_rfl) (h6 : decide (d < c.tm.length) = true := by kernel_rfl)
    (h7 : decide (ia < (opsD c).size ∧ is < (opsD c).size) = true := by kernel_rfl) (h8 : ∀ (b : Nat) (vs : Nat → Value), ((dsC Try.prog [(ia, none), (is, none)] fs c (fun j => if j = ia then .pointer (some ⟨b, 0, none⟩) else vs j)).tm[d]?).join = some (Sum.inl (.pointer (some ⟨b, 0, none⟩))) := by intro b vs; kernel_rfl)
    (hs : (dsX Try.prog [(ia, none), (is, none)] fs c).isSome = true := by kernel_rfl) (he : (dsX Try.prog [(ia, none), (is, none)] fs c).map (fun r => r.2.map (·.1)) = (dsX Try.prog [(ia, none), (is, none)] fs c).map (fun r => r.2.map (·.2)) := by kernel_rfl) : At Try.prog Q c a w := by
  have hne := of_decide_eq_true hne
  have h6 := of_decide_eq_true h6
  obtain ⟨h7a, h7s⟩ := of_decide_eq_true h7
  have hsz : a.tmps.size = c.tm.length := by rw [I.fr]; simp
  have hbit : ∀ {i : Nat} {listed : Array Bool}, i ∈ Region.ready .any (opsD c) listed → i < listed.size ∧ ¬ listed.getD i false = true := by
    intro i listed hrd
    obtain ⟨hun, o', ho', _⟩ := mem_ready.1 hrd
    have hlt : i < listed.size := by
      rcases Nat.lt_or_ge i listed.size with h | h
      · exact h
      · rw [Array.getD_eq_getD_getElem?, Array.getElem?_eq_none h] at hun; cases hun
    refine ⟨hlt, fun h => ?_⟩
    simp [Array.getD, hlt] at hun h
    rw [hun] at h; cases h
  have hset : ∀ {i : Nat} {listed : Array Bool}, i < listed.size → (listed.setIfInBounds i true).getD i false = true := by
    intro i listed hlt
    rw [Array.getD_eq_getD_getElem?, Array.getElem?_setIfInBounds, if_pos rfl, if_pos hlt]; rfl
  refine dwC (T := T) [(ia, none), (is, none)] fs
    (fun listed vs w' => (listed.getD is false = true → listed.getD ia false = true) ∧ (listed.getD ia false = true → ∃ b5, vs ia = .pointer (some ⟨b5, 0, none⟩) ∧ w.heap.size ≤ b5 ∧ HasRow w' b5 (if listed.getD is false = true then rU n else rU 0))) (fun w1 hb => by
      have hf : ∀ n j, ¬ (Array.replicate n false).getD j false = true := fun n j h => by
        rw [Array.getD_eq_getD_getElem?, Array.getElem?_replicate] at h
        split at h <;> simp at h
      exact ⟨fun h => absurd h (hf _ _), fun h => absurd h (hf _ _)⟩) (fun listed vs w' w'' i v hsp h hb => by
      have hi1 : i ≠ ia := fun e => by subst e; simp [spec] at hsp
      have hi2 : i ≠ is := fun e => by
        subst e
        unfold spec at hsp
        rw [Option.map_eq_none_iff, List.find?_eq_none] at hsp
        exact hsp (i, none) (by simp) (by simp)
      refine ⟨fun h12 => done_keep (h.1 ((done_set h12).resolve_left fun e => hi2 e.symm)), fun h11 => ?_⟩
      have h := h.2
      have e12 : (listed.setIfInBounds i true).getD is false = listed.getD is false := by
        rw [Array.getD_eq_getD_getElem?, Array.getElem?_setIfInBounds, if_neg hi2, ← Array.getD_eq_getD_getElem?]
      obtain ⟨b5, q1, q2, q3⟩ := h ((done_set h11).resolve_left fun e => hi1 e.symm)
      rw [e12]
      exact ⟨b5, by simp only [if_neg (show ¬ ia = i from fun e => hi1 e.symm)]; exact q1, q2, q3.below hb⟩) R hT I ?_ ?_ (by kernel_rfl) hs he
  · intro p hp2 o ho listed vs a' w' hF hrd hbw hC hev
    simp only [List.mem_cons, List.not_mem_nil, or_false] at hp2
    rcases hp2 with rfl | rfl
    · obtain ⟨o1, o2, o3⟩ := opD_get ho h1
      obtain ⟨hlt, hn11⟩ := hbit hrd
      have h12 : ¬ (listed.setIfInBounds ia true).getD is false = true := fun h => hn11 (hC.1 ((done_set h).resolve_left hne))
      refine allocG o1 o3 zeU (by kernel_rfl) fun w2 hb2 hr => ⟨_, rfl, fun u hu => (by cases hu), ⟨fun _ => hset hlt, fun _ => ⟨w'.heap.size, by simp, hbw.size, ?_⟩⟩, hb2.mono hbw.size⟩
      rw [if_neg h12]
      exact hr
    · obtain ⟨o1, o2, o3⟩ := opD_get ho h2
      have hl11 := waits_done (ops := opsD c) (i := is) (j := ia) h3 hrd
      have q1 : a'.eval (.tmp d) = vs ia := hF.new (i := ia) h4 (by omega) hl11
      have q2 : a'.eval (.tmp x) = U n := hev (.tmp x) (Sum.inl (U n)) h5
      obtain ⟨b5, e11, g5, hR5⟩ := hC.2 hl11
      obtain ⟨hlt, _⟩ := hbit hrd
      have hset := hset hlt
      obtain ⟨r5, hr5, hsz5⟩ : ∃ r5, HasRow w' b5 r5 ∧ r5.size = 4 := by
        cases hq : listed.getD is false with
        | true => rw [hq] at hR5; exact ⟨rU n, hR5, rfl⟩
        | false => rw [hq] at hR5; exact ⟨rU 0, hR5, rfl⟩
      refine wpG_plain o3 (Oper.wp_mono ?_ (ob_storea 25 (.tmp d) (.tmp x) o1 (g := b5) (off := 0) (by rw [q1, e11]) q2 (cs := rU n) rfl hr5 (by kernel_rfl) (by rw [hsz5]; exact Nat.le_refl 4) (by kernel_rfl) (e := over r5 0 (rU n)) rfl))
      rintro a2 w2 ⟨rfl, rfl⟩
      refine ⟨undef, rfl, fun u hu => (by cases hu), ⟨fun _ => done_keep hl11, fun _ => ⟨b5, by simp only [if_neg (show ¬ ia = is from fun e => hne e.symm)]; exact e11, g5, ?_⟩⟩, below_setRow (Below.refl _ _) g5 _⟩
      rw [if_pos hset]
      have hov : over r5 0 (rU n) = rU n := by
        obtain ⟨l⟩ := r5
        match l, hsz5 with
        | [x0, x1, x2, x3], _ => rfl
      rw [hov]
      exact hr5.set_same _
  intro listed vs a9 w9 hall hC I9
  obtain ⟨b5, e11, g5, hR5⟩ := hC.2 (hall ia h7a)
  rw [if_pos (hall is h7s)] at hR5
  obtain ⟨vs', rfl⟩ : ∃ vs', vs = fun j => if j = ia then .pointer (some ⟨b5, 0, none⟩) else vs' j := ⟨vs, funext fun j => by split <;> rename_i hj <;> simp [hj, e11]⟩
  refine adopt d (g := b5) (r := rU n) I9 (h8 b5 vs') hR5 (fun h => by
    have := R.lt w b5 I.hJ h
    omega) (fun p hp e => by
    have := (I.row p hp).lt
    omega) fun β10 hag hb10 I => ?_
  exact k b5 vs' β10 a9 w9 hag I
end
abbrev Cl (α : Type) : Type := (Nat → Prop) → World → α → List Value → Prop
def SlI {α : Type} (sz : Nat) (C : Cl α) (K : Nat → Prop) (w : World) (v : Value) (l : List α) : Prop :=
  ∃ ad cap, v = .slice ad l.length cap ∧ ∀ (i : Nat) (x : α), l[i]? = some x → ∃ g off cs, ad = some ⟨g, off, none⟩ ∧ K g ∧ CellsAt w g (off + i * sz) cs ∧ C K w x cs
structure Loc {α : Type} (C : Cl α) : Prop where
  keep : ∀ (K K' : Nat → Prop) (w w' : World) (x : α) (cs : List Value), (∀ k, K k → K' k ∧ w'.heap[k]? = w.heap[k]?) → C K w x cs → C K' w' x cs
theorem SlI.keep {α : Type} {sz : Nat} {C : Cl α} (hC : Loc C) {K K' : Nat → Prop} {w w' : World} {v : Value} {l : List α} (h : ∀ k, K k → K' k ∧ w'.heap[k]? = w.heap[k]?) (H : SlI sz C K w v l) : SlI sz C K' w' v l := by
  obtain ⟨ad, cap, hv, hm⟩ := H
  refine ⟨ad, cap, hv, fun i x hi => ?_⟩
  obtain ⟨g, off, cs, h1, h2, h3, h4⟩ := hm i x hi
  exact ⟨g, off, cs, h1, (h g h2).1, h3.keep (h g h2).2, hC.keep _ _ _ _ _ _ h h4⟩
theorem SlI.slice {α : Type} {sz : Nat} {C : Cl α} {K : Nat → Prop} {w : World} {v : Value} {l : List α} (H : SlI sz C K w v l) : ∃ ad cap, v = .slice ad l.length cap := by
  obtain ⟨ad, cap, hv, _⟩ := H
  exact ⟨ad, cap, hv⟩
theorem SlI.nil {α : Type} {sz : Nat} {C : Cl α} (K : Nat → Prop) (w : World) : SlI sz C K w (.slice none 0 0) [] := ⟨none, 0, rfl, fun i x h => by simp at h⟩
theorem SlI.below {α : Type} {sz : Nat} {C : Cl α} (hC : Loc C) {w w' : World} {v : Value} {l : List α} (H : SlI sz C (· < w.heap.size) w v l) (hb : Below w.heap.size w w') : SlI sz C (· < w'.heap.size) w' v l :=
  H.keep hC fun k hk => ⟨Nat.lt_of_lt_of_le hk hb.size, hb.block k hk⟩
abbrev noK : Nat → Prop := fun _ => False
structure QJ {α : Type} (C : Cl α) (wE : World) (e sz : Nat) (v : Value) (X : List (List Value)) (l : List α) (K : Nat → Prop) (w : World) : Prop where
  ro : RO wE wE.heap.size e sz v X.length X.flatten w
  kb : ∀ k, K k → wE.heap.size ≤ k ∧ k < w.heap.size ∧ v.ownBlock ≠ some k
  len : X.length = l.length
  inn : ∀ (i : Nat) (x : List Value) (t : α), X[i]? = some x → l[i]? = some t → x.length = sz ∧ C K w t x
def QF (wE : World) (v : Value) (K : Nat → Prop) (k : Nat) : Prop := k < wE.heap.size ∨ v.ownBlock = some k ∨ K k
section
variable {α : Type} {C : Cl α} {wE w : World} {e sz : Nat} {v : Value} {X : List (List Value)} {l : List α} {K : Nat → Prop}
theorem QJ.below (h : QJ C wE e sz v X l K w) : Below wE.heap.size wE w := ⟨h.ro.gr.os, h.ro.gr.tape, h.ro.gr.output, h.ro.gr.size, fun k hk => h.ro.gr.block k hk (by omega)⟩
theorem QJ.rs (hC : Loc C) (wE : World) (e sz : Nat) (v : Value) (X : List (List Value)) (l : List α) (K : Nat → Prop) : Rsrc (QJ C wE e sz v X l K) (QF wE v K) := by
  refine ⟨fun w w' h gr => ⟨(RO.rs wE wE.heap.size e sz v X.length X.flatten).loc w w' h.ro ⟨gr.os, gr.tape, gr.output, gr.size, fun k hk hF => gr.block k hk (hF.elim (fun h => .inl h.1) fun h => .inr (.inl h))⟩, fun k hk => ⟨(h.kb k hk).1, Nat.lt_of_lt_of_le (h.kb k hk).2.1 gr.size, (h.kb k hk).2.2⟩, h.len, fun i x t h1 h2 => ⟨(h.inn i x t h1 h2).1, hC.keep _ _ _ _ _ _ (fun k hk => ⟨hk, gr.block k (h.kb k hk).2.1 (.inr (.inr hk))⟩) (h.inn i x t h1 h2).2⟩⟩, fun w k h hk => ?_⟩
  rcases hk with hk | hk | hk
  · exact Nat.lt_of_lt_of_le hk h.ro.gr.size
  · exact (h.ro.own.lt k hk).2
  · exact (h.kb k hk).2.1
theorem QJ.start (C : Cl α) (w : World) (e sz : Nat) : QJ C w e sz (.slice none 0 0) [] [] noK w := ⟨RO.start _ _ _ _, fun _ h => h.elim, rfl, fun i x t h => by simp at h⟩
theorem flat_sz {sz : Nat} {x : List Value} {j : Nat} {c : Value} (hc : x[j]? = some c) : ∀ {X : List (List Value)} {i : Nat}, (∀ y ∈ X, y.length = sz) → X[i]? = some x → X.flatten[i * sz + j]? = some c
  | [], i, _, h => by simp at h
  | y :: X, 0, hl, h => by
    simp only [List.getElem?_cons_zero, Option.some.injEq] at h
    subst h
    have hj : j < y.length := (List.getElem?_eq_some_iff.1 hc).1
    rw [List.flatten_cons, Nat.zero_mul, Nat.zero_add, List.getElem?_append_left hj]
    exact hc
  | y :: X, i + 1, hl, h => by
    have h1 := hl y List.mem_cons_self
    rw [List.flatten_cons, List.getElem?_append_right (by rw [h1, Nat.succ_mul]; omega), h1]
    have := flat_sz hc (X := X) (i := i) (fun y hy => hl y (List.mem_cons_of_mem _ hy)) (by simpa using h)
    rw [show (i + 1) * sz + j - sz = i * sz + j by rw [Nat.succ_mul]; omega]
    exact this
theorem QJ.done (hC : Loc C) (h : QJ C wE e sz v X l K w) : SlI sz C (fun k => K k ∨ v.ownBlock = some k) w v l := by
  have ho := h.ro.own
  obtain ⟨ad, cap, rfl⟩ := owns_slice ho
  refine ⟨ad, cap, by rw [h.len], fun i t hi => ?_⟩
  have hil : i < X.length := by rw [h.len]; exact (List.getElem?_eq_some_iff.1 hi).1
  obtain ⟨x, hx⟩ : ∃ x, X[i]? = some x := ⟨_, List.getElem?_eq_getElem hil⟩
  obtain ⟨h1, h2⟩ := h.inn i x t hx hi
  have hlen : ∀ y ∈ X, y.length = sz := fun y hy => by
    obtain ⟨j, hj⟩ := List.mem_iff_getElem?.1 hy
    have hjl : j < l.length := by rw [← h.len]; exact (List.getElem?_eq_some_iff.1 hj).1
    exact (h.inn j y _ hj (List.getElem?_eq_getElem hjl)).1
  rcases ho.2 with ⟨hv, hn⟩ | ⟨g, cap', cur, hv, hb, hg, hnc, hcm, hcs, hct⟩
  · omega
  · cases hv
    refine ⟨g, 0, x, rfl, .inr rfl, fun j c hc => ?_, hC.keep _ _ _ _ _ _ (fun k hk => ⟨.inl hk, rfl⟩) h2⟩
    have := ho.cells (g := g) rfl (i * sz + j) c (flat_sz hc hlen hx)
    rw [add_off] at this
    rw [Nat.zero_add]
    rwa [Nat.zero_add] at this
theorem QJ.kb2 (h : QJ C wE e sz v X l K w) : ∀ k, (K k ∨ v.ownBlock = some k) → wE.heap.size ≤ k ∧ k < w.heap.size := fun k hk => by
  rcases hk with hk | hk
  · exact ⟨(h.kb k hk).1, (h.kb k hk).2.1⟩
  · exact h.ro.own.lt k hk
end
structure s_MK {α : Type} (C : Cl α) (K1 : Nat → Prop) (x : α) (cs : List Value) (w : World) : Prop where
  kb : ∀ k, K1 k → k < w.heap.size
  c : C K1 w x cs
theorem s_MK.rs {α : Type} {C : Cl α} (hC : Loc C) (K1 : Nat → Prop) (x : α) (cs : List Value) : Rsrc (s_MK C K1 x cs) K1 :=
  ⟨fun w w' h gr => ⟨fun k hk => Nat.lt_of_lt_of_le (h.kb k hk) gr.size, hC.keep _ _ _ _ _ _ (fun k hk => ⟨hk, gr.block k (h.kb k hk) hk⟩) h.c⟩, fun w k h hk => h.kb k hk⟩
theorem app_gen {α : Type} {C : Cl α} (hC : Loc C) {t e sz by_ : Nat} {z : Value} (ht : Try.prog.underlying t = some (.slice e)) (hinf : ∃ i, Try.prog.info? e = some i ∧ i.zero = some z ∧ i.size = sz ∧ i.bytes = by_) (hzs : z.cells.size = sz) (hsz : 0 < sz) (hby : by_ ≤ 1000)
    {w : World} {i cap : Nat} {ad : Option Addr} {X : List (List Value)} {l : List α} {K K1 : Nat → Prop} {x : α} {cs : List Value} {ev : Value} {ds : List Deferred} {β : Nat → Nat} {c : Cf} {a : Act} {w6 : World} {Q : Exit → Act → World → Prop}
    (hbs : (Instr.buildSlice t 1 #[(0, ev)]).run Try.prog w6 = .ok (.slice (some ⟨w6.heap.size, 0, none⟩) 1 1) (w6.alloc (.cells cs.toArray e))) (hcs : cs.length = sz) (hone : ∀ u ∈ cs, u.oneCell' = true)
    (I6 : SI (fun w' => QJ C w e sz (.slice ad i cap) X l K w' ∧ s_MK C K1 x cs w') (fun k => QF w (.slice ad i cap) K k ∨ K1 k) ds β c a w6) (hXi : X.length = i) (hi : i < 100000000) (hK1 : ∀ k, K1 k → w.heap.size ≤ k ∧ (Value.slice ad i cap).ownBlock ≠ some k)
    (k : ∀ ad8 cap8 a8 w8, SI (QJ C w e sz (.slice ad8 (i + 1) cap8) (X ++ [cs]) (l ++ [x]) (fun k => K k ∨ K1 k)) (QF w (.slice ad8 (i + 1) cap8) (fun k => K k ∨ K1 k)) ds β (nxtQ (nxtQ c (.slice (some ⟨w6.heap.size, 0, none⟩) 1 1)) (.slice ad8 (i + 1) cap8)) a8 w8 → At Try.prog Q (nxtQ (nxtQ c (.slice (some ⟨w6.heap.size, 0, none⟩) 1 1)) (.slice ad8 (i + 1) cap8)) a8 w8)
    (hc1 : bsQ c = some (t, 1, [(0, Sum.inl ev)]) := by kernel_rfl)
    (hc2 : bltQ (nxtQ c (.slice (some ⟨w6.heap.size, 0, none⟩) 1 1)) = some (.append, #[t, t], t, [Sum.inl (.slice ad i cap), Sum.inl (.slice (some ⟨w6.heap.size, 0, none⟩) 1 1)]) := by kernel_rfl) : At Try.prog Q c a w6 := by
  have hRs := (QJ.rs hC w e sz (.slice ad i cap) X l K).both (s_MK.rs hC K1 x cs)
  refine bslQ (ss := [(0, Sum.inl ev)]) I6 hbs ?_ hc1
  have I7 := I6.alloc hRs (.cells cs.toArray e) (.slice (some ⟨w6.heap.size, 0, none⟩) 1 1)
  obtain ⟨inf, hi1, hi2, hi3, hi4⟩ := hinf
  have hown7 := I7.hJ.1.ro.own
  rw [hXi] at hown7
  obtain ⟨v', w8, hr8, ho8, hg8⟩ := app_els ht hi1 hi2 hi3 hi4 hzs hsz hby hown7 I7.hJ.1.ro.gr.size ⟨w6.heap.size, 0, none⟩ cs (by rw [hcs, Nat.one_mul]) (alloc_cell w6 cs.toArray e) hone (by omega)
  obtain ⟨ad8, cap8, rfl⟩ := owns_slice ho8
  refine appQ (ss := [Sum.inl (.slice ad i cap), Sum.inl (.slice (some ⟨w6.heap.size, 0, none⟩) 1 1)]) I7 hr8 ?_ hc2
  have hXl1 : (X ++ [cs]).length = i + 1 := by simp [hXi]
  have hXf : X.flatten ++ cs = (X ++ [cs]).flatten := by simp
  rw [hXf] at ho8
  have hk7 : ∀ k, (K k ∨ K1 k) → w.heap.size ≤ k ∧ k < w6.heap.size ∧ (Value.slice ad i cap).ownBlock ≠ some k := fun k hk => by
    rcases hk with hk | hk
    · exact ⟨(I6.hJ.1.kb k hk).1, (I6.hJ.1.kb k hk).2.1, (I6.hJ.1.kb k hk).2.2⟩
    · exact ⟨(hK1 k hk).1, I6.hJ.2.kb k hk, (hK1 k hk).2⟩
  have hsz7 : (w6.alloc (.cells cs.toArray e)).heap.size = w6.heap.size + 1 := by simp
  have hblk : ∀ k, (K k ∨ K1 k) → w8.heap[k]? = w6.heap[k]? := fun k hk => by
    obtain ⟨h1, h2, h3⟩ := hk7 k hk
    rw [hg8.gr.block k (by omega) fun e => h3 e.symm]
    exact (below_alloc w6 _).block k h2
  have hro8 : RO w w.heap.size e sz (.slice ad8 (i + 1) cap8) (X ++ [cs]).length (X ++ [cs]).flatten w8 := by
    have h7 := I7.hJ.1.ro
    rw [hXi] at h7
    rw [hXl1]
    exact h7.grown ho8 hg8
  have hinn8 : ∀ (j : Nat) (y : List Value) (t : α), (X ++ [cs])[j]? = some y → (l ++ [x])[j]? = some t → y.length = sz ∧ C (fun k => K k ∨ K1 k) w8 t y := by
    intro j y t' h1 h2
    have hl := I6.hJ.1.len
    rcases Nat.lt_or_ge j X.length with hj | hj
    · rw [List.getElem?_append_left hj] at h1
      rw [List.getElem?_append_left (by omega)] at h2
      obtain ⟨q1, q2⟩ := I6.hJ.1.inn j y t' h1 h2
      exact ⟨q1, hC.keep _ _ _ _ _ _ (fun k hk => ⟨.inl hk, hblk k (.inl hk)⟩) q2⟩
    · rw [List.getElem?_append_right hj] at h1
      rw [List.getElem?_append_right (by omega)] at h2
      have hj0 : j - X.length = 0 := by
        have := (List.getElem?_eq_some_iff.1 h1).1
        simpa using this
      rw [hj0] at h1
      rw [show j - l.length = 0 by omega] at h2
      simp only [List.getElem?_cons_zero, Option.some.injEq] at h1 h2
      subst h1 h2
      exact ⟨hcs, hC.keep _ _ _ _ _ _ (fun k hk => ⟨.inr hk, hblk k (.inr hk)⟩) I6.hJ.2.c⟩
  exact k ad8 cap8 _ w8 (I7.moved ⟨hg8.gr.os, hg8.gr.tape, hg8.gr.output, hg8.gr.size, fun k hk hn => hg8.gr.block k hk fun e => hn (.inl (.inr (.inl e.symm)))⟩ ⟨hro8, fun k hk => by
      obtain ⟨h1, h2, h3⟩ := hk7 k hk
      have := hg8.gr.size
      refine ⟨h1, by omega, fun e => ?_⟩
      rcases hg8.nb k e with h4 | h4
      · exact h3 h4
      · omega, by simp [I6.hJ.1.len], hinn8⟩ (fun k hk h => by
      rcases h with h | h | h | h
      · exact .inl (.inl h)
      · rcases hg8.nb k h with h4 | h4
        · exact .inl (.inr (.inl h4))
        · omega
      · exact .inl (.inr (.inr h))
      · exact .inr h) (.slice ad8 (i + 1) cap8))
theorem mem_moved {α : Type} {C : Cl α} {wE : World} {e sz : Nat} {v : Value} {X : List (List Value)} {l : List α} {K K1 : Nat → Prop} {x : α} {cs : List Value} {ds : List Deferred} {β : Nat → Nat} {c : Cf} {a : Act} {w w' : World} (hC : Loc C) (I : SI (QJ C wE e sz v X l K) (QF wE v K) ds β c a w) (hb : Below w.heap.size w w') (hk : ∀ k, K1 k → w.heap.size ≤ k ∧ k < w'.heap.size) (hc : C K1 w' x cs) (r : Value) :
    SI (fun w' => QJ C wE e sz v X l K w' ∧ s_MK C K1 x cs w') (fun k => QF wE v K k ∨ K1 k) ds β (nxtQ c r) (a.put (dstQ c) r) w' :=
  I.moved (Grow.of_below hb) ⟨(QJ.rs hC wE e sz v X l K).loc w w' I.hJ (Grow.of_below hb), fun k h => (hk k h).2, hc⟩ (fun k hlt h => by
    rcases h with h | h
    · exact h
    · have := (hk k h).1; omega) r
theorem mem_new {α : Type} {C : Cl α} {wE : World} {e sz : Nat} {v : Value} {X : List (List Value)} {l : List α} {K K1 : Nat → Prop} {w w' : World} (h : QJ C wE e sz v X l K w) (hk : ∀ k, K1 k → w.heap.size ≤ k ∧ k < w'.heap.size) : ∀ k, K1 k → wE.heap.size ≤ k ∧ v.ownBlock ≠ some k := fun k h1 => by
  have h2 := (hk k h1).1
  refine ⟨Nat.le_trans h.ro.gr.size h2, fun e => ?_⟩
  have := (h.ro.own.lt k e).2
  omega
def cS {T : World → Prop} {t : Nat} {e : TypeId} (hu : Try.prog.underlying t = some (.slice e)) {ad : Option Addr} {n cap : Nat} {z : Int} (h : (cap : Int) = z) : Fa Try.prog T := Sum.inr (Sum.inr
  { ok := fun | .call { callee := .builtin .cap, args := _, argTypes := ts } => ts == #[t] | _ => false
    xs := #[.slice ad n cap]
    v := Z z
    fr := true
    h := by
      intro a w oo _ hok hx
      cases hop : oo.op with
      | call cc =>
        obtain ⟨callee, xs, ts⟩ := cc
        rw [hop] at hok hx
        cases callee with
        | builtin b =>
          cases b <;> simp at hok
          subst hok
          simp only [opnds] at hx
          have hx2 : xs.map a.eval = #[.slice ad n cap] := by rw [← hx]; apply Array.ext'; simp
          unfold execOp
          simp only [hop, resolve, invoke, Sem.run_bind, Sem.run_pure, Result.andThen_ok, hx2, builtin]
          subst h
          simp [Builtin.cap_, run_underlying hu, goInt]
        | _ => simp at hok
      | _ => rw [hop] at hok; simp at hok })
def loopsOf : Code → List Code
  | .seq x y => loopsOf x ++ loopsOf y
  | .block _ x => loopsOf x
  | .cond _ x y => loopsOf x ++ loopsOf y
  | .loop x => [x]
  | _ => []
def bodyLk (fn : Func) (k : Nat) : Code := ((loopsOf (fn.body.getD .skip))[k]?).getD .skip
def tlN (L : Nat → Nat) : Nat → Nat
  | 0 => 0
  | n + 1 => tlN L n + L n
def tlX (X : Nat → List Value) : Nat → List Value
  | 0 => []
  | n + 1 => tlX X n ++ X n
theorem own_low {w : World} {b b' e s : Nat} {v : Value} {n : Nat} {xs : List Value} (h : w.ownsRow b e s v n xs) (hb : b' ≤ b) : w.ownsRow b' e s v n xs := by
  refine ⟨h.1, ?_⟩
  rcases h.2 with h2 | ⟨g, cap, cur, h1, h2, h3⟩
  · exact .inl h2
  · exact .inr ⟨g, cap, cur, h1, Nat.le_trans hb h2, h3⟩
theorem RO.bel {wE w : World} {e sz : Nat} {v : Value} {n : Nat} {xs : List Value} (h : RO wE wE.heap.size e sz v n xs w) : Below wE.heap.size wE w := ⟨h.gr.os, h.gr.tape, h.gr.output, h.gr.size, fun k hk => h.gr.block k hk (by omega)⟩
end Go.Proofs.Ytdiblfgnnliifaa
