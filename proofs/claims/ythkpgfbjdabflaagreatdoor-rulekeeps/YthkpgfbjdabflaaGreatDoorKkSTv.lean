/- Laid one behind the other: SYd, STv, STw, SYa, SYc, SYe, SYf. -/
import Derived.Test.YthkpgfbjdabflaaGreatDoorKkSTt
import Derived.Test.YthkpgfbjdabflaaGreatDoorKkHk
namespace Go.Proofs.YthkpgfbjdabflaaGreatDoor
open Go.RowKit Go.Sort Go.Proofs.Tryz
set_option linter.unusedVariables false
set_option maxRecDepth 100000
set_option maxHeartbeats 4000000
def wgt : (n : Nat) → TL n → Nat
  | 0, _ => 0
  | n + 1, l => (List.map (fun t : xq n => 127 + t.2.2.1.size + wgt n t.2.2.2) l).sum
theorem foldE_w {α : Type} {E : α → List UInt8} {cnt : α → Nat} {H : Nat} {tt : α → Nat} : ∀ (l : List (Int × Nat × ByteArray × α)) (acc : List UInt8 × List UInt8), (∀ t ∈ l, (E t.2.2.2).length ≤ tt t.2.2.2) → (l.foldl (vr E cnt H) acc).2.length + 32 * l.length ≤ acc.2.length + (l.map fun t => 127 + t.2.2.1.size + tt t.2.2.2).sum
  | [], acc, h => by simp
  | t :: l, acc, h => by
    have ih := foldE_w (cnt := cnt) (H := H) l (vr E cnt H acc t) fun u hu => h u (List.mem_cons_of_mem _ hu)
    have h2 := h t List.mem_cons_self
    have hs : (vr E cnt H acc t).2.length ≤ acc.2.length + (95 + t.2.2.1.size + tt t.2.2.2) := by
      unfold vr
      split
      · simp
      · split
        · have := txt_len t.2.2.1
          unfold pad at this
          simp only [List.length_append]; omega
        · split
          · have h3 := qu (cnt t.2.2.2)
            simp only [List.length_append, h3]; omega
          · simp
    simp only [List.foldl_cons, List.length_cons, List.map_cons, List.sum_cons]
    omega
theorem enc_wgt : ∀ (n : Nat) (l : TL n), (enc n l).length ≤ wgt n l
  | 0, _ => Nat.zero_le _
  | n + 1, l => by
    have h1 := foldE_w (E := enc n) (cnt := cntL n) (H := 32 * List.length (α := xq n) l) (tt := wgt n) l ([], []) fun t ht => enc_wgt n t.2.2.2
    have h2 := hd_len (E := enc n) (cnt := cntL n) (l := l) (i := List.length (α := xq n) l) (Nat.le_refl _)
    have e : List.take (List.length (α := xq n) l) l = l := List.take_length
    rw [e] at h2
    simp only [enc, List.length_append, wgt]
    have h3 : (xj (enc n) (cntL n) (32 * List.length (α := xq n) l) l).2.length + 32 * List.length (α := xq n) l ≤ 0 + (List.map (fun t : xq n => 127 + t.2.2.1.size + wgt n t.2.2.2) l).sum := h1
    omega
theorem wgt_nil : ∀ n, wgt n (nilT n) = 0
  | 0 => rfl
  | n + 1 => rfl
theorem eB_zero : eB.size = 0 := rfl
theorem alTs_w (n : Nat) (a : Al) : wgt (n + 1) (alTs n a) = 635 := by
  show (127 + eB.size + wgt n (nilT n)) + ((127 + eB.size + wgt n (nilT n)) + ((127 + eB.size + wgt n (nilT n)) + ((127 + eB.size + wgt n (nilT n)) + ((127 + eB.size + wgt n (nilT n)) + 0)))) = 635
  rw [wgt_nil, eB_zero]
theorem exTs_w (n : Nat) {x : Ex} (hl : x.2.length ≤ 8) : wgt (n + 3) (exTs n x) ≤ 6350 := by
  have key : wgt (n + 2) (x.2.map fun a => qi (n + 1) (alTs n a)) ≤ 6096 := by
    have hsum : ((x.2.map fun a => qi (n + 1) (alTs n a)).map fun t : xq (n + 1) => 127 + t.2.2.1.size + wgt (n + 1) t.2.2.2).sum ≤ (x.2.map fun a => qi (n + 1) (alTs n a)).length * 762 := za9 fun t ht => by
      obtain ⟨a, ha, rfl⟩ := List.mem_map.1 ht
      show 127 + eB.size + wgt (n + 1) (alTs n a) ≤ 762
      rw [alTs_w, eB_zero]
      decide
    rw [List.length_map] at hsum
    exact Nat.le_trans hsum (by omega)
  show (127 + eB.size + wgt (n + 2) (nilT (n + 2))) + ((127 + eB.size + wgt (n + 2) (x.2.map fun a => qi (n + 1) (alTs n a))) + 0) ≤ 6350
  rw [wgt_nil, eB_zero]
  omega
theorem vaT_w {v : Va} (hf : fitV v = true) : (enc 9 (vaT 4 v)).length ≤ 21000 := by
  obtain ⟨h1, h2, h3⟩ := fitV_put hf
  obtain ⟨q1, _, q3⟩ := fitXs_put h3
  have key : wgt 8 (v.2.2.2.map fun x => qi 7 (exTs 4 x)) ≤ 19431 := by
    have hsum : ((v.2.2.2.map fun x => qi 7 (exTs 4 x)).map fun t : xq 7 => 127 + t.2.2.1.size + wgt 7 t.2.2.2).sum ≤ (v.2.2.2.map fun x => qi 7 (exTs 4 x)).length * 6477 := za9 fun t ht => by
      obtain ⟨x, hx, rfl⟩ := List.mem_map.1 ht
      show 127 + eB.size + wgt 7 (exTs 4 x) ≤ 6477
      have : wgt 7 (exTs 4 x) ≤ 6350 := exTs_w 4 (fitE_put (q3 x hx)).2.1
      rw [eB_zero]; omega
    rw [List.length_map] at hsum
    exact Nat.le_trans hsum (by omega)
  refine Nat.le_trans (enc_wgt 9 (vaT 4 v)) ?_
  show (127 + eB.size + wgt 8 (nilT 8)) + ((127 + eB.size + wgt 8 (nilT 8)) + ((127 + v.2.2.1.size + wgt 8 (nilT 8)) + ((127 + eB.size + wgt 8 (v.2.2.2.map fun x => qi 7 (exTs 4 x))) + 0))) ≤ 21000
  rw [wgt_nil, eB_zero]
  omega
theorem wrV_w (v : Va) : (wrV v).length ≤ 21000 := by
  unfold wrV
  split
  · next h => exact vaT_w h
  · simp
section
variable {P : Program} {T : World → Prop} {fo : Nat → Nat → Option Nat} {io : Nat → Int → Option Nat} {ze : Nat → Option (Array Value)} {ops : Array Oper} {tm : Vs} {rows : Rows} {sp : Spt}
theorem drawC {J : World → Prop} {F : Nat → Prop} {ds : List Deferred} {β : Nat → Nat} {c : Cf} {a : Act} {w : World} {Q : Exit → Act → World → Prop} (Y : Ty P fo io ze) (R : y8 J F) (hT : ∀ w, J w → T w) {ks : List Ki} {fs us : List (Fa P T)} {vals : Vs} {e : List (Value × Value)} (C : Array Bool → (Nat → Value) → World → Prop) (hC0 : ∀ w1, Below w.heap.size w w1 → C (Array.replicate ops.size false) (fun _ => undef) w1) (hCk : ∀ za vs w' w'' i v, xy sp i = none → C za vs w' → Below w'.heap.size w' w'' → C (za.setIfInBounds i true) (fun j => if j = i then v else vs j) w'')
    (hc : drQ c = some (ops, ks)) (hg : goS P T fo io sp ops c.tm c.rows ops.toList 0 [] fs = some (vals, us, e)) (he : ∀ p ∈ e, p.1 = p.2) (hb : ka ops = true) (hB : zby ops = true) (hgs : gsB ops sp = true) (hds : dstB ops c.tm.length = true)
    (hids : qs (tmS ops sp c.tm vals fun _ => undef) c.nx = true) (I : SI J F ds β c a w)
    (hsp : ∀ i x o, xy sp i = some x → ops[i]? = some o → ∀ za vs a' w', Frm ops vs a za a' → i ∈ Region.ready .any ops za → Below w.heap.size w w' → C za vs w' → (∀ x s, evS ops c.tm (vals.take i) i x = some s → a'.eval x = up β s) →
      wpG ops o P a' w' (fun a'' w'' => ∃ v, a'' = a'.put o.dst v ∧ (∀ u, x = some u → v = u) ∧ C (za.setIfInBounds i true) (fun j => if j = i then v else vs j) w'' ∧ Below w.heap.size w' w'') (QK P Q ks))
    (k : ∀ za vs a' w', (∀ j, j < ops.size → za.getD j false = true) → C za vs w' → SI J F ds β { ops := #[], rest := [], ks := ks, tm := tmS ops sp c.tm vals vs, rows := c.rows, nx := c.nx, dn := none } a' w' → At P Q { ops := #[], rest := [], ks := ks, tm := tmS ops sp c.tm vals vs, rows := c.rows, nx := c.nx, dn := none } a' w') : At P Q c a w := by
  obtain ⟨hvl, _, hspec⟩ := goS_spec (k := 0) (v0 := []) rfl hg he
  have htm : a.tmps.size = c.tm.length := by rw [I.fr]; simp
  have dl : ∀ t j, wr ops t = some j → t < a.tmps.size := fun t j h => by rw [htm]; exact dstB_ok hds h
  have hsv : ∀ j x, xy sp j = some x → j < ops.size → vals[j]? = some (x.map Sum.inl) := fun j x hx hj => by
    have := (hspec j ops[j] (by simp [hj])).1 x (by rw [Nat.zero_add]; exact hx)
    rwa [Nat.zero_add] at this
  refine s_at_reg Y.hm hc ?_
  refine zae hb hB (fun za vs w' => DS ops sp β vals (fun _ _ _ => True) w za vs w' ∧ C za vs w') ?_ ?_ ?_
  · intro w1 h1
    have hf : ∀ j, ¬ (Array.replicate ops.size false).getD j false = true := fun j h => by
      rw [Array.getD_eq_getD_getElem?, Array.getElem?_replicate] at h
      split at h <;> simp at h
    have hbl : Below w.heap.size w w1 := by
      rcases h1 with rfl | rfl
      · exact Below.refl _ _
      · exact ⟨rfl, rfl, rfl, Nat.le_refl _, fun _ _ => rfl⟩
    exact ⟨⟨hbl, fun j k _ h => absurd h (hf k), fun j h => absurd h (hf j), fun j x h => absurd h (hf j)⟩, hC0 w1 hbl⟩
  · rintro za vs a' w' i o hs ho hi hF ⟨D, hC⟩
    have hun := ya hi hs
    have hio : i < ops.size := (Array.getElem?_eq_some_iff.1 ho).1
    have hev : ∀ x s, evS ops c.tm (vals.take i) i x = some s → a'.eval x = up β s := fun x s h => evF_ok D hsv hF I.fr hs hi h
    have wt' : ∀ j k, yp ops k j = true → (za.setIfInBounds i true).getD k false = true → (za.setIfInBounds i true).getD j false = true := fun j k hw hk => by
      rcases yb hk with rfl | hk
      · exact zc (zg hw hi)
      · exact zc (D.wt j k hw hk)
    cases hsi : xy sp i with
    | some x =>
      refine vp (fun a'' w'' h => ?_) (hsp i x o hsi ho za vs a' w' hF hi D.bw hC hev)
      obtain ⟨v, rfl, h1, h2, h3⟩ := h
      refine ⟨v, rfl, ⟨D.bw.trans h3, wt', fun j hj hn => ?_, fun j y hj hy => ?_⟩, h2⟩
      · have hji : j ≠ i := fun e => by rw [e, hsi] at hn; cases hn
        simp only [if_neg hji]
        exact D.rk j ((yb hj).resolve_left hji) hn
      · by_cases hji : j = i
        · subst hji
          rw [hsi] at hy
          cases hy
          simp only [if_true]
          exact ⟨trivial, h1⟩
        · simp only [if_neg hji]
          obtain ⟨a1, a2⟩ := D.sv j y ((yb hj).resolve_left hji) hy
          exact ⟨trivial, a2⟩
    | none =>
      obtain ⟨f, s, e', hq, he', hvi⟩ := (hspec i o (by simpa using ho)).2 (by rw [Nat.zero_add]; exact hsi)
      rw [Nat.zero_add] at hq hvi
      have next : ∀ v w2, v = upO β s → Below w'.heap.size w' w2 → ∃ v', a'.put o.dst v = a'.put o.dst v' ∧ (DS ops sp β vals (fun _ _ _ => True) w (za.setIfInBounds i true) (fun j => if j = i then v' else vs j) w2 ∧ C (za.setIfInBounds i true) (fun j => if j = i then v' else vs j) w2) := by
        intro v w2 hv hb2
        refine ⟨v, rfl, ⟨D.bw.trans (hb2.mono D.bw.size), wt', fun j hj hn => ?_, fun j y hj hy => ?_⟩, hCk za vs w' w2 i v hsi hC hb2⟩
        · by_cases hji : j = i
          · subst hji
            simp only [if_true]
            rw [hvi, hv]; rfl
          · simp only [if_neg hji]
            exact D.rk j ((yb hj).resolve_left hji) hn
        · have hji : j ≠ i := fun e => by rw [e, hsi] at hy; cases hy
          simp only [if_neg hji]
          obtain ⟨a1, a2⟩ := D.sv j y ((yb hj).resolve_left hji) hy
          exact ⟨trivial, a2⟩
      have hgo : ∀ j b, o.guard = some (j, b) → xy sp j = none := fun j b hg => by
        unfold gsB at hgs
        have := Array.all_eq_true.1 hgs i hio
        rw [Array.getElem?_eq_some_iff] at ho
        obtain ⟨_, ho⟩ := ho
        rw [ho, hg] at this
        simpa using this
      unfold qop at hq
      split at hq
      · next hw =>
        cases hq
        have hnw := wantS_ok D hsv hF hB dl hi hgo hw
        unfold wpG
        rw [hnw]
        simp only [Bool.false_eq_true, if_false]
        exact next undef w' rfl (Below.refl _ _)
      · cases hq
      · next hw =>
        have hnw := wantS_ok D hsv hF hB dl hi hgo hw
        unfold wpG
        rw [hnw]
        simp only [if_true]
        have hJ' : J w' := R.loc w w' I.hJ (zq.of_below D.bw)
        have hevL : ∀ {xs : List Operand} {us : List Value}, (xs.mapM fun x => plain (evS ops c.tm (vals.take i) i x)) = some us → xs.map a'.eval = us := by
          intro xs
          induction xs with
          | nil => intro us h; simp at h; subst h; rfl
          | cons x xs ih =>
            intro us h
            rw [List.mapM_cons] at h
            cases h1 : plain (evS ops c.tm (vals.take i) i x) with
            | none => rw [h1] at h; simp at h
            | some v =>
              cases h2 : (xs.mapM fun x => plain (evS ops c.tm (vals.take i) i x)) with
              | none => rw [h1, h2] at h; simp at h
              | some us' =>
                rw [h1, h2] at h
                simp at h
                subst h
                rw [List.map_cons, ih h2, hev _ _ (zw h1)]
                rfl
        split at hq
        · simp only [Option.map_eq_some_iff, Prod.mk.injEq] at hq
          obtain ⟨sv, hn, rfl, rfl⟩ := hq
          exact natG_ok Y hev (fun id r h => (I.row _ (yk h)).below D.bw) hn fun w2 hb2 => next _ w2 rfl hb2
        · next f =>
          split at hq
          · next g xs ts hop =>
            split at hq
            · next hfg =>
              subst hfg
              simp only [Option.map_eq_some_iff, Prod.mk.injEq] at hq
              obtain ⟨us', hm2, rfl, rfl⟩ := hq
              have h1 := hevL hm2
              have h2 := he' _ (List.mem_singleton.2 rfl)
              simp only [Value.tuple.injEq] at h2
              refine Oper.wp_mono ?_ (zdv f.f xs ts hop (vs := f.args) ?_ (f.hr xs ts) (f.hc w' (hT w' hJ')))
              · rintro a2 w2 ⟨rfl, hb2⟩
                exact next _ w2 rfl hb2
              · rw [← h2, ← h1]
                apply Array.ext'
                simp
            · cases hq
          · cases hq
        · next f =>
          split at hq
          · next hok =>
            simp only [Option.map_eq_some_iff, Prod.mk.injEq] at hq
            obtain ⟨us', hm2, rfl, rfl⟩ := hq
            have h1 := hevL hm2
            have h2 := he' _ (List.mem_singleton.2 rfl)
            simp only [Value.tuple.injEq] at h2
            exact xn (f.h a' w' o (.inr (hT w' hJ')) hok (by rw [h1, h2])) (next _ w' rfl (Below.refl _ _))
          · cases hq
  · rintro za vs a' w' hd hF ⟨D, hC⟩
    have hfr : a'.tmps = ((tmS ops sp c.tm vals vs).map (upO β)).toArray := by
      apply Array.ext_getElem?
      intro t
      by_cases ht : t < a.tmps.size
      · have ht' : t < c.tm.length := by omega
        rw [hF.2.2 t ht]
        have e0 : a.tmps[t]? = some (upO β (c.tm[t]?).join) := by
          rw [I.fr]
          simp [List.getElem?_eq_getElem ht']
        simp only [List.getElem?_toArray, tmS, List.getElem?_map, List.getElem?_range ht', Option.map_some]
        cases hw : wr ops t with
        | none => exact e0
        | some j =>
          have hj := (wr_dst hw).2
          simp only []
          rw [if_pos (hd j hj)]
          cases hs : xy sp j with
          | none => simp only []; rw [D.rk j (hd j hj) hs]
          | some x => rfl
      · rw [Array.getElem?_eq_none (by have := hF.2.1; omega), Array.getElem?_eq_none (by simp [tmS]; omega)]
    have := (k za vs a' w' hd hC ⟨hfr, hF.1.trans I.df, R.loc w w' I.hJ (zq.of_below D.bw), fun p hp => (I.row p hp).below D.bw, I.dis, I.lt, I.inj, ids_tmS hids⟩).out
    exact this
end
section
variable {P : Program} {J : World → Prop} {F : Nat → Prop} {ds : List Deferred} {β : Nat → Nat} {c : Cf} {a : Act} {w : World} {Q : Exit → Act → World → Prop}
theorem dwC {T : World → Prop} (sp : Spt) (fs : List (Fa P T)) (C : Array Bool → (Nat → Value) → World → Prop) (hC0 : ∀ w1, Below w.heap.size w w1 → C (Array.replicate (yw c).size false) (fun _ => undef) w1) (hCk : ∀ za vs w' w'' i v, xy sp i = none → C za vs w' → Below w'.heap.size w' w'' → C (za.setIfInBounds i true) (fun j => if j = i then v else vs j) w'') (R : y8 J F) (hT : ∀ w, J w → T w) (I : SI J F ds β c a w)
    (hsp : ∀ p ∈ sp, ∀ o, (yw c)[p.1]? = some o → ∀ za vs a' w', Frm (yw c) vs a za a' → p.1 ∈ Region.ready .any (yw c) za → Below w.heap.size w w' → C za vs w' → (∀ x s, evS (yw c) c.tm ((valsD P sp fs c).take p.1) p.1 x = some s → a'.eval x = up β s) →
      wpG (yw c) o P a' w' (fun a'' w'' => ∃ v, a'' = a'.put o.dst v ∧ (∀ u, p.2 = some u → v = u) ∧ C (za.setIfInBounds p.1 true) (fun j => if j = p.1 then v else vs j) w'' ∧ Below w.heap.size w' w'') (QK P Q (ksD c)))
    (k : ∀ za vs a' w', (∀ j, j < (yw c).size → za.getD j false = true) → C za vs w' → SI J F ds β (dsC P sp fs c vs) a' w' → At P Q (dsC P sp fs c vs) a' w') (hm : P.follows .mixedOrders = true := by kernel_rfl)
    (hs : (dsX P sp fs c).isSome = true := by kernel_rfl) (he : (dsX P sp fs c).map (fun r => r.2.map (·.1)) = (dsX P sp fs c).map (fun r => r.2.map (·.2)) := by kernel_rfl) : At P Q c a w := by
  cases hx : dsX P sp fs c with
  | none => rw [hx] at hs; cases hs
  | some r =>
    unfold valsD at hsp
    unfold dsC valsD at k
    rw [hx] at he k hsp
    unfold dsX at hx
    unfold yw ksD at hsp k
    unfold yw at hC0
    split at hx
    · next ops ks hc =>
      rw [hc] at hsp k hC0
      split at hx
      · next vals us e hg =>
        split at hx
        · next hb =>
          cases hx
          simp only [Option.map_some, Option.some.injEq, Option.getD_some] at he k hsp hC0
          simp only [Bool.and_eq_true] at hb
          exact drawC (ty_ok hm) R hT C hC0 hCk hc hg (eqs_of he) hb.1.1.1.1 hb.1.1.1.2 hb.1.1.2 hb.1.2 hb.2 I (fun i x o hx ho => hsp (i, x) (spec_mem hx) o ho) k
        · cases hx
      · cases hx
    · cases hx
end
section
variable {P : Program} {J : World → Prop} {F : Nat → Prop} {ds : List Deferred} {β : Nat → Nat} {c : Cf} {a : Act} {w : World} {Q : Exit → Act → World → Prop}
def adC (c : Cf) (t : Nat) (r : Array Value) : Cf := { c with tm := c.tm.set t (some (Sum.inr (c.nx, 0))), rows := (c.nx, r) :: c.rows, nx := c.nx + 1 }
/-- A block that a pointer holds becomes a row. -/
theorem adopt (t : Nat) {g : Nat} {r : Array Value} (I : SI J F ds β c a w) (ht : (c.tm[t]?).join = some (Sum.inl (.pointer (some ⟨g, 0, none⟩)))) (hr : zb w g r) (hF : ¬ F g) (hd : ∀ p ∈ c.rows, β p.1 ≠ g)
    (k : ∀ β', zbx c.nx β β' → β' c.nx = g → SI J F ds β' (adC c t r) a w → At P Q (adC c t r) a w) : At P Q c a w := by
  have hbe : ∀ i, i < c.nx → (fun i => if i = c.nx then g else β i) i = β i := fun i hi => by simp only [if_neg (show ¬ i = c.nx by omega)]
  have hup : ∀ s : Option SV, (∀ i o, s = some (Sum.inr (i, o)) → i < c.nx) → upO (fun i => if i = c.nx then g else β i) s = upO β s := by
    intro s hs
    rcases s with _ | v | ⟨i, o⟩
    · rfl
    · rfl
    · simp only [upO, up, hbe i (hs i o rfl)]
  have := k (fun i => if i = c.nx then g else β i) (fun i hi => hbe i hi) (by simp) ⟨?_, I.df, I.hJ, ?_, ?_, ?_, ?_, ?_⟩
  · exact ⟨this.out⟩
  · rw [I.fr]
    congr 1
    refine List.ext_getElem? fun i => ?_
    simp only [adC, List.getElem?_map, List.getElem?_set]
    by_cases hit : t = i
    · subst hit
      cases hq : c.tm[t]? with
      | none => rw [hq] at ht; cases ht
      | some s =>
        rw [hq] at ht
        simp only [Option.join_some] at ht
        subst ht
        have hlt : t < c.tm.length := (List.getElem?_eq_some_iff.1 hq).1
        simp [hlt, upO, up]
    · rw [if_neg hit]
      cases hq : c.tm[i]? with
      | none => rfl
      | some s =>
        simp only [Option.map_some]
        rw [hup s fun i' o hs => idsB_get I.ids (t := i) (by rw [hq, hs]; rfl)]
  · intro p hp
    rcases List.mem_cons.1 hp with rfl | hp
    · simpa using hr
    · have := I.row p hp
      simp only [if_neg (show ¬ p.1 = c.nx by have := I.lt p hp; omega)]
      exact this
  · intro p hp
    rcases List.mem_cons.1 hp with rfl | hp
    · simpa using hF
    · simp only [if_neg (show ¬ p.1 = c.nx by have := I.lt p hp; omega)]
      exact I.dis p hp
  · intro p hp
    rcases List.mem_cons.1 hp with rfl | hp
    · exact Nat.lt_succ_self _
    · exact Nat.lt_succ_of_lt (I.lt p hp)
  · intro p hp q hq hne
    rcases List.mem_cons.1 hp with rfl | hp
    · rcases List.mem_cons.1 hq with rfl | hq
      · exact absurd rfl hne
      · have h1 := I.lt q hq
        simp only [if_true, if_neg (show ¬ q.1 = c.nx by omega)]
        exact fun e => hd q hq e.symm
    · have h1 := I.lt p hp
      rcases List.mem_cons.1 hq with rfl | hq
      · simp only [if_true, if_neg (show ¬ p.1 = c.nx by omega)]
        exact hd p hp
      · have h2 := I.lt q hq
        simp only [if_neg (show ¬ p.1 = c.nx by omega), if_neg (show ¬ q.1 = c.nx by omega)]
        exact I.inj p hp q hq hne
  · have h0 := I.ids
    unfold qs at h0 ⊢
    rw [List.all_eq_true] at h0 ⊢
    intro x hx
    rcases List.mem_or_eq_of_mem_set hx with hx | rfl
    · have := h0 x hx
      rcases x with _ | v | ⟨i, o⟩
      · rfl
      · rfl
      · simp only [decide_eq_true_eq] at this ⊢
        exact Nat.lt_succ_of_lt this
    · simp [adC]
end
abbrev zs (n : Nat) : ByteArray := ⟨(List.replicate n (0 : UInt8)).toArray⟩
abbrev awA : Al := (zs 32, 5, 0, eB, eB)
section
variable {P : Program} {J : World → Prop} {F : Nat → Prop} {ds : List Deferred} {β : Nat → Nat} {c : Cf} {a : Act} {w : World} {Q : Exit → Act → World → Prop}
theorem allocG {ops : Array Oper} {K : Act → World → Prop} {o : Oper} {t : TypeId} {r : Array Value} (hop : o.op = .alloc t) (hg : o.guard = none) (hz : zeV P t = some r) (hm : P.follows .mixedOrders = true) (hK : ∀ w', Below w.heap.size w w' → zb w' w.heap.size r → K (a.put o.dst (.pointer (some ⟨w.heap.size, 0, none⟩))) w') : wpG ops o P a w K Q := by
  refine zi hg ?_
  obtain ⟨t', h1⟩ := (ty_ok hm).hze t r hz a.eval o w hop
  exact xn h1 (hK _ (xc w _) ⟨t', Array.getElem?_push_size⟩)
end
/-- The state of the example in memory. -/
structure XW (b1 b2 : Nat) (w : World) : Prop where
  al : w.heap[b1]? = some (.cells (al8 awA).toArray 66)
  ex : w.heap[b2]? = some (.cells [.string (zs 20), .slice (some ⟨b1, 0, none⟩) 1 1].toArray 43)
theorem XW.rs (b1 b2 : Nat) : y8 (XW b1 b2) (fun k => k = b1 ∨ k = b2) := by
  refine ⟨fun w w' h gr => ⟨?_, ?_⟩, fun w k h hk => ?_⟩
  · rw [gr.block b1 (Array.getElem?_eq_some_iff.1 h.al).1 (.inl rfl)]; exact h.al
  · rw [gr.block b2 (Array.getElem?_eq_some_iff.1 h.ex).1 (.inr rfl)]; exact h.ex
  · rcases hk with rfl | rfl
    · exact (Array.getElem?_eq_some_iff.1 h.al).1
    · exact (Array.getElem?_eq_some_iff.1 h.ex).1
theorem XW.below {b1 b2 : Nat} {w w' : World} (h : XW b1 b2 w) (hb : Below w.heap.size w w') : XW b1 b2 w' := (XW.rs b1 b2).loc w w' h (zq.of_below hb)
theorem zeU : zeV Tryz.prog 45 = some (rU 0) := by kernel_rfl
section
variable {J : World → Prop} {F : Nat → Prop} {ds : List Deferred} {β : Nat → Nat} {c : Cf} {a : Act} {w : World} {Q : Exit → Act → World → Prop}
theorem dwA {T : World → Prop} (ia is d x n : Nat) (fs : List (Fa Tryz.prog T)) (R : y8 J F) (hT : ∀ w, J w → T w) (I : SI J F ds β c a w)
    (k : ∀ (b : Nat) (vs : Nat → Value) β' a' w', zbx c.nx β β' → SI J F ds β' (adC (dsC Tryz.prog [(ia, none), (is, none)] fs c (fun j => if j = ia then .pointer (some ⟨b, 0, none⟩) else vs j)) d (rU n)) a' w' → At Tryz.prog Q (adC (dsC Tryz.prog [(ia, none), (is, none)] fs c (fun j => if j = ia then .pointer (some ⟨b, 0, none⟩) else vs j)) d (rU n)) a' w')
    (hne : decide (is ≠ ia) = true := by kernel_rfl) (h1 : ((yw c)[ia]?).map (fun o => (o.op, o.dst, o.guard)) = some (.alloc 45, some d, none) := by kernel_rfl) (h2 : ((yw c)[is]?).map (fun o => (o.op, o.dst, o.guard)) = some (.store 45 (.tmp d) (.tmp x), none, none) := by kernel_rfl)
    (h3 : yp (yw c) is ia = true := by kernel_rfl) (h4 : wr (yw c) d = some ia := by kernel_rfl) (h5 : evS (yw c) c.tm ((valsD Tryz.prog [(ia, none), (is, none)] fs c).take is) is (.tmp x) = some (Sum.inl (U n)) := by kernel_rfl) (h6 : decide (d < c.tm.length) = true := by kernel_rfl)
    (h7 : decide (ia < (yw c).size ∧ is < (yw c).size) = true := by kernel_rfl) (h8 : ∀ (b : Nat) (vs : Nat → Value), ((dsC Tryz.prog [(ia, none), (is, none)] fs c (fun j => if j = ia then .pointer (some ⟨b, 0, none⟩) else vs j)).tm[d]?).join = some (Sum.inl (.pointer (some ⟨b, 0, none⟩))) := by intro b vs; kernel_rfl)
    (hs : (dsX Tryz.prog [(ia, none), (is, none)] fs c).isSome = true := by kernel_rfl) (he : (dsX Tryz.prog [(ia, none), (is, none)] fs c).map (fun r => r.2.map (·.1)) = (dsX Tryz.prog [(ia, none), (is, none)] fs c).map (fun r => r.2.map (·.2)) := by kernel_rfl) : At Tryz.prog Q c a w := by
  have hne := of_decide_eq_true hne
  have h6 := of_decide_eq_true h6
  obtain ⟨h7a, h7s⟩ := of_decide_eq_true h7
  have hsz : a.tmps.size = c.tm.length := by rw [I.fr]; simp
  have hbit : ∀ {i : Nat} {za : Array Bool}, i ∈ Region.ready .any (yw c) za → i < za.size ∧ ¬ za.getD i false = true := by
    intro i za hrd
    obtain ⟨hun, o', ho', _⟩ := mem_ready.1 hrd
    have hlt : i < za.size := by
      rcases Nat.lt_or_ge i za.size with h | h
      · exact h
      · rw [Array.getD_eq_getD_getElem?, Array.getElem?_eq_none h] at hun; cases hun
    refine ⟨hlt, fun h => ?_⟩
    simp [Array.getD, hlt] at hun h
    rw [hun] at h; cases h
  have hset : ∀ {i : Nat} {za : Array Bool}, i < za.size → (za.setIfInBounds i true).getD i false = true := by
    intro i za hlt
    rw [Array.getD_eq_getD_getElem?, Array.getElem?_setIfInBounds, if_pos rfl, if_pos hlt]; rfl
  refine dwC (T := T) [(ia, none), (is, none)] fs
    (fun za vs w' => (za.getD is false = true → za.getD ia false = true) ∧ (za.getD ia false = true → ∃ b5, vs ia = .pointer (some ⟨b5, 0, none⟩) ∧ w.heap.size ≤ b5 ∧ zb w' b5 (if za.getD is false = true then rU n else rU 0))) (fun w1 hb => by
      have hf : ∀ n j, ¬ (Array.replicate n false).getD j false = true := fun n j h => by
        rw [Array.getD_eq_getD_getElem?, Array.getElem?_replicate] at h
        split at h <;> simp at h
      exact ⟨fun h => absurd h (hf _ _), fun h => absurd h (hf _ _)⟩) (fun za vs w' w'' i v hsp h hb => by
      have hi1 : i ≠ ia := fun e => by subst e; simp [xy] at hsp
      have hi2 : i ≠ is := fun e => by
        subst e
        unfold xy at hsp
        rw [Option.map_eq_none_iff, List.find?_eq_none] at hsp
        exact hsp (i, none) (by simp) (by simp)
      refine ⟨fun h12 => zc (h.1 ((yb h12).resolve_left fun e => hi2 e.symm)), fun h11 => ?_⟩
      have h := h.2
      have e12 : (za.setIfInBounds i true).getD is false = za.getD is false := by
        rw [Array.getD_eq_getD_getElem?, Array.getElem?_setIfInBounds, if_neg hi2, ← Array.getD_eq_getD_getElem?]
      obtain ⟨b5, q1, q2, q3⟩ := h ((yb h11).resolve_left fun e => hi1 e.symm)
      rw [e12]
      exact ⟨b5, by simp only [if_neg (show ¬ ia = i from fun e => hi1 e.symm)]; exact q1, q2, q3.below hb⟩) R hT I ?_ ?_ (by kernel_rfl) hs he
  · intro p hp2 o ho za vs a' w' hF hrd hbw hC hev
    simp only [List.mem_cons, List.not_mem_nil, or_false] at hp2
    rcases hp2 with rfl | rfl
    · obtain ⟨o1, o2, o3⟩ := ve ho h1
      obtain ⟨hlt, hn11⟩ := hbit hrd
      have h12 : ¬ (za.setIfInBounds ia true).getD is false = true := fun h => hn11 (hC.1 ((yb h).resolve_left hne))
      refine allocG o1 o3 zeU (by kernel_rfl) fun w2 hb2 hr => ⟨_, rfl, fun u hu => (by cases hu), ⟨fun _ => hset hlt, fun _ => ⟨w'.heap.size, by simp, hbw.size, ?_⟩⟩, hb2.mono hbw.size⟩
      rw [if_neg h12]
      exact hr
    · obtain ⟨o1, o2, o3⟩ := ve ho h2
      have hl11 := zg (ops := yw c) (i := is) (j := ia) h3 hrd
      have q1 : a'.eval (.tmp d) = vs ia := hF.new (i := ia) h4 (by omega) hl11
      have q2 : a'.eval (.tmp x) = U n := hev (.tmp x) (Sum.inl (U n)) h5
      obtain ⟨b5, e11, g5, hR5⟩ := hC.2 hl11
      obtain ⟨hlt, _⟩ := hbit hrd
      have hset := hset hlt
      obtain ⟨r5, hr5, hsz5⟩ : ∃ r5, zb w' b5 r5 ∧ r5.size = 4 := by
        cases hq : za.getD is false with
        | true => rw [hq] at hR5; exact ⟨rU n, hR5, rfl⟩
        | false => rw [hq] at hR5; exact ⟨rU 0, hR5, rfl⟩
      refine zi o3 (Oper.wp_mono ?_ (zah 45 (.tmp d) (.tmp x) o1 (g := b5) (off := 0) (by rw [q1, e11]) q2 (cs := rU n) rfl hr5 (by kernel_rfl) (by rw [hsz5]; exact Nat.le_refl 4) (by kernel_rfl) (e := kh r5 0 (rU n)) rfl))
      rintro a2 w2 ⟨rfl, rfl⟩
      refine ⟨undef, rfl, fun u hu => (by cases hu), ⟨fun _ => zc hl11, fun _ => ⟨b5, by simp only [if_neg (show ¬ ia = is from fun e => hne e.symm)]; exact e11, g5, ?_⟩⟩, zf (Below.refl _ _) g5 _⟩
      rw [if_pos hset]
      have hov : kh r5 0 (rU n) = rU n := by
        obtain ⟨l⟩ := r5
        match l, hsz5 with
        | [x0, x1, x2, x3], _ => rfl
      rw [hov]
      exact hr5.set_same _
  intro za vs a9 w9 hall hC I9
  obtain ⟨b5, e11, g5, hR5⟩ := hC.2 (hall ia h7a)
  rw [if_pos (hall is h7s)] at hR5
  obtain ⟨vs', rfl⟩ : ∃ vs', vs = fun j => if j = ia then .pointer (some ⟨b5, 0, none⟩) else vs' j := ⟨vs, funext fun j => by split <;> rename_i hj <;> simp [hj, e11]⟩
  refine adopt d (g := b5) (r := rU n) I9 (h8 b5 vs') hR5 (fun h => by
    have := R.lt w b5 I.hJ h
    omega) (fun p hp e => by
    have := (I.row p hp).lt
    omega) fun β10 hag hb10 I => ?_
  exact k b5 vs' β10 a9 w9 hag I
end
section
variable {P : Program} {J : World → Prop} {F : Nat → Prop} {ds : List Deferred} {β : Nat → Nat} {c : Cf} {a : Act} {w : World} {Q : Exit → Act → World → Prop}
/-- Behind a drawn region, with what is at hand told anew. -/
abbrev cfK (c : Cf) (tm : Vs) (rows : Rows) (nx : Nat) : Cf := { ops := yw c, rest := [], ks := ksD c, tm := tm, rows := rows, nx := nx, dn := none }
theorem SI.code {x : Code} {tm : Vs} {rows : Rows} {nx : Nat} (I : SI J F ds β (cfC x tm rows nx) a w) (c : Cf) : SI J F ds β (cfK c tm rows nx) a w := ⟨I.fr, I.df, I.hJ, I.row, I.dis, I.lt, I.inj, I.ids⟩
end
theorem loadAm {w : World} {g o : Nat} {a : Al} (h : yi w g o (al8 a)) : (loadVar 45 ⟨g, o + 1, none⟩).run Tryz.prog w = .ok (U a.2.1) w := by
  have h4 : yi w g (o + 1) [B (l0 a.2.1), B (l1 a.2.1), B (l2 a.2.1), B (l3 a.2.1)] := fun j c hj => by
    have := h (1 + j) c (by
      match j, hj with
      | 0, hj => exact hj
      | 1, hj => exact hj
      | 2, hj => exact hj
      | 3, hj => exact hj)
    rw [show o + 1 + j = o + (1 + j) by omega]
    exact this
  exact loadN Tryz.underlying45 rfl (n := 4) (by kernel_rfl) rfl h4
abbrev qeK : List Nat := [0, 1, 4, 5]
abbrev qeV (a b : Value) (i : Nat) : Vs := frm 71 [(0, Sum.inl a), (1, Sum.inl b), (4, Sum.inl (.bool false)), (5, Sum.inl (Z i))]
abbrev qhK : List Nat := [0, 1, 4, 5, 6]
abbrev qhV (a b : Value) (i j : Nat) : Vs := frm 71 [(0, Sum.inl a), (1, Sum.inl b), (4, Sum.inl (.bool false)), (5, Sum.inl (Z i)), (6, Sum.inl (Z j))]
theorem rsame_exits {w : World} {va vb : Value} {l m : List Ex} (ha : ExI w va l) (hb : ExI w vb m) (hl : okX l) : Calls Tryz.prog 18 #[va, vb] w fun e w' => e = .returned (.bool (eqX l m)) ∧ Below w.heap.size w w' := by
  obtain ⟨ad, cap, rfl, hm⟩ := ha
  obtain ⟨ad2, cap2, rfl, hm2⟩ := hb
  have hll := hl.1
  refine inQ (J := Below w.heap.size w) (F := (· < w.heap.size)) Tryz.func18 (Below.refl _ _) fun a I => ?_
  by_cases h4 : ¬ l.length = m.length
  · refine goQ [lS Tryz.underlying26 (ad := ad) (n := l.length) (cap := cap) rfl, lS Tryz.underlying26 (ad := ad2) (n := m.length) (cap := cap2) rfl, bO .neq 3 (qf (x := l.length) (y := m.length) (b := true) (decide_eq_true (by omega)))] (zd w) I fun β a w1 I hb => ?_
    exact zm (v := .bool false) I ⟨by rw [zek fun h => h4 (by rw [h])], I.hJ⟩
  have h4 := Classical.not_not.1 h4
  refine goQ [lS Tryz.underlying26 (ad := ad) (n := l.length) (cap := cap) rfl, lS Tryz.underlying26 (ad := ad2) (n := m.length) (cap := cap2) rfl, bO .neq 3 (qf (x := l.length) (y := m.length) (b := false) (decide_eq_false (by omega)))] (zd w) I fun β a w1 I hb => ?_
  let St : Nat → Act → World → Prop := fun k a w' => ∃ (i : Nat) (β : Nat → Nat) (u : Nat → Value), k = l.length - i ∧ i ≤ l.length ∧ (∀ j x y, j < i → l[j]? = some x → m[j]? = some y → x = y) ∧
    SI (Below w.heap.size w) (· < w.heap.size) [] β (cfC (zo Tryz.f18) (z6 (zv 71 qeK) u 0 (qeV (.slice ad l.length cap) (.slice ad2 m.length cap2) i)) [] 0) a w'
  refine lpM (zo Tryz.f18) St l.length ?_ ?_
  · obtain ⟨u, Iu⟩ := I.scr (zo Tryz.f18) (zv 71 qeK) (qeV (.slice ad l.length cap) (.slice ad2 m.length cap2) 0) [] 0
    exact ⟨0, β, u, by omega, Nat.zero_le _, fun j x y h => absurd h (Nat.not_lt_zero j), Iu⟩
  rintro k a3 w3 ⟨i, β3, u, rfl, hi, hok, I⟩
  refine y7 (tm := z6 (zv 71 qeK) u 0 (qeV (.slice ad l.length cap) (.slice ad2 m.length cap2) i)) (rows := []) (nx := 0) ?_
  rcases Nat.lt_or_ge i l.length with hil | hil
  · have hil2 : i < m.length := by omega
    obtain ⟨⟨sa, al⟩, k1⟩ : ∃ t, l[i]? = some t := ⟨_, List.getElem?_eq_getElem hil⟩
    obtain ⟨⟨sb, bl⟩, k2⟩ : ∃ t, m[i]? = some t := ⟨_, List.getElem?_eq_getElem hil2⟩
    obtain ⟨ga, offa, cs, rfl, hlt, hca, av, rfl, ada, capa, rfl, hma⟩ := hm i _ k1
    obtain ⟨gb, offb, cs2, rfl, hlt2, hcb, bv, rfl, adb, capb, rfl, hmb⟩ := hm2 i _ k2
    have hal : al.length < 1000000000 := hl.2 _ (List.mem_of_getElem? k1)
    simp only [] at hca hcb hma hmb
    have differ : ¬ (sa, al) = (sb, bl) → eqX l m = false := fun hd => zek fun h => hd (by rw [h] at k1; rw [k1] at k2; cases k2; rfl)
    have hA9 : ∀ w', Below w.heap.size w w' → (loadVar 9 ⟨ga, offa + i * 2 + 0, none⟩).run Tryz.prog w' = .ok (.string sa) w' := fun w' hb => zb4 (hca.keep (hb.block ga hlt)) 0 rfl 9 Tryz.underlying9 rfl
    have hB9 : ∀ w', Below w.heap.size w w' → (loadVar 9 ⟨gb, offb + i * 2 + 0, none⟩).run Tryz.prog w' = .ok (.string sb) w' := fun w' hb => zb4 (hcb.keep (hb.block gb hlt2)) 0 rfl 9 Tryz.underlying9 rfl
    have hA36 : ∀ w', Below w.heap.size w w' → (loadVar 41 ⟨ga, offa + i * 2 + 1, none⟩).run Tryz.prog w' = .ok (.slice ada al.length capa) w' := fun w' hb => zb4 (hca.keep (hb.block ga hlt)) 1 rfl 41 Tryz.underlying41 rfl
    have hB36 : ∀ w', Below w.heap.size w w' → (loadVar 41 ⟨gb, offb + i * 2 + 1, none⟩).run Tryz.prog w' = .ok (.slice adb bl.length capb) w' := fun w' hb => zb4 (hcb.keep (hb.block gb hlt2)) 1 rfl 41 Tryz.underlying41 rfl
    refine goQ [lS Tryz.underlying26 (ad := some ⟨ga, offa, none⟩) (n := l.length) (cap := cap) rfl, bO .lss 3 (zh (x := i) (y := l.length) (b := true) (by simp; omega))] (zd w) I fun β4 a4 w4 I hb4 => ?_
    by_cases hs : ¬ sa = sb
    · refine dwT (T := Below w.heap.size w) 26 [iA 26 Tryz.underlying26 (sz := 2) (by kernel_rfl) (g := ga) (off := offa) (n := l.length) (cap := cap) hil, ldA 9 hA9, iA 26 Tryz.underlying26 (sz := 2) (by kernel_rfl) (g := gb) (off := offb) (n := m.length) (cap := cap2) hil2, ldA 9 hB9, bO .neq 9 (zdm (a := sa) (b := sb) (q := true) (decide_eq_true hs))] (zd w) (fun _ h => h) (zk.then (zk.qk zk.post)) I fun a5 w5 I => ?_
      refine goQ [] (zd w) I fun β6 a6 w6 I hb6 => ?_
      exact endR (retV (v := .bool false) I ⟨by rw [differ fun h => hs (by cases h; rfl)], I.hJ⟩)
    have hs := Classical.not_not.1 hs
    by_cases hn : ¬ al.length = bl.length
    · refine dwT (T := Below w.heap.size w) 26 [iA 26 Tryz.underlying26 (sz := 2) (by kernel_rfl) (g := ga) (off := offa) (n := l.length) (cap := cap) hil, ldA 9 hA9, iA 26 Tryz.underlying26 (sz := 2) (by kernel_rfl) (g := gb) (off := offb) (n := m.length) (cap := cap2) hil2, ldA 9 hB9, bO .neq 9 (zdm (a := sa) (b := sb) (q := false) (decide_eq_false (not_not_intro hs))), iA 26 Tryz.underlying26 (sz := 2) (by kernel_rfl) (g := ga) (off := offa) (n := l.length) (cap := cap) hil, ldA 41 hA36, lS Tryz.underlying41 (ad := ada) (n := al.length) (cap := capa) rfl, iA 26 Tryz.underlying26 (sz := 2) (by kernel_rfl) (g := gb) (off := offb) (n := m.length) (cap := cap2) hil2, ldA 41 hB36, lS Tryz.underlying41 (ad := adb) (n := bl.length) (cap := capb) rfl, bO .neq 3 (qf (x := al.length) (y := bl.length) (b := true) (decide_eq_true (by omega)))] (zd w) (fun _ h => h) (zk.then (zk.qk zk.post)) I fun a5 w5 I => ?_
      refine goQ [] (zd w) I fun β6 a6 w6 I hb6 => ?_
      exact endR (retV (v := .bool false) I ⟨by rw [differ fun h => hn (by cases h; rfl)], I.hJ⟩)
    have hn := Classical.not_not.1 hn
    refine dwT (T := Below w.heap.size w) 26 [iA 26 Tryz.underlying26 (sz := 2) (by kernel_rfl) (g := ga) (off := offa) (n := l.length) (cap := cap) hil, ldA 9 hA9, iA 26 Tryz.underlying26 (sz := 2) (by kernel_rfl) (g := gb) (off := offb) (n := m.length) (cap := cap2) hil2, ldA 9 hB9, bO .neq 9 (zdm (a := sa) (b := sb) (q := false) (decide_eq_false (not_not_intro hs))), iA 26 Tryz.underlying26 (sz := 2) (by kernel_rfl) (g := ga) (off := offa) (n := l.length) (cap := cap) hil, ldA 41 hA36, lS Tryz.underlying41 (ad := ada) (n := al.length) (cap := capa) rfl, iA 26 Tryz.underlying26 (sz := 2) (by kernel_rfl) (g := gb) (off := offb) (n := m.length) (cap := cap2) hil2, ldA 41 hB36, lS Tryz.underlying41 (ad := adb) (n := bl.length) (cap := capb) rfl, bO .neq 3 (qf (x := al.length) (y := bl.length) (b := false) (decide_eq_false (by omega)))] (zd w) (fun _ h => h) (zk.then (zk.qk zk.post)) I fun a5 w5 I => ?_
    refine goQ [] (zd w) I fun β6 a6 w6 I hb6 => ?_
    let St2 : Nat → Act → World → Prop := fun k a w' => ∃ (j : Nat) (β : Nat → Nat) (u : Nat → Value), k = al.length - j ∧ j ≤ al.length ∧ (∀ q x y, q < j → al[q]? = some x → bl[q]? = some y → x = y) ∧
      SI (Below w.heap.size w) (· < w.heap.size) [] β (cfC (vk Tryz.f18) (z6 (zv 71 qhK) u 0 (qhV (.slice (some ⟨ga, offa, none⟩) l.length cap) (.slice (some ⟨gb, offb, none⟩) m.length cap2) i j)) [] 0) a w'
    refine lpM (vk Tryz.f18) St2 al.length ?_ ?_
    · obtain ⟨u', Iu⟩ := I.scr (vk Tryz.f18) (zv 71 qhK) (qhV (.slice (some ⟨ga, offa, none⟩) l.length cap) (.slice (some ⟨gb, offb, none⟩) m.length cap2) i 0) [] 0
      exact ⟨0, β6, u', by omega, Nat.zero_le _, fun q x y h => absurd h (Nat.not_lt_zero q), Iu⟩
    rintro k7 a7 w7 ⟨j, β7, u7, rfl, hj, hok2, I7⟩
    refine y7 (tm := z6 (zv 71 qhK) u7 0 (qhV (.slice (some ⟨ga, offa, none⟩) l.length cap) (.slice (some ⟨gb, offb, none⟩) m.length cap2) i j)) (rows := []) (nx := 0) ?_
    rcases Nat.lt_or_ge j al.length with hjl | hjl
    · have hjl2 : j < bl.length := by omega
      obtain ⟨x, r1⟩ : ∃ t, al[j]? = some t := ⟨_, List.getElem?_eq_getElem hjl⟩
      obtain ⟨y, r2⟩ : ∃ t, bl[j]? = some t := ⟨_, List.getElem?_eq_getElem hjl2⟩
      obtain ⟨gc, offc, cs3, rfl, hlt3, hcc, rfl, hamx⟩ := hma j _ r1
      obtain ⟨gd, offd, cs4, rfl, hlt4, hcd, rfl, hamy⟩ := hmb j _ r2
      have hC59 : ∀ w', Below w.heap.size w w' → (loadVar 66 ⟨gc, offc + j * 8, none⟩).run Tryz.prog w' = .ok (.agg (al8 x).toArray) w' := fun w' hb => loadAl (hcc.keep (hb.block gc hlt3))
      have hD59 : ∀ w', Below w.heap.size w w' → (loadVar 66 ⟨gd, offd + j * 8, none⟩).run Tryz.prog w' = .ok (.agg (al8 y).toArray) w' := fun w' hb => loadAl (hcd.keep (hb.block gd hlt4))
      refine goT (T := Below w.heap.size w) [iA 26 Tryz.underlying26 (sz := 2) (by kernel_rfl) (g := ga) (off := offa) (n := l.length) (cap := cap) hil, ldA 41 hA36, lS Tryz.underlying41 (ad := some ⟨gc, offc, none⟩) (n := al.length) (cap := capa) rfl, bO .lss 3 (zh (x := j) (y := al.length) (b := true) (by simp; omega))] (zd w) (fun _ h => h) I7 fun β8 a8 w8 I hb8 => ?_
      by_cases hxy : ¬ x = y
      · refine dwT (T := Below w.heap.size w) 17 [iA 26 Tryz.underlying26 (sz := 2) (by kernel_rfl) (g := ga) (off := offa) (n := l.length) (cap := cap) hil, ldA 41 hA36, iA 41 Tryz.underlying41 (sz := 8) (by kernel_rfl) (g := gc) (off := offc) (n := al.length) (cap := capa) hjl, ldA 66 hC59, iA 26 Tryz.underlying26 (sz := 2) (by kernel_rfl) (g := gb) (off := offb) (n := m.length) (cap := cap2) hil2, ldA 41 hB36, iA 41 Tryz.underlying41 (sz := 8) (by kernel_rfl) (g := gd) (off := offd) (n := bl.length) (cap := capb) hjl2, ldA 66 hD59, bO .neq 66 (neqA_run hamx hamy (q := true) (decide_eq_true hxy))] (zd w) (fun _ h => h) (zk.then (zk.qk (zk.then (zk.qk zk.post)))) I fun a9 w9 I => ?_
        refine goQ [] (zd w) I fun β10 a10 w10 I hb10 => ?_
        refine endR ?_
        refine @thenR Tryz.prog (bodyPost Tryz.prog Tryz.f18 _) _ _ a10 w10 ?_
        refine retV (v := .bool false) I ⟨?_, I.hJ⟩
        rw [differ fun h => hxy (by cases h; rw [r1] at r2; cases r2; rfl)]
      have hxy := Classical.not_not.1 hxy
      refine dwT (T := Below w.heap.size w) 17 [iA 26 Tryz.underlying26 (sz := 2) (by kernel_rfl) (g := ga) (off := offa) (n := l.length) (cap := cap) hil, ldA 41 hA36, iA 41 Tryz.underlying41 (sz := 8) (by kernel_rfl) (g := gc) (off := offc) (n := al.length) (cap := capa) hjl, ldA 66 hC59, iA 26 Tryz.underlying26 (sz := 2) (by kernel_rfl) (g := gb) (off := offb) (n := m.length) (cap := cap2) hil2, ldA 41 hB36, iA 41 Tryz.underlying41 (sz := 8) (by kernel_rfl) (g := gd) (off := offd) (n := bl.length) (cap := capb) hjl2, ldA 66 hD59, bO .neq 66 (neqA_run hamx hamy (q := false) (decide_eq_false (not_not_intro hxy)))] (zd w) (fun _ h => h) (zk.then (zk.qk (zk.then (zk.qk zk.post)))) I fun a9 w9 I => ?_
      refine goQ [bO .add 3 (zn (x := j) (y := 1) (z := (j + 1 : Nat)) (by rw [wz (by omega) (by omega)]; omega))] (zd w) I fun β10 a10 w10 I hb10 => ?_
      obtain ⟨u', Iu⟩ := I.scr (vk Tryz.f18) (zv 71 qhK) (qhV (.slice (some ⟨ga, offa, none⟩) l.length cap) (.slice (some ⟨gb, offb, none⟩) m.length cap2) i (j + 1)) [] 0
      refine kn ⟨al.length - (j + 1), by omega, j + 1, β10, u', rfl, hjl, fun q x' y' hq hx hy => ?_, Iu⟩
      rcases Nat.lt_or_ge q j with hqj | hqj
      · exact hok2 q x' y' hqj hx hy
      · obtain rfl : q = j := by omega
        rw [r1] at hx; rw [r2] at hy; cases hx; cases hy; exact hxy
    · obtain rfl : j = al.length := by omega
      refine goT (T := Below w.heap.size w) [iA 26 Tryz.underlying26 (sz := 2) (by kernel_rfl) (g := ga) (off := offa) (n := l.length) (cap := cap) hil, ldA 41 hA36, lS Tryz.underlying41 (ad := ada) (n := al.length) (cap := capa) rfl, bO .lss 3 (zh (x := al.length) (y := al.length) (b := false) (by simp))] (zd w) (fun _ h => h) I7 fun β8 a8 w8 I hb8 => ?_
      refine kz 2 ?_
      refine goQ [bO .add 3 (zn (x := i) (y := 1) (z := (i + 1 : Nat)) (by rw [wz (by omega) (by omega)]; omega))] (zd w) (I.exit _) fun β9 a9 w9 I hb9 => ?_
      obtain ⟨u', Iu⟩ := I.scr (zo Tryz.f18) (zv 71 qeK) (qeV (.slice (some ⟨ga, offa, none⟩) l.length cap) (.slice (some ⟨gb, offb, none⟩) m.length cap2) (i + 1)) [] 0
      refine kn ⟨l.length - (i + 1), by omega, i + 1, β9, u', rfl, hil, fun q x' y' hq hx hy => ?_, Iu⟩
      rcases Nat.lt_or_ge q i with hqj | hqj
      · exact hok q x' y' hqj hx hy
      · obtain rfl : q = i := by omega
        rw [k1] at hx; rw [k2] at hy; cases hx; cases hy
        have := zc7 hn fun q x y hx hy => hok2 q x y (List.getElem?_eq_some_iff.1 hx).1 hx hy
        rw [hs, this]
  · obtain rfl : i = l.length := by omega
    refine goQ [lS Tryz.underlying26 (ad := ad) (n := l.length) (cap := cap) rfl, bO .lss 3 (zh (x := l.length) (y := l.length) (b := false) (by simp))] (zd w) I fun β4 a4 w4 I hb4 => ?_
    refine kz 0 ?_
    refine goQ [] (zd w) (I.exit _) fun β5 a5 w5 I hb5 => ?_
    refine zm (v := .bool true) I ⟨?_, I.hJ⟩
    rw [eqX_true (zc7 h4 fun j x y hx hy => hok j x y (List.getElem?_eq_some_iff.1 hx).1 hx hy)]
abbrev rtK : List Nat := [0, 1, 4, 5, 6, 7]
abbrev rtV (ev : Value) (s : ByteArray) (i : Nat) : Vs := frm 55 [(0, Sum.inl ev), (1, Sum.inl (.string s)), (4, Sum.inr (0, 0)), (5, Sum.inl (.bool false)), (6, Sum.inr (1, 0)), (7, Sum.inl (Z i))]
abbrev ruK : List Nat := [0, 1, 4, 5, 6, 7, 8]
abbrev ruV (ev : Value) (s : ByteArray) (i j : Nat) : Vs := frm 55 [(0, Sum.inl ev), (1, Sum.inl (.string s)), (4, Sum.inr (0, 0)), (5, Sum.inl (.bool false)), (6, Sum.inr (1, 0)), (7, Sum.inl (Z i)), (8, Sum.inl (Z j))]
theorem rtotal_any {w : World} {ev : Value} {l : List Ex} (h : ExI w ev l) (s : ByteArray) (hok : okX l) : Calls Tryz.prog 19 #[ev, .string s] w fun e w' => e = .returned (totV l s) ∧ Below w.heap.size w w' := by
  obtain ⟨ad, cap, rfl, hm⟩ := h
  obtain ⟨hl, hla⟩ := hok
  refine inQ (J := Below w.heap.size w) (F := (· < w.heap.size)) Tryz.func19 (Below.refl _ _) fun a I => ?_
  refine goQ [dO 45 [] bd_Uz] (zd w) I fun β a w1 I hb => ?_
  let St : Nat → Act → World → Prop := fun k a w' => ∃ (i X : Nat) (β : Nat → Nat) (u : Nat → Value), k = l.length - i ∧ i ≤ l.length ∧ X = qy (l.take i) s ∧ X < W ∧
    SI (Below w.heap.size w) (· < w.heap.size) [] β (cfC (zo Tryz.f19) (z6 (zv 55 rtK) u 0 (rtV (.slice ad l.length cap) s i)) [(0, rU 0), (1, rU X)] 2) a w'
  refine lpM (zo Tryz.f19) St l.length ?_ ?_
  · obtain ⟨u, Iu⟩ := I.scr (zo Tryz.f19) (zv 55 rtK) (rtV (.slice ad l.length cap) s 0) [(0, rU 0), (1, rU 0)] 2
    exact ⟨0, 0, β, u, by omega, Nat.zero_le _, rfl, ku, Iu⟩
  rintro k a3 w3 ⟨i, X, β3, u, rfl, hi, hX, hW, I⟩
  refine y7 (tm := z6 (zv 55 rtK) u 0 (rtV (.slice ad l.length cap) s i)) (rows := [(0, rU 0), (1, rU X)]) (nx := 2) ?_
  rcases Nat.lt_or_ge i l.length with hil | hil
  · obtain ⟨⟨sa, al⟩, h1⟩ : ∃ t, l[i]? = some t := ⟨_, List.getElem?_eq_getElem hil⟩
    obtain ⟨ga, offa, cs, rfl, hlt, hca, av, rfl, ada, capa, rfl, hma⟩ := hm i _ h1
    have hal : al.length < 1000000000 := hla _ (List.mem_of_getElem? h1)
    simp only [] at hca hma
    have hstep := totS_take (s := s) h1
    rw [← hX] at hstep
    simp only [] at hstep
    have hld9 : ∀ w', Below w.heap.size w w' → (loadVar 9 ⟨ga, offa + i * 2 + 0, none⟩).run Tryz.prog w' = .ok (.string sa) w' := fun w' hb => zb4 (hca.keep (hb.block ga hlt)) 0 rfl 9 Tryz.underlying9 rfl
    have hld36 : ∀ w', Below w.heap.size w w' → (loadVar 41 ⟨ga, offa + i * 2 + 1, none⟩).run Tryz.prog w' = .ok (.slice ada al.length capa) w' := fun w' hb => zb4 (hca.keep (hb.block ga hlt)) 1 rfl 41 Tryz.underlying41 rfl
    refine goQ [lS Tryz.underlying26 (ad := some ⟨ga, offa, none⟩) (n := l.length) (cap := cap) rfl, bO .lss 3 (zh (x := i) (y := l.length) (b := true) (by simp; omega))] (zd w) I fun β4 a4 w4 I hb4 => ?_
    let St2 : Nat → Act → World → Prop := fun k a w' => ∃ (j V : Nat) (β : Nat → Nat) (u : Nat → Value), k = al.length - j ∧ j ≤ al.length ∧ V = X + (if sa = s then sumA (al.take j) else 0) ∧ V < W ∧
      SI (Below w.heap.size w) (· < w.heap.size) [] β (cfC (vk Tryz.f19) (z6 (zv 55 ruK) u 0 (ruV (.slice (some ⟨ga, offa, none⟩) l.length cap) s i j)) [(0, rU 0), (1, rU V)] 2) a w'
    refine lpM (vk Tryz.f19) St2 al.length ?_ ?_
    · obtain ⟨u', Iu⟩ := I.scr (vk Tryz.f19) (zv 55 ruK) (ruV (.slice (some ⟨ga, offa, none⟩) l.length cap) s i 0) [(0, rU 0), (1, rU X)] 2
      exact ⟨0, X, β4, u', by omega, Nat.zero_le _, by rw [List.take_zero]; split <;> rfl, hW, Iu⟩
    rintro k2 a5 w5 ⟨j, V, β5, u5, rfl, hj, hV, hW5, I5⟩
    refine y7 (tm := z6 (zv 55 ruK) u5 0 (ruV (.slice (some ⟨ga, offa, none⟩) l.length cap) s i j)) (rows := [(0, rU 0), (1, rU V)]) (nx := 2) ?_
    rcases Nat.lt_or_ge j al.length with hjl | hjl
    · obtain ⟨⟨de, am, kd, le, ri⟩, h2⟩ : ∃ t, al[j]? = some t := ⟨_, List.getElem?_eq_getElem hjl⟩
      obtain ⟨gb, offb, cs2, rfl, hlt2, hcb, rfl, ham⟩ := hma j _ h2
      have ham : am < W := ham
      have hst2 := sumA_take h2
      simp only [] at hst2
      by_cases has : ¬ sa = s
      · refine goT (T := Below w.heap.size w) [iA 26 Tryz.underlying26 (sz := 2) (by kernel_rfl) (g := ga) (off := offa) (n := l.length) (cap := cap) hil, ldA 41 hld36, lS Tryz.underlying41 (ad := some ⟨gb, offb, none⟩) (n := al.length) (cap := capa) rfl, bO .lss 3 (zh (x := j) (y := al.length) (b := true) (by simp; omega)), iA 26 Tryz.underlying26 (sz := 2) (by kernel_rfl) (g := ga) (off := offa) (n := l.length) (cap := cap) hil, ldA 9 hld9, bO .eql 9 (zay (a := sa) (b := s) (q := false) (decide_eq_false has))] (zd w) (fun _ h => h) I5 fun β6 a6 w6 I hb6 => ?_
        refine kz 2 ?_
        refine goQ [bO .add 3 (zn (x := i) (y := 1) (z := (i + 1 : Nat)) (by rw [wz (by omega) (by omega)]; omega))] (zd w) (I.exit _) fun β7 a7 w7 I hb7 => ?_
        obtain ⟨u', Iu⟩ := I.scr (zo Tryz.f19) (zv 55 rtK) (rtV (.slice (some ⟨ga, offa, none⟩) l.length cap) s (i + 1)) [(0, rU 0), (1, rU V)] 2
        rw [if_neg has] at hstep hV
        exact kn ⟨l.length - (i + 1), by omega, i + 1, V, β7, u', rfl, hil, by rw [hstep]; exact hV, hW5, Iu⟩
      have has := Classical.not_not.1 has
      rw [if_pos has] at hstep hV
      have hld33 : ∀ w', Below w.heap.size w w' → (loadVar 45 ⟨gb, offb + j * 8 + 1, none⟩).run Tryz.prog w' = .ok (U am) w' := fun w' hb => loadAm (a := (de, am, kd, le, ri)) (hcb.keep (hb.block gb hlt2))
      refine goT (T := Below w.heap.size w) [iA 26 Tryz.underlying26 (sz := 2) (by kernel_rfl) (g := ga) (off := offa) (n := l.length) (cap := cap) hil, ldA 41 hld36, lS Tryz.underlying41 (ad := some ⟨gb, offb, none⟩) (n := al.length) (cap := capa) rfl, bO .lss 3 (zh (x := j) (y := al.length) (b := true) (by simp; omega)), iA 26 Tryz.underlying26 (sz := 2) (by kernel_rfl) (g := ga) (off := offa) (n := l.length) (cap := cap) hil, ldA 9 hld9, bO .eql 9 (zay (a := sa) (b := s) (q := true) (decide_eq_true has))] (zd w) (fun _ h => h) I5 fun β6 a6 w6 I hb6 => ?_
      rcases Nat.lt_or_ge (V + am) W with hov | hov
      · have hA : ∀ w', Below w.heap.size w w' → Calls Tryz.prog 40 #[U V, U am] w' fun e w'' => e = .returned (.tuple #[U (V + am), .bool false]) ∧ Below w'.heap.size w' w'' := fun w' _ => by
          have := radd_any V am hW5 ham w'
          rwa [show qw V am = V + am from Nat.mod_eq_of_lt hov, show ovW V am = false from decide_eq_false (by omega)] at this
        obtain ⟨V2, hV2⟩ : ∃ x, V + am = x := ⟨_, rfl⟩
        rw [hV2] at hA hov
        refine dwA (T := Below w.heap.size w) 14 15 9 49 V2 [iA 26 Tryz.underlying26 (sz := 2) (by kernel_rfl) (g := ga) (off := offa) (n := l.length) (cap := cap) hil, ldA 41 hld36, iA 41 Tryz.underlying41 (sz := 8) (by kernel_rfl) (g := gb) (off := offb) (n := al.length) (cap := capa) hjl, ldA 45 hld33, cA Tryz.func40 hA] (zd w) (fun _ h => h) I fun b vs β9 a9 w9 hag I => ?_
        refine goQ [bO .add 3 (zn (x := j) (y := 1) (z := (j + 1 : Nat)) (by rw [wz (by omega) (by omega)]; omega))] (zd w) I fun β10 a10 w10 I hb10 => ?_
        obtain ⟨u', Iu⟩ := I.scr (vk Tryz.f19) (zv 55 ruK) (ruV (.slice (some ⟨ga, offa, none⟩) l.length cap) s i (j + 1)) [(0, rU 0), (1, rU V2)] 2
        exact kn ⟨al.length - (j + 1), by omega, j + 1, V2, β10, u', rfl, hjl, by rw [if_pos has, hst2]; omega, hov, Iu⟩
      · have hA : ∀ w', Below w.heap.size w w' → Calls Tryz.prog 40 #[U V, U am] w' fun e w'' => e = .returned (.tuple #[U (qw V am), .bool true]) ∧ Below w'.heap.size w' w'' := fun w' _ => by
          have := radd_any V am hW5 ham w'
          rwa [show ovW V am = true from decide_eq_true hov] at this
        obtain ⟨V2, hV2⟩ : ∃ x, qw V am = x := ⟨_, rfl⟩
        rw [hV2] at hA
        refine dwA (T := Below w.heap.size w) 14 15 9 49 V2 [iA 26 Tryz.underlying26 (sz := 2) (by kernel_rfl) (g := ga) (off := offa) (n := l.length) (cap := cap) hil, ldA 41 hld36, iA 41 Tryz.underlying41 (sz := 8) (by kernel_rfl) (g := gb) (off := offb) (n := al.length) (cap := capa) hjl, ldA 45 hld33, cA Tryz.func40 hA] (zd w) (fun _ h => h) I fun b vs β9 a9 w9 hag I => ?_
        refine goQ [dO 45 [] bd_Uz] (zd w) I fun β10 a10 w10 I hb10 => ?_
        refine endR (thenR (retV (v := .tuple #[U 0, .bool false]) I ⟨?_, I.hJ⟩))
        unfold totV
        rw [if_neg]
        have q1 := totS_le (l := l) (s := s) (i + 1)
        have q2 := sumA_le (l := al) (j + 1)
        omega
    · obtain rfl : j = al.length := by omega
      rw [List.take_length] at hV
      refine goT (T := Below w.heap.size w) [iA 26 Tryz.underlying26 (sz := 2) (by kernel_rfl) (g := ga) (off := offa) (n := l.length) (cap := cap) hil, ldA 41 hld36, lS Tryz.underlying41 (ad := ada) (n := al.length) (cap := capa) rfl, bO .lss 3 (zh (x := al.length) (y := al.length) (b := false) (by simp))] (zd w) (fun _ h => h) I5 fun β6 a6 w6 I hb6 => ?_
      refine kz 2 ?_
      refine goQ [bO .add 3 (zn (x := i) (y := 1) (z := (i + 1 : Nat)) (by rw [wz (by omega) (by omega)]; omega))] (zd w) (I.exit _) fun β7 a7 w7 I hb7 => ?_
      obtain ⟨u', Iu⟩ := I.scr (zo Tryz.f19) (zv 55 rtK) (rtV (.slice (some ⟨ga, offa, none⟩) l.length cap) s (i + 1)) [(0, rU 0), (1, rU V)] 2
      exact kn ⟨l.length - (i + 1), by omega, i + 1, V, β7, u', rfl, hil, by rw [hstep]; exact hV, hW5, Iu⟩
  · obtain rfl : i = l.length := by omega
    rw [List.take_length] at hX
    refine goQ [lS Tryz.underlying26 (ad := ad) (n := l.length) (cap := cap) rfl, bO .lss 3 (zh (x := l.length) (y := l.length) (b := false) (by simp))] (zd w) I fun β4 a4 w4 I hb4 => ?_
    refine kz 0 ?_
    refine goQ [] (zd w) (I.exit _) fun β5 a5 w5 I hb5 => ?_
    refine zm (v := .tuple #[U X, .bool true]) I ⟨?_, I.hJ⟩
    unfold totV
    rw [← hX, if_pos hW]
end Go.Proofs.YthkpgfbjdabflaaGreatDoor
