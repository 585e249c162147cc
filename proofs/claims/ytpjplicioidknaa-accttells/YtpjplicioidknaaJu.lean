/- The program's Fit: accounts one by one, their order, sums in a map. -/
import Derived.Test.YtpjplicioidknaaJo
import Derived.MapKept
namespace Go.Proofs.Ytpjplicioidknaa
open Go.RowKit Go.Sort Go.MapKept
set_option linter.unusedVariables false
set_option maxRecDepth 100000
section
variable {P : Program} {J : World → Prop} {F : Nat → Prop} {ds : List Deferred} {β : Nat → Nat} {c : Cf} {a : Act} {w : World} {Q : Exit → Act → World → Prop}
def lkX (c : Cf) : Option (TypeId × SV × SV × Bool) := match opAtQ c with
  | some o => match o.op with
    | .lookup t x y ok => (evQ c.tm x).bind fun s => (evQ c.tm y).map fun r => (t, s, r, ok)
    | _ => none
  | none => none
/-- A look at a map. -/
theorem lokX {t : TypeId} {m k v : Value} {ok : Bool} (I : SI J F ds β c a w) (hr : (Instr.lookup t m k ok).run P w = .ok v w) (kk : At P Q (nxtQ c v) (a.put (dstQ c) v) w) (hc : lkX c = some (t, Sum.inl m, Sum.inl k, ok) := by kernel_rfl) : At P Q c a w := by
  unfold lkX at hc
  split at hc
  · next o ho =>
    split at hc
    · next t' x y ok' hop =>
      simp only [Option.bind_eq_some_iff, Option.map_eq_some_iff, Prod.mk.injEq] at hc
      obtain ⟨s, hs, r, hr2, rfl, rfl, rfl, rfl⟩ := hc
      refine vstep ho I (v := v) (w' := w) ?_ kk
      unfold execOp
      simp only [hop, evQ_ok I.fr hs, evQ_ok I.fr hr2, up]
      rw [Sem.run_bind, hr, Result.andThen_ok, Sem.run_pure]
    · cases hc
  · cases hc
def mkX (c : Cf) : Option TypeId := match opAtQ c with
  | some o => match o.op with
    | .makeMap t none => some t
    | _ => none
  | none => none
theorem makX {t : TypeId} (I : SI J F ds β c a w) (kk : At P Q (nxtQ c (.map (some w.heap.size))) (a.put (dstQ c) (.map (some w.heap.size))) (w.alloc (.map #[] 0))) (hc : mkX c = some t := by kernel_rfl) : At P Q c a w := by
  unfold mkX at hc
  split at hc
  · next o ho =>
    split at hc
    · next t' hop =>
      refine vstep ho I (w' := w.alloc (.map #[] 0)) ?_ kk
      have hm : (Instr.makeMap t' none).run P w = .ok (.map (some w.heap.size)) (w.alloc (.map #[] 0)) := rfl
      unfold execOp
      simp only [hop, Option.map_none]
      rw [Sem.run_bind, hm, Result.andThen_ok, Sem.run_pure]
    · cases hc
  · cases hc
def inX (c : Cf) : Option (TypeId × SV × SV × SV) := match opAtQ c with
  | some o => match o.op with
    | .mapUpdate t x y z => (evQ c.tm x).bind fun s => (evQ c.tm y).bind fun r => (evQ c.tm z).map fun u => (t, s, r, u)
    | _ => none
  | none => none
theorem insX {t : TypeId} {m k v : Value} {w' : World} (I : SI J F ds β c a w) (hr : (Instr.mapUpdate t m k v).run P w = .ok () w') (kk : At P Q (nextQ c (dstQ c) none) (a.put (dstQ c) undef) w') (hc : inX c = some (t, Sum.inl m, Sum.inl k, Sum.inl v) := by kernel_rfl) : At P Q c a w := by
  unfold inX at hc
  split at hc
  · next o ho =>
    split at hc
    · next t' x y z hop =>
      simp only [Option.bind_eq_some_iff, Option.map_eq_some_iff, Prod.mk.injEq] at hc
      obtain ⟨s, hs, r, hr2, u, hu, rfl, rfl, rfl, rfl⟩ := hc
      obtain ⟨hd, ⟨rest, hrr⟩, hw⟩ := opAtQ_some ho
      refine at_cons hd hrr (wantQ_ok I hw) ?_
      have he : (execOp a.eval o).run P w = .ok .skip w' := by
        unfold execOp
        simp only [hop, evQ_ok I.fr hs, evQ_ok I.fr hr2, evQ_ok I.fr hu, up]
        rw [Sem.run_bind, hr, Result.andThen_ok, Sem.run_pure]
      unfold Oper.wp
      rw [he]
      replace kk := kk.out
      unfold AtD at kk
      simp only [nextQ, hd, dstQ, hrr, List.tail_cons, List.head?_cons, Option.bind_some] at kk
      exact kk
    · cases hc
  · cases hc
end
structure MJ (wE : World) (g : Nat) (es : Array MapEntry) (n : Nat) (w : World) : Prop where
  bw : Below wE.heap.size wE w
  ge : wE.heap.size ≤ g
  at_ : w.heap[g]? = some (.map es n)
theorem MJ.rs (wE : World) (g : Nat) (es : Array MapEntry) (n : Nat) : Rsrc (MJ wE g es n) (fun k => k < wE.heap.size ∨ k = g) := by
  refine ⟨fun w w' h gr => ⟨⟨gr.os.trans h.bw.os, gr.tape.trans h.bw.tape, gr.output.trans h.bw.output, Nat.le_trans h.bw.size gr.size, fun k hk => (gr.block k (Nat.lt_of_lt_of_le hk h.bw.size) (.inl hk)).trans (h.bw.block k hk)⟩, h.ge, ?_⟩, fun w k h hk => ?_⟩
  · rw [gr.block g (Array.getElem?_eq_some_iff.1 h.at_).1 (.inr rfl)]; exact h.at_
  · rcases hk with hk | rfl
    · exact Nat.lt_of_lt_of_le hk h.bw.size
    · exact (Array.getElem?_eq_some_iff.1 h.at_).1
theorem MJ.put {wE : World} {g : Nat} {es : Array MapEntry} {n : Nat} {w : World} (h : MJ wE g es n w) (o : Array MapEntry) (m : Nat) : MJ wE g o m { w with heap := w.heap.setIfInBounds g (.map o m) } ∧ Grow (fun k => ¬ (k < wE.heap.size ∨ k = g)) w { w with heap := w.heap.setIfInBounds g (.map o m) } := by
  have hlt : g < w.heap.size := (Array.getElem?_eq_some_iff.1 h.at_).1
  have hne : ∀ k, k ≠ g → (w.heap.setIfInBounds g (.map o m))[k]? = w.heap[k]? := fun k hk => by
    rw [Array.getElem?_setIfInBounds, if_neg (fun e => hk e.symm)]
  refine ⟨⟨⟨h.bw.os, h.bw.tape, h.bw.output, by simpa using h.bw.size, fun k hk => ?_⟩, h.ge, ?_⟩, rfl, rfl, rfl, by simp, fun k hk hF => hne k fun e => hF (.inr e)⟩
  · rw [hne k (by have := h.ge; omega)]; exact h.bw.block k hk
  · show (w.heap.setIfInBounds g (.map o m))[g]? = _
    rw [Array.getElem?_setIfInBounds, if_pos rfl, if_pos hlt]
theorem SI.movU {J J' : World → Prop} {F F' : Nat → Prop} {ds : List Deferred} {β : Nat → Nat} {c : Cf} {a : Act} {w w' : World} (I : SI J F ds β c a w) (g : Grow (fun k => ¬ F k) w w') (hJ : J' w') (hF : ∀ k, k < w.heap.size → F' k → F k) : SI J' F' ds β (nextQ c (dstQ c) none) (a.put (dstQ c) undef) w' := I.move g hJ hF (dstQ c) none
/-- A map from texts to numbers. -/
structure MS (es : Array MapEntry) (f : ByteArray → Nat) : Prop where
  ent : ∀ (i : Nat) (e : MapEntry), es[i]? = some e → ∃ s : ByteArray, e.key = .string s ∧ e.val = U (f s)
  non : ∀ s : ByteArray, (∀ (i : Nat) (e : MapEntry), es[i]? = some e → e.key ≠ .string s) → f s = 0
  inj : ∀ (i j : Nat) (e e' : MapEntry), es[i]? = some e → es[j]? = some e' → e.key = e'.key → i = j
theorem MS.keys {es : Array MapEntry} {f : ByteArray → Nat} (h : MS es f) : ∀ x ∈ es.toList, IsKey .string x.key := fun x hx => by
  obtain ⟨i, hi⟩ := List.getElem?_of_mem hx
  obtain ⟨s, e, _⟩ := h.ent i x (by simpa using hi)
  rw [e]
  trivial
theorem map_look {w : World} {g : Nat} {es : Array MapEntry} {n : Nat} {f : ByteArray → Nat} (hb : w.heap[g]? = some (.map es n)) (h : MS es f) (s : ByteArray) : (Instr.lookup 56 (.map (some g)) (.string s) false).run Try.prog w = .ok (U (f s)) w := by
  have hz : (zeroValue 27).run Try.prog w = .ok (U 0) w := by kernel_rfl
  unfold Instr.lookup
  simp only [Sem.run_bind, run_underlying Try.underlying56, Result.andThen_ok, Go.MapKept.run_getObj_map hb, Sem.run_pure, Go.MapKept.run_checkKey Try.underlying9 (show IsKey .string (.string s) from trivial)]
  rcases findNow_spec (d := .string) (k := .string s) trivial es.toList 0 h.keys with ⟨h1, h2⟩ | ⟨j, e, h1, h2, h3⟩
  · rw [Go.MapKept.run_findKey Try.underlying9 h1]
    simp only [Result.andThen_ok, Sem.run_bind, hz, Sem.run_pure]
    rw [h.non s fun i e he => h2 e (by simpa using Array.mem_of_getElem? he)]
    rfl
  · rw [Go.MapKept.run_findKey Try.underlying9 h1]
    obtain ⟨s', e1, e2⟩ := h.ent j e (by simpa using h2)
    rw [h3] at e1
    cases e1
    rw [e2]
    rfl
theorem map_put {w : World} {g : Nat} {es : Array MapEntry} {n : Nat} {f : ByteArray → Nat} (hb : w.heap[g]? = some (.map es n)) (h : MS es f) (s : ByteArray) (m : Nat) : ∃ es' n', (Instr.mapUpdate 56 (.map (some g)) (.string s) (U m)).run Try.prog w = .ok () { w with heap := w.heap.setIfInBounds g (.map es' n') } ∧ MS es' (fun t => if t = s then m else f t) := by
  unfold Instr.mapUpdate
  simp only [Sem.run_bind, run_underlying Try.underlying56, Result.andThen_ok, Go.MapKept.run_getObj_map hb, Go.MapKept.run_checkKey Try.underlying9 (show IsKey .string (.string s) from trivial)]
  rcases findNow_spec (d := .string) (k := .string s) trivial es.toList 0 h.keys with ⟨h1, h2⟩ | ⟨j, e, h1, h2, h3⟩
  · rw [Go.MapKept.run_findKey Try.underlying9 h1]
    have h2' : ∀ (i : Nat) (e : MapEntry), es[i]? = some e → e.key ≠ .string s := fun i e he => h2 e (by simpa using Array.mem_of_getElem? he)
    refine ⟨_, _, by simp only [Result.andThen_ok]; exact Go.MapKept.run_setObj_map _ hb, ?_, ?_, ?_⟩
    · intro i e he
      rw [Array.getElem?_push] at he
      split at he
      · cases he; exact ⟨s, rfl, by rw [if_pos rfl]⟩
      · obtain ⟨t, e1, e2⟩ := h.ent i e he
        refine ⟨t, e1, ?_⟩
        rw [if_neg fun q => h2' i e he (by rw [e1, q]), e2]
    · intro t ht
      have hts : t ≠ s := fun q => ht es.size _ (Array.getElem?_push_size) (by rw [q])
      rw [if_neg hts]
      exact h.non t fun i e he => ht i e (by
        rw [Array.getElem?_push, if_neg]
        · exact he
        · have := (Array.getElem?_eq_some_iff.1 he).1; omega)
    · intro i j e e' he he' hk
      rw [Array.getElem?_push] at he he'
      split at he <;> split at he'
      · omega
      · cases he; exact absurd hk.symm (h2' j e' he')
      · cases he'; exact absurd hk (h2' i e he)
      · exact h.inj i j e e' he he' hk
  · rw [Go.MapKept.run_findKey Try.underlying9 h1]
    have hj : es[j]? = some e := by simpa using h2
    refine ⟨es.modify j fun e => { e with key := .string s, val := U m }, n, ?_, ?_, ?_, ?_⟩
    · simp only [Result.andThen_ok, Nat.zero_add, hj, Option.map_some, Option.getD_some, h3, Sem.run_bind, Go.MapKept.run_keyThatStays (d := .string) (show IsKey .string (.string s) from trivial)]
      exact Go.MapKept.run_setObj_map _ hb
    · intro i e' he'
      rw [Array.getElem?_modify] at he'
      split at he'
      · next q =>
        subst q
        rw [hj] at he'
        cases he'
        exact ⟨s, rfl, by rw [if_pos rfl]⟩
      · next q =>
        obtain ⟨t, e1, e2⟩ := h.ent i e' he'
        refine ⟨t, e1, ?_⟩
        rw [if_neg fun z => q (h.inj j i e e' hj he' (by rw [h3, e1, z])), e2]
    · intro t ht
      have hts : t ≠ s := fun q => by
        subst q
        exact ht j _ (by rw [Array.getElem?_modify, if_pos rfl, hj]; rfl) rfl
      rw [if_neg hts]
      refine h.non t fun i e' he' q => ?_
      by_cases hij : j = i
      · subst hij
        rw [hj] at he'
        cases he'
        rw [h3] at q
        exact hts (by cases q; rfl)
      · exact ht i e' (by rw [Array.getElem?_modify, if_neg hij]; exact he') q
    · intro i i' e1 e2 h1 h2 hk
      rw [Array.getElem?_modify] at h1 h2
      split at h1 <;> split at h2
      · omega
      · next q q' =>
        subst q
        rw [hj] at h1
        cases h1
        exact h.inj j i' e e2 hj h2 (h3.trans hk)
      · next q q' =>
        subst q'
        rw [hj] at h2
        cases h2
        exact h.inj i j e1 e h1 hj (hk.trans h3.symm)
      · exact h.inj i i' e1 e2 h1 h2 hk
theorem ms_nil : MS #[] (fun _ => 0) := ⟨fun i e h => by simp at h, fun _ _ => rfl, fun i j e e' h => by simp at h⟩
abbrev spK : List Nat := [0, 2, 3, 9, 10, 11]
abbrev spV (v : Value) (g m i : Nat) : Vs := frm 31 [(0, Sum.inl v), (2, Sum.inl (.bool false)), (3, Sum.inl (.map (some g))), (9, Sum.inl v), (10, Sum.inl (Z m)), (11, Sum.inl (Z i))]
def smB (l : List Co) : Bool := l.all fun c => decide (smN l c.2.1 < W)
set_option maxHeartbeats 4000000 in
theorem sumsFit_any {w : World} {v : Value} {l : List Co} (h : CoI w v l) (hl : l.length < 1000000000) : Calls Try.prog 26 #[v] w fun e w' => e = .returned (.bool (smB l)) ∧ Below w.heap.size w w' := by
  obtain ⟨ad, cap, rfl, hm⟩ := h
  refine inQ (J := Below w.heap.size w) (F := (· < w.heap.size)) Try.func26 (Below.refl _ _) fun a I => ?_
  refine goQ [] (nonR w) I fun β a w1 I hb => ?_
  refine makX (t := 56) I ?_
  have hsz := I.hJ.size
  obtain ⟨g, hg⟩ : ∃ g, w1.heap.size = g := ⟨_, rfl⟩
  have I1 : SI (MJ w g #[] 0) (fun k => k < w.heap.size ∨ k = g) [] β _ _ (w1.alloc (.map #[] 0)) := I.moved (Grow.of_below (below_alloc w1 _)) ⟨I.hJ.trans ((below_alloc w1 _).mono hsz), by omega, by rw [← hg]; exact Array.getElem?_push_size⟩ (fun k hk h => by
    rcases h with h | h
    · exact h
    · omega) (.map (some w1.heap.size))
  rw [hg] at I1 ⊢
  refine goQ [lnC ad l.length cap] (MJ.rs w g #[] 0) I1 fun β2 a2 w2 I hb2 => ?_
  let St : Nat → Act → World → Prop := fun k a w' => ∃ (i : Nat) (β : Nat → Nat) (u : Nat → Value) (es : Array MapEntry) (n : Nat), k = l.length - i ∧ i ≤ l.length ∧ MS es (fun s => smN (l.take i) s) ∧ (∀ s, smN (l.take i) s < W) ∧
    SI (MJ w g es n) (fun k => k < w.heap.size ∨ k = g) [] β (cfC (bodyL Try.f26) (fillF (scrF 31 spK) u 0 (spV (.slice ad l.length cap) g l.length i)) [] 0) a w'
  refine lpM (bodyL Try.f26) St l.length ?_ ?_
  · obtain ⟨u, Iu⟩ := I.scr (bodyL Try.f26) (scrF 31 spK) (spV (.slice ad l.length cap) g l.length 0) [] 0
    exact ⟨0, _, u, #[], 0, by omega, Nat.zero_le _, ms_nil, fun s => W_pos, Iu⟩
  rintro k a3 w3 ⟨i, β3, u, es, n, rfl, hi, hMS, hW, I⟩
  refine wp_cfC (tm := fillF (scrF 31 spK) u 0 (spV (.slice ad l.length cap) g l.length i)) (rows := []) (nx := 0) ?_
  rcases Nat.lt_or_ge i l.length with hil | hil
  · obtain ⟨c, h1⟩ : ∃ t, l[i]? = some t := ⟨_, List.getElem?_eq_getElem hil⟩
    obtain ⟨ga, off, cs, rfl, hlt, hca, rfl, ham⟩ := hm i _ h1
    have hld : ∀ w', MJ w g es n w' → (loadVar 41 ⟨ga, off + i * 6, none⟩).run Try.prog w' = .ok (coV c) w' := fun w' h => loadCo (hca.keep (h.bw.block ga hlt))
    have hstep : ∀ s, smN (l.take (i + 1)) s = smN (l.take i) s + if c.2.1 = s then c.2.2 else 0 := fun s => smN_take h1
    have hmem := List.mem_of_getElem? h1
    have hle := smN_le (l := l) (s := c.2.1) (i + 1)
    obtain ⟨wh, asst, am⟩ := c
    simp only [] at hstep ham hle
    have hVW := hW asst
    have hst := hstep asst
    rw [if_pos rfl] at hst
    obtain ⟨V, hV⟩ : ∃ V, smN (l.take i) asst = V := ⟨_, rfl⟩
    refine goT (T := MJ w g es n) [lT i l.length (by omega), ixC ga off l.length cap i hil, ldA 41 hld] (MJ.rs w g es n) (fun _ h => h) I fun β4 a4 w4 I hb4 => ?_
    have hlk := map_look I.hJ.at_ hMS asst
    simp only [hV] at hlk
    rw [hV] at hVW hst
    refine lokX I hlk ?_
    have I := I.same (U V)
    rcases Nat.lt_or_ge (V + am) W with hov | hov
    · have hA := addOk add_any hVW ham hov
      obtain ⟨V2, hV2⟩ : ∃ V2, V + am = V2 := ⟨_, rfl⟩
      rw [hV2] at hA hov hst
      refine goQ [kC Try.func22 hA] (MJ.rs w g es n) I fun β5 a5 w5 I hb5 => ?_
      obtain ⟨es', n', hr, hMS'⟩ := map_put I.hJ.at_ hMS asst V2
      refine insX I hr ?_
      obtain ⟨j1, j2⟩ := I.hJ.put es' n'
      have I := I.movU j2 j1 fun k hk h => h
      refine goQ [p1 i (by omega)] (MJ.rs w g es' n') I fun β6 a6 w6 I hb6 => ?_
      obtain ⟨u', Iu⟩ := I.scr (bodyL Try.f26) (scrF 31 spK) (spV (.slice (some ⟨ga, off, none⟩) l.length cap) g l.length (i + 1)) [] 0
      have hf : (fun s => smN (l.take (i + 1)) s) = fun t => if t = asst then V2 else smN (l.take i) t := by
        funext t
        by_cases q : t = asst
        · subst q; rw [if_pos rfl, hst]
        · rw [if_neg q, hstep, if_neg fun e => q e.symm, Nat.add_zero]
      refine endL ⟨l.length - (i + 1), by omega, i + 1, _, u', es', n', rfl, hil, by rw [hf]; exact hMS', fun s => ?_, Iu⟩
      have := congrFun hf s
      rw [this]
      split
      · exact hov
      · exact hW s
    · have hA := addNo add_any hVW ham hov
      generalize addW V am = V2 at hA
      refine goQ [kC Try.func22 hA] (MJ.rs w g es n) I fun β5 a5 w5 I hb5 => ?_
      refine endR (retV (v := .bool false) I ⟨?_, I.hJ.bw⟩)
      have : smB l = false := by
        unfold smB
        rw [List.all_eq_false]
        refine ⟨_, hmem, ?_⟩
        simp only [decide_eq_true_eq]
        omega
      rw [this]
  · obtain rfl : i = l.length := by omega
    rw [List.take_length] at hW
    refine goQ [lF l.length l.length (by omega)] (MJ.rs w g es n) I fun β4 a4 w4 I hb4 => ?_
    refine endE 0 ?_
    refine goQ [] (MJ.rs w g es n) (I.exit _) fun β5 a5 w5 I hb5 => ?_
    refine outQ (v := .bool true) I ⟨?_, I.hJ.bw⟩
    have : smB l = true := by
      unfold smB
      rw [List.all_eq_true]
      exact fun c _ => decide_eq_true (hW _)
    rw [this]
end Go.Proofs.Ytpjplicioidknaa
