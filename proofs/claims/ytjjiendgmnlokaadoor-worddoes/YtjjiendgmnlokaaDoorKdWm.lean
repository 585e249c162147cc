/- Decode by a flat form. -/
import Derived.Test.YtjjiendgmnlokaaDoorKdWl
namespace Go.Proofs.YtjjiendgmnlokaaDoor
open Go.RowKit Go.Sort
set_option linter.unusedVariables false
set_option maxRecDepth 100000
structure EO (W0 : World) (e sz : Nat) (v : Value) (n : Nat) (xs : List Value) (w : World) : Prop where
  bw : Below W0.heap.size W0 w
  own : w.ownsRow W0.heap.size e sz v n xs
theorem EO.rs (W0 : World) (e sz : Nat) (v : Value) (n : Nat) (xs : List Value) : Rsrc (EO W0 e sz v n xs) (EF W0 v) := by
  refine ⟨fun w w' h gr => ⟨⟨gr.os.trans h.bw.os, gr.tape.trans h.bw.tape, gr.output.trans h.bw.output, Nat.le_trans h.bw.size gr.size, fun k hk => (gr.block k (Nat.lt_of_lt_of_le hk h.bw.size) (.inl hk)).trans (h.bw.block k hk)⟩, owns_grow h.own gr fun k hk => .inr hk⟩, fun w k h hk => ?_⟩
  rcases hk with hk | hk
  · exact Nat.lt_of_lt_of_le hk h.bw.size
  · exact (h.own.lt k hk).2
theorem owns_base {w : World} {b b' e s : Nat} {v : Value} {n : Nat} {xs : List Value} (h : w.ownsRow b e s v n xs) (hb : b' ≤ b) : w.ownsRow b' e s v n xs := by
  obtain ⟨h1, h2⟩ := h
  refine ⟨h1, ?_⟩
  rcases h2 with h2 | ⟨g, cap, cur, a1, a2, a3⟩
  · exact .inl h2
  · exact .inr ⟨g, cap, cur, a1, Nat.le_trans hb a2, a3⟩
theorem bd_fr (s : List UInt8) (w : World) : (Instr.build 74 (([0] : List Nat).zip [str s]).toArray).run Tryd.prog w = .ok (.agg #[str s, Z 0, Z 0]) w := by kernel_rfl
theorem bd_wr (s : List UInt8) (w : World) : (Instr.build 47 (([0] : List Nat).zip [str s]).toArray).run Tryd.prog w = .ok (.agg #[str s, Z 0]) w := by kernel_rfl
theorem shapes_flat {ks : List Int} (hS : ks.length < 1000000000) (hk : ∀ k ∈ ks, k = 0 ∨ k = 1) (w : World) :
    Calls Tryd.prog 23 #[str (ks.map mkS)] w fun e w' => ∃ v, e = .returned v ∧ EO w 71 3 v ks.length (ks.flatMap sc) w' := by
  have hsz := str_size (ks.map mkS)
  rw [List.length_map] at hsz
  refine inQ (J := Below w.heap.size w) (F := (· < w.heap.size)) Tryd.func23 (Below.refl _ _) fun a I => ?_
  refine goQ [dO 74 [0] (bd_fr (ks.map mkS))] (nonR w) I fun β a w1 I hb => ?_
  have hr := I.rowAt 0 (r := #[str (ks.map mkS), Z 0, Z 0])
  have hge : ¬ (β 0 < w.heap.size) := I.dis _ (rowOf_mem (show rowOf _ 0 = some #[str (ks.map mkS), Z 0, Z 0] by kernel_rfl))
  refine mcall (ss := [Sum.inr (0, 0)]) Tryd.func36 I ?_
  refine (frow_flat hr hS hk).mono fun e w2 he => ?_
  obtain ⟨v, rfl, hr2, hg2, ho2⟩ := he
  have hbw : Below w.heap.size w w2 := ⟨hg2.os.trans I.hJ.os, hg2.tape.trans I.hJ.tape, hg2.output.trans I.hJ.output, Nat.le_trans I.hJ.size hg2.size, fun k hk => (hg2.block k (Nat.lt_of_lt_of_le hk I.hJ.size) (by omega)).trans (I.hJ.block k hk)⟩
  refine (at_row (id := 0) (r := #[str (ks.map mkS), Z ks.length, Z 0])).1 ?_
  have I2 : SI (EO w 71 3 v ks.length (ks.flatMap sc)) (EF w v) [] β _ _ w2 := I.rowed (id := 0) (r0 := #[str (ks.map mkS), Z 0, Z 0]) (by kernel_rfl) ⟨hg2.os, hg2.tape, hg2.output, hg2.size, fun k hk hn => hg2.block k hk hn.2⟩ hr2 ⟨hbw, owns_base ho2 I.hJ.size⟩ (fun k hk h => by
      rcases h with h | h
      · exact h
      · have := (ho2.lt k h).1
        omega) v
  refine goQ [lO Tryd.underlying9 (b := ⟨(ks.map mkS).toArray⟩) (n := ks.length) (by rw [hsz]), bO .eql 3 (run_eqlZ (x := ks.length) (y := ks.length) (b := true) (by simp)), kC Tryd.func24 ask_t] (EO.rs _ _ _ _ _ _) I2 fun β3 a w3 I hb3 => ?_
  exact outQ (v := v) I ⟨v, rfl, I.hJ⟩
theorem SAf_own {w : World} {b : Nat} {v : Value} {ks : List Int} (h : w.ownsRow b 71 3 v ks.length (ks.flatMap sc)) : SAf w v ks := by
  obtain ⟨ad, cap, rfl⟩ := owns_slice h
  refine ⟨ad, cap, rfl, fun i k hk => ?_⟩
  have hi : i < ks.length := (List.getElem?_eq_some_iff.1 hk).1
  rcases h.2 with ⟨hv, hn⟩ | ⟨g, cap', cur, hv, hb, hg, hnc, hcm, hcs, ht⟩
  · omega
  · cases hv
    refine ⟨g, 0, rfl, fun j c hc => ?_⟩
    have hx : (ks.flatMap sc)[i * 3 + j]? = some c := by
      have key : ∀ (l : List Int) (i : Nat), l[i]? = some k → (l.flatMap sc)[i * 3 + j]? = some c := by
        intro l
        induction l with
        | nil => intro i h; simp at h
        | cons x l ih =>
          intro i h
          cases i with
          | zero =>
            simp only [List.getElem?_cons_zero, Option.some.injEq] at h
            subst h
            rw [List.flatMap_cons, Nat.zero_mul, Nat.zero_add, List.getElem?_append_left (by have := (List.getElem?_eq_some_iff.1 hc).1; simpa using this)]
            exact hc
          | succ i =>
            rw [List.flatMap_cons, List.getElem?_append_right (by simp; omega)]
            have e : (i + 1) * 3 + j - (sc x).length = i * 3 + j := by simp; omega
            rw [e]
            exact ih i (by simpa using h)
      exact key ks i hk
    have := h.cells (g := g) rfl _ _ hx
    rw [add_off, ← Nat.add_assoc] at this
    exact this
/-- How the words of a flat form lie in a text: where each tail begins, and what is read. -/
structure RdF (S : List UInt8) (ks : List Int) (f : Nat → Nat) (ts : List (Int × Nat × List UInt8)) : Prop where
  hk : ∀ k ∈ ks, k = 0 ∨ k = 1
  hl : ks.length < 1000000000
  hS : S.length < 10000000000
  f0 : f 0 = ks.length * 32
  fl : ∀ i, i ≤ ks.length → f i ≤ S.length
  tl : ts.length = ks.length
  st : ∀ (i : Nat) (k : Int) (t : Int × Nat × List UInt8), ks[i]? = some k → ts[i]? = some t → StepR S 0 (f i) k ((((S.drop 0).take (ks.length * 32)).drop (i * 32)).take 32) t (f (i + 1))
theorem dec1 {S : List UInt8} {ks : List Int} {f : Nat → Nat} {ts : List (Int × Nat × List UInt8)} (hR : RdF S ks f ts) {ps pf po : Nat} {w : World} (h1 : HasRow w ps #[str S]) (h2 : HasRow w pf #[str (ks.map mkS)]) (h3 : HasRow w po #[.slice none 0 0]) (n1 : ps ≠ po) (n2 : pf ≠ po) :
    Calls Tryd.prog 21 #[ptr0 ps, ptr0 pf, ptr0 po] w fun e w' => Grow (fun k => k ≠ po) w w' ∧ ((f ks.length = S.length ∧ e = .returned T0 ∧ ∃ v, HasRow w' po #[v] ∧ w'.ownsRow w.heap.size 41 7 v ts.length (ts.flatMap tc)) ∨ (f ks.length ≠ S.length ∧ e = .panicked PErr ∧ HasRow w' po #[.slice none 0 0])) := by
  have l1 := h1.lt
  have l2 := h2.lt
  have l3 := h3.lt
  have hsz := str_size S
  have hld1 : ∀ w', Grow (fun k => k ≠ po) w w' → (loadVar 9 ⟨ps, 0, none⟩).run Tryd.prog w' = .ok (str S) w' := fun w' hg => by
    obtain ⟨t, ht⟩ := h1
    exact run_lv (c := #[str S]) ⟨t, (hg.block ps l1 n1).trans ht⟩ (by kernel_rfl)
  have hld2 : ∀ w', Grow (fun k => k ≠ po) w w' → (loadVar 9 ⟨pf, 0, none⟩).run Tryd.prog w' = .ok (str (ks.map mkS)) w' := fun w' hg => by
    obtain ⟨t, ht⟩ := h2
    exact run_lv (c := #[str (ks.map mkS)]) ⟨t, (hg.block pf l2 n2).trans ht⟩ (by kernel_rfl)
  have key := inR (P := Tryd.prog) (J := RO w po 71 3 (.slice none 0 0) 0 []) (F := ROF w po (.slice none 0 0)) (β := fun _ => po) (w := w) (f := 21) (fn := Tryd.f21) [Sum.inl (ptr0 ps), Sum.inl (ptr0 pf), Sum.inr (0, 0)] (rows := [(0, #[.slice none 0 0])]) (nx := 1)
    (Rt := fun e w' => Grow (fun k => k ≠ po) w w' ∧ ((f ks.length = S.length ∧ e = .returned T0 ∧ ∃ v, HasRow w' po #[v] ∧ w'.ownsRow w.heap.size 41 7 v ts.length (ts.flatMap tc)) ∨ (f ks.length ≠ S.length ∧ e = .panicked PErr ∧ HasRow w' po #[.slice none 0 0]))) Tryd.func21 (RO.start _ _ _ _) (by intro p hp; simp only [List.mem_singleton] at hp; subst hp; exact h3) (by intro p hp; exact RO.not) (by intro p hp q hq hpq; simp only [List.mem_singleton] at hp hq; subst hp; subst hq; exact absurd rfl hpq)
  refine key fun a I => ?_
  refine goT (T := fun w' => Grow (fun k => k ≠ po) w w') [ldA 9 hld1, dO 47 [0] (bd_wr S), ldA 9 hld2] (RO.rs _ _ _ _ _ _ _) (fun _ h => h.gr) I fun β a w1 I hb => ?_
  have hb0 : β 0 = po := agr hb 0 rfl
  refine mcall (ss := [Sum.inl (str (ks.map mkS))]) Tryd.func23 I ?_
  refine (shapes_flat hR.hl hR.hk w1).mono fun e w2 he => ?_
  obtain ⟨v1, rfl, hE⟩ := he
  have I2 : SI (RO w po 71 3 v1 ks.length (ks.flatMap sc)) (ROF w po v1) [] β _ _ w2 := I.moved (Grow.of_below hE.bw) ⟨I.hJ.gr.trans (Grow.of_below hE.bw), owns_base hE.own I.hJ.gr.size⟩ (fun k hk h => by
      rcases h with h | h
      · exact .inl h
      · have := (hE.own.lt k h).1
        omega) v1
  refine goQ [] (RO.rs _ _ _ _ _ _ _) I2 fun β3 a w3 I hb3 => ?_
  have hb30 : β3 0 = po := agr hb3 0 hb0
  have hr3 := I.rowAt 1 (r := #[str S, Z (0 : Nat)])
  have hd3 := I.dis _ (rowOf_mem (show rowOf _ 1 = some #[str S, Z (0 : Nat)] by kernel_rfl))
  have hne3 : β3 1 ≠ po := by
    rw [← hb30]
    exact I.inj _ (rowOf_mem (show rowOf _ 1 = some #[str S, Z (0 : Nat)] by kernel_rfl)) _ (rowOf_mem (show rowOf _ 0 = some #[.slice none 0 0] by kernel_rfl)) Nat.one_ne_zero
  have hge3 : w.heap.size ≤ β3 1 := Nat.le_of_not_lt fun h => hd3 (.inl ⟨h, hne3⟩)
  refine mcall (ss := [Sum.inr (1, 0), Sum.inl v1]) Tryd.func22 I ?_
  refine (rrow_flat (p0 := 0) f ts hr3 hR.hS (SAf_own I.hJ.own) (fun k hk e => hd3 (.inr (e ▸ hk))) (by rw [hR.f0, Nat.zero_add]) (fun i hi => ⟨hR.fl i hi, Nat.zero_le _⟩) hR.tl hR.st).mono fun e w4 he => ?_
  obtain ⟨v2, rfl, hr4, hg4, ho4⟩ := he
  obtain ⟨ad2, cap2, rfl⟩ := owns_slice ho4
  refine (at_row (id := 1) (r := #[str S, Z (f ks.length)])).1 ?_
  have I4 : SI (RO w po 41 7 (.slice ad2 ts.length cap2) ts.length (ts.flatMap tc)) (ROF w po (.slice ad2 ts.length cap2)) [] β3 _ _ w4 := I.rowed (id := 1) (r0 := #[str S, Z (0 : Nat)]) (by kernel_rfl) ⟨hg4.os, hg4.tape, hg4.output, hg4.size, fun k hk hn => hg4.block k hk hn.2⟩ hr4 ⟨⟨hg4.os.trans I.hJ.gr.os, hg4.tape.trans I.hJ.gr.tape, hg4.output.trans I.hJ.gr.output, Nat.le_trans I.hJ.gr.size hg4.size, fun k hk hn => (hg4.block k (Nat.lt_of_lt_of_le hk I.hJ.gr.size) (by omega)).trans (I.hJ.gr.block k hk hn)⟩, owns_base ho4 I.hJ.gr.size⟩ (fun k hk h => by
      rcases h with h | h
      · exact .inl h
      · have := (ho4.lt k h).1
        omega) (.slice ad2 ts.length cap2)
  by_cases hfe : f ks.length = S.length
  · refine goT (T := fun w' => Grow (fun k => k ≠ po) w w') [ldA 9 hld1, lO Tryd.underlying9 (b := ⟨S.toArray⟩) (n := S.length) (by rw [hsz]), bO .eql 3 (run_eqlZ (x := f ks.length) (y := S.length) (b := true) (by simp [hfe])), kC Tryd.func24 ask_t] (RO.rs _ _ _ _ _ _ _) (fun _ h => h.gr) I4 fun β5 a w5 I hb5 => ?_
    have hb50 : β5 0 = po := agr hb5 0 hb30
    exact out0 I ⟨I.hJ.gr, .inl ⟨hfe, rfl, _, I.rowG 0 hb50 (r := #[.slice ad2 ts.length cap2]), I.hJ.own⟩⟩
  · refine goT (T := fun w' => Grow (fun k => k ≠ po) w w') [ldA 9 hld1, lO Tryd.underlying9 (b := ⟨S.toArray⟩) (n := S.length) (by rw [hsz]), bO .eql 3 (run_eqlZ (x := f ks.length) (y := S.length) (b := false) (by simp; omega))] (RO.rs _ _ _ _ _ _ _) (fun _ h => h.gr) I4 fun β5 a w5 I hb5 => ?_
    exact rthrow [Sum.inl (.bool false)] Tryd.func24 I (fun w' => Below w5.heap.size w5 w') (ask_f w5) fun w' hb => ⟨I.df, I.hJ.gr.trans (Grow.of_below hb), .inr ⟨hfe, rfl, (I.rowG 0 (agr hb5 0 hb30) (r := #[.slice none 0 0])).below hb⟩⟩
theorem SI.disG {J : World → Prop} {F : Nat → Prop} {ds : List Deferred} {β : Nat → Nat} {c : Cf} {a : Act} {w : World} (I : SI J F ds β c a w) (id : Nat) {r : Array Value} (h : rowOf c.rows id = some r := by kernel_rfl) : ¬ F (β id) := I.dis _ (rowOf_mem h)
theorem SI.neG {J : World → Prop} {F : Nat → Prop} {ds : List Deferred} {β : Nat → Nat} {c : Cf} {a : Act} {w : World} (I : SI J F ds β c a w) (i j : Nat) {r r' : Array Value} (hij : i ≠ j) (h : rowOf c.rows i = some r := by kernel_rfl) (h' : rowOf c.rows j = some r' := by kernel_rfl) : β i ≠ β j := I.inj _ (rowOf_mem h) _ (rowOf_mem h') hij
theorem Rsrc.both {J1 J2 : World → Prop} {F1 F2 : Nat → Prop} (a : Rsrc J1 F1) (b : Rsrc J2 F2) : Rsrc (fun w => J1 w ∧ J2 w) (fun k => F1 k ∨ F2 k) :=
  ⟨fun w w' h g => ⟨a.loc w w' h.1 (g.mono fun k hk => .inl hk), b.loc w w' h.2 (g.mono fun k hk => .inr hk)⟩, fun w k h hk => hk.elim (a.lt w k h.1) (b.lt w k h.2)⟩
/-- A row and what it owns. -/
theorem pair_rs (po b e sz : Nat) (v : Value) (n : Nat) (xs : List Value) : Rsrc (fun w => HasRow w po #[v] ∧ w.ownsRow b e sz v n xs) (fun k => k = po ∨ v.ownBlock = some k) := by
  refine ⟨fun w w' h g => ⟨?_, owns_grow h.2 g fun k hk => .inr hk⟩, fun w k h hk => ?_⟩
  · obtain ⟨t, ht⟩ := h.1
    exact ⟨t, (g.block po h.1.lt (.inl rfl)).trans ht⟩
  · rcases hk with rfl | hk
    · exact h.1.lt
    · exact (h.2.lt k hk).2
/-- Decode by a flat form. -/
theorem decode_flat {S : List UInt8} {ks : List Int} {f : Nat → Nat} {ts : List (Int × Nat × List UInt8)} (hR : RdF S ks f ts) (w : World) :
    Calls Tryd.prog 10 #[str (ks.map mkS), str S] w fun e w' => Below w.heap.size w w' ∧ ((f ks.length = S.length ∧ ∃ v, e = .returned (.tuple #[v, Z 0]) ∧ w'.ownsRow w.heap.size 41 7 v ts.length (ts.flatMap tc)) ∨ (f ks.length ≠ S.length ∧ ∃ v, e = .returned (.tuple #[v, Z 2]))) := by
  refine inQ (J := Below w.heap.size w) (F := (· < w.heap.size)) Tryd.func10 (Below.refl _ _) fun a I => ?_
  refine goQ [] (nonR w) I fun β a w1 I hb => ?_
  refine mfnQ (.func 21) [Sum.inr (1, 0), Sum.inr (0, 0), Sum.inr (2, 0)] I ?_
  refine goQ [] (nonR w) (I.same _) fun β2 a w2 I hb2 => ?_
  have e0 : β2 0 = β 0 := agr hb2 0 rfl
  have e1 : β2 1 = β 1 := agr hb2 1 rfl
  have e2 : β2 2 = β 2 := agr hb2 2 rfl
  have r0 := I.rowG 0 e0 (r := #[str (ks.map mkS)])
  have r1 := I.rowG 1 e1 (r := #[str S])
  have r2 := I.rowG 2 e2 (r := #[.slice none 0 0])
  have n12 : β 1 ≠ β 2 := e1 ▸ e2 ▸ I.neG 1 2 (r := #[str S]) (r' := #[.slice none 0 0]) (by decide)
  have n02 : β 0 ≠ β 2 := e0 ▸ e2 ▸ I.neG 0 2 (r := #[str (ks.map mkS)]) (r' := #[.slice none 0 0]) (by decide)
  have d2 : ¬ (β 2 < w.heap.size) := e2 ▸ I.disG 2 (r := #[.slice none 0 0])
  have kp : ∀ {w3 : World} {g : Nat} {r : Array Value}, Below w2.heap.size w2 w3 → HasRow w2 g r → HasRow w3 g r := fun hb hr => hr.below hb
  refine mcall (ss := [Sum.inl (.func (.func 21) #[] #[ptr0 (β 1), ptr0 (β 0), ptr0 (β 2)])]) Tryd.func20 I ?_
  have bwOf : ∀ {w3 : World}, Grow (fun k => ¬ k = β 2) w2 w3 → Below w.heap.size w w3 := fun hg => ⟨hg.os.trans I.hJ.os, hg.tape.trans I.hJ.tape, hg.output.trans I.hJ.output, Nat.le_trans I.hJ.size hg.size, fun k hk => (hg.block k (Nat.lt_of_lt_of_le hk I.hJ.size) (by omega)).trans (I.hJ.block k hk)⟩
  by_cases hfe : f ks.length = S.length
  · refine (caught_ret (ι := Value) Tryd.func21 (by kernel_rfl) (by kernel_rfl) #[ptr0 (β 1), ptr0 (β 0), ptr0 (β 2)] w2 (· = β 2) (fun k hk => hk ▸ r2.lt) (fun v w' => HasRow w' (β 2) #[v] ∧ w'.ownsRow w2.heap.size 41 7 v ts.length (ts.flatMap tc)) (fun v k => k = β 2 ∨ v.ownBlock = some k) (fun v => pair_rs _ _ _ _ _ _ _) fun w3 hb3 => ?_).mono fun e w4 he => ?_
    · refine (dec1 hR (kp hb3 r1) (kp hb3 r0) (kp hb3 r2) n12 n02).mono fun e w5 he => ?_
      obtain ⟨hg, ⟨_, rfl, v, hv, ho⟩ | ⟨hn, _⟩⟩ := he
      · refine ⟨rfl, hg, v, ⟨hv, owns_base ho hb3.size⟩, fun k hk => ?_⟩
        rcases hk with rfl | hk
        · exact .inl r2.lt
        · exact .inr (ho.lt k hk).1
      · exact absurd hfe hn
    · obtain ⟨rfl, hg4, v, ⟨hv, ho⟩, _⟩ := he
      refine (at_row (id := 2) (r := #[v])).1 ?_
      have I4 : SI (EO w 41 7 v ts.length (ts.flatMap tc)) (EF w v) [] β2 _ _ w4 := I.rowed (id := 2) (r0 := #[.slice none 0 0]) (by kernel_rfl) ⟨hg4.os, hg4.tape, hg4.output, hg4.size, fun k hk hn => hg4.block k hk (e2 ▸ hn.2)⟩ (e2.symm ▸ hv) ⟨bwOf hg4, owns_base ho I.hJ.size⟩ (fun k hk h => by
          rcases h with h | h
          · exact h
          · have := (ho.lt k h).1
            omega) (Z 0)
      refine goQ [] (EO.rs _ _ _ _ _ _) I4 fun β5 a w5 I hb5 => ?_
      exact outQ (v := .tuple #[v, Z 0]) I ⟨I.hJ.bw, .inl ⟨hfe, v, rfl, I.hJ.own⟩⟩
  · refine (caught_thr Tryd.func21 (by kernel_rfl) (by kernel_rfl) #[ptr0 (β 1), ptr0 (β 0), ptr0 (β 2)] w2 (· = β 2) (fun k hk => hk ▸ r2.lt) (fun w' => HasRow w' (β 2) #[.slice none 0 0] ∧ w'.ownsRow w2.heap.size 41 7 (.slice none 0 0) 0 []) (fun k => k = β 2 ∨ (Value.slice none 0 0).ownBlock = some k) (pair_rs _ _ _ _ _ _ _) (fun k hk => by
        rcases hk with rfl | hk
        · exact r2.lt
        · cases hk) fun w3 hb3 => ?_).mono fun e w4 he => ?_
    · refine (dec1 hR (kp hb3 r1) (kp hb3 r0) (kp hb3 r2) n12 n02).mono fun e w5 he => ?_
      obtain ⟨hg, ⟨hn, _⟩ | ⟨_, rfl, hv⟩⟩ := he
      · exact absurd hn hfe
      · exact ⟨rfl, hg, hv, World.ownsRow_nil _ _ _ _⟩
    · obtain ⟨rfl, hg4, hv, _⟩ := he
      refine (at_row (id := 2) (r := #[.slice none 0 0])).1 ?_
      have I4 : SI (Below w.heap.size w) (· < w.heap.size) [] β2 _ _ w4 := I.rowed (id := 2) (r0 := #[.slice none 0 0]) (by kernel_rfl) ⟨hg4.os, hg4.tape, hg4.output, hg4.size, fun k hk hn => hg4.block k hk (e2 ▸ hn.2)⟩ (e2.symm ▸ hv) (bwOf hg4) (fun _ _ h => h) (Z 2)
      refine goQ [] (nonR w) I4 fun β5 a w5 I hb5 => ?_
      exact outQ (v := .tuple #[.slice none 0 0, Z 2]) I ⟨I.hJ, .inr ⟨hfe, _, rfl⟩⟩
end Go.Proofs.YtjjiendgmnlokaaDoor
