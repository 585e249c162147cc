/- Out of Zd. -/
import Derived.Test.YtomdiafkoeefpaaGreatDoorKvYa
import Derived.Test.YtomdiafkoeefpaaGreatDoorKvTx
import Derived.Test.YtomdiafkoeefpaaGreatDoorKvTy
namespace Go.Proofs.YtomdiafkoeefpaaGreatDoor
open Go.RowKit Go.Sort
set_option linter.unusedVariables false
set_option maxRecDepth 100000
theorem neqQ_run {x : Bool} (o1 o2 : Operand) (w : World) : (do eqGuard .neq 4 o1 o2 (.bool x) (.bool x); binOp .neq 4 (.bool x) (.bool x) : Sem Value).run Tryz.prog w = .ok (.bool false) w := by
  cases x <;> simp [go_sem]
theorem wrF_eq {f g : Fi} (hf : fitF f = true) (hg : fitF g = true) (nf : f.2.1 < M) (ng : g.2.1 < M) : decide ((⟨(wrF f).toArray⟩ : ByteArray) = ⟨(wrF g).toArray⟩) = eqF f g := by
  cases h : eqF f g with
  | true => rw [eqF_iff.1 h]; exact decide_eq_true rfl
  | false =>
    refine decide_eq_false fun e => ?_
    have e2 : wrF f = wrF g := by
      simp only [ByteArray.mk.injEq] at e
      exact List.toArray_inj e
    have h1 := rdF_back hf nf
    rw [e2, rdF_back hg ng] at h1
    cases h1
    rw [eqF_iff.2 rfl] at h; cases h
theorem wrV_eq {v u : Va} (hv : fitV v = true) (hu : fitV u = true) (nv : v.1 < M) (nu : u.1 < M) (av : amtX v.2.2.2) (au : amtX u.2.2.2) : decide ((⟨(wrV v).toArray⟩ : ByteArray) = ⟨(wrV u).toArray⟩) = eqV v u := by
  cases h : eqV v u with
  | true => rw [eqV_iff.1 h]; exact decide_eq_true rfl
  | false =>
    refine decide_eq_false fun e => ?_
    have e2 : wrV v = wrV u := by
      simp only [ByteArray.mk.injEq] at e
      exact List.toArray_inj e
    have h1 := rdV_back hv nv av
    rw [e2, rdV_back hu nu au] at h1
    cases h1
    rw [eqV_iff.2 rfl] at h; cases h
theorem qfitVar_any {w : World} {ev : Value} {v : Va} (h : ExI w ev v.2.2.2) (hx : okX v.2.2.2) : Calls Tryz.prog 17 #[vaV v ev] w fun e w' => e = .returned (.bool (fitV v)) ∧ Below w.heap.size w w' := by
  obtain ⟨tu, fi, da, xs⟩ := v
  obtain ⟨ad, cap, rfl⟩ := h.slice
  refine inQ (J := Below w.heap.size w) (F := (· < w.heap.size)) Tryz.func17 (Below.refl _ _) fun a I => ?_
  have hfit : fitV (tu, fi, da, xs) = (decide (tu ≤ 1099511627776) && decide (da.size ≤ 256) && fitXs xs) := rfl
  rw [hfit]
  by_cases q1 : ¬ tu ≤ 1099511627776
  · refine goQ [bO .leq 23 (run_leqU (x := tu) (y := 1099511627776) (b := false) (decide_eq_false q1))] (nonR w) I fun β a w1 I hb => ?_
    exact outQ (v := .bool false) I ⟨by rw [decide_eq_false q1]; rfl, I.hJ⟩
  have q1 := Classical.not_not.1 q1
  by_cases q2 : ¬ da.size ≤ 256
  · refine goQ [bO .leq 23 (run_leqU (x := tu) (y := 1099511627776) (b := true) (decide_eq_true q1)), lO Tryz.underlying9 (b := da) (n := da.size) rfl, bO .leq 3 (run_leqZ (x := da.size) (y := 256) (b := false) (by simp; omega))] (nonR w) I fun β a w1 I hb => ?_
    exact outQ (v := .bool false) I ⟨by rw [decide_eq_false q2, Bool.and_false]; rfl, I.hJ⟩
  have q2 := Classical.not_not.1 q2
  have hF : ∀ w', Below w.heap.size w w' → Calls Tryz.prog 40 #[.slice ad xs.length cap] w' fun e w'' => e = .returned (.bool (fitXs xs)) ∧ Below w'.heap.size w' w'' := fun w' hb => rfitExits_any (h.below CE.loc hb) hx.2 hx.1
  refine goT (T := Below w.heap.size w) [bO .leq 23 (run_leqU (x := tu) (y := 1099511627776) (b := true) (decide_eq_true q1)), lO Tryz.underlying9 (b := da) (n := da.size) rfl, bO .leq 3 (run_leqZ (x := da.size) (y := 256) (b := true) (by simp; omega)), cA Tryz.func40 hF] (nonR w) (fun _ h => h) I fun β a w1 I hb => ?_
  exact outQ (v := .bool (fitXs xs)) I ⟨by rw [decide_eq_true q1, decide_eq_true q2]; rfl, I.hJ⟩
set_option maxHeartbeats 4000000 in
theorem back_walk10 {w : World} (ht : Tabs w ki) {f : Fi} {pf : Value} (hf : PaI w pf f.1) (nf : f.2.1 < M) {g : Fi} {pg : Value} (hg : PaI w pg g.1) (ng : g.2.1 < M) {v : Va} {ev : Value} (hv : ExI w ev v.2.2.2) (nv : v.1 < M) {z : Va} {ez : Value} (hz : ExI w ez z.2.2.2) (nz : z.1 < M) : Calls Tryz.prog 6 #[fxdV f pf, fxdV g pg, vaV v ev, vaV z ez] w fun e w' => e = .returned (.bool true) ∧ Below w.heap.size w w' := by
  have hAw : ∀ w', Below w.heap.size w w' → Calls Tryz.prog 11 #[] w' fun e w'' => e = .returned (.bool true) ∧ Below w'.heap.size w' w'' := fun w' hb => awake_any (ht.below hb)
  obtain ⟨adf, capf, hpf, _⟩ := id hf.2
  obtain ⟨adg, capg, hpg, _⟩ := id hg.2
  obtain ⟨adv, capv, hpv, _⟩ := id hv
  obtain ⟨adz, capz, hpz, _⟩ := id hz
  subst hpf hpg hpv hpz
  have amv := hv.amt
  have amz := hz.amt
  have hFf : ∀ w', Below w.heap.size w w' → Calls Tryz.prog 15 #[fxdV f (.slice adf f.1.length capf)] w' fun e w'' => e = .returned (.bool (fitF f)) ∧ Below w'.heap.size w' w'' := fun w' hb => rfitFixed_any (hf.below hb)
  have hWf : ∀ w', Below w.heap.size w w' → Calls Tryz.prog 22 #[fxdV f (.slice adf f.1.length capf)] w' fun e w'' => e = .returned (str (wrF f)) ∧ Below w'.heap.size w' w'' := fun w' hb => writeFixed_any (hf.below hb) nf
  have hEf : ∀ w', Below w.heap.size w w' → Calls Tryz.prog 9 #[fxdV f (.slice adf f.1.length capf)] w' _ := fun w' hb => few_fixed (hf.below hb).1
  have hFg : ∀ w', Below w.heap.size w w' → Calls Tryz.prog 15 #[fxdV g (.slice adg g.1.length capg)] w' fun e w'' => e = .returned (.bool (fitF g)) ∧ Below w'.heap.size w' w'' := fun w' hb => rfitFixed_any (hg.below hb)
  have hWg : ∀ w', Below w.heap.size w w' → Calls Tryz.prog 22 #[fxdV g (.slice adg g.1.length capg)] w' fun e w'' => e = .returned (str (wrF g)) ∧ Below w'.heap.size w' w'' := fun w' hb => writeFixed_any (hg.below hb) ng
  have hEg : ∀ w', Below w.heap.size w w' → Calls Tryz.prog 9 #[fxdV g (.slice adg g.1.length capg)] w' _ := fun w' hb => few_fixed (hg.below hb).1
  have hFv : okX v.2.2.2 → ∀ w', Below w.heap.size w w' → Calls Tryz.prog 17 #[vaV v (.slice adv v.2.2.2.length capv)] w' fun e w'' => e = .returned (.bool (fitV v)) ∧ Below w'.heap.size w' w'' := fun hok w' hb => qfitVar_any (hv.below CE.loc hb) hok
  have hWv : okX v.2.2.2 → ∀ w', Below w.heap.size w w' → Calls Tryz.prog 24 #[vaV v (.slice adv v.2.2.2.length capv)] w' fun e w'' => e = .returned (str (wrV v)) ∧ Below w'.heap.size w' w'' := fun hok w' hb => write_any (hv.below CE.loc hb) hok nv
  have hEv : ∀ w', Below w.heap.size w w' → Calls Tryz.prog 10 #[vaV v (.slice adv v.2.2.2.length capv)] w' _ := fun w' hb => few_state (hv.below CE.loc hb)
  have hFz : okX z.2.2.2 → ∀ w', Below w.heap.size w w' → Calls Tryz.prog 17 #[vaV z (.slice adz z.2.2.2.length capz)] w' fun e w'' => e = .returned (.bool (fitV z)) ∧ Below w'.heap.size w' w'' := fun hok w' hb => qfitVar_any (hz.below CE.loc hb) hok
  have hWz : okX z.2.2.2 → ∀ w', Below w.heap.size w w' → Calls Tryz.prog 24 #[vaV z (.slice adz z.2.2.2.length capz)] w' fun e w'' => e = .returned (str (wrV z)) ∧ Below w'.heap.size w' w'' := fun hok w' hb => write_any (hz.below CE.loc hb) hok nz
  have hEz : ∀ w', Below w.heap.size w w' → Calls Tryz.prog 10 #[vaV z (.slice adz z.2.2.2.length capz)] w' _ := fun w' hb => few_state (hz.below CE.loc hb)
  have hSf : f.1.length < 20 → ∀ w', Below w.heap.size w w' → Calls Tryz.prog 34 #[fxdV f (.slice adf f.1.length capf), fxdV g (.slice adg g.1.length capg)] w' fun e w'' => e = .returned (.bool (eqF f g)) ∧ Below w'.heap.size w' w'' := fun hl w' hb => rsame_fixed (hf.below hb).1 (hg.below hb).1 (by omega)
  have hSv : okX v.2.2.2 → ∀ w', Below w.heap.size w w' → Calls Tryz.prog 21 #[vaV v (.slice adv v.2.2.2.length capv), vaV z (.slice adz z.2.2.2.length capz)] w' fun e w'' => e = .returned (.bool (eqV v z)) ∧ Below w'.heap.size w' w'' := fun hok w' hb => rsame_state (hv.below CE.loc hb) (hz.below CE.loc hb) hok
  have eqf : fitF f = true → fitF g = true → _ := fun h1 h2 => wrF_eq h1 h2 nf ng
  have eqv : fitV v = true → fitV z = true → _ := fun h1 h2 => wrV_eq h1 h2 nv nz amv amz
  have rdf : fitF f = true → rdF (wrF f) = some f := fun h => rdF_back h nf
  have rdv : fitV v = true → rdV (wrV v) = some v := fun h => rdV_back h nv amv
  have lf := wrF_w f
  have lv := wrV_w v
  obtain ⟨bf, hbf⟩ : ∃ b, fitF f = b := ⟨_, rfl⟩
  obtain ⟨bg, hbg⟩ : ∃ b, fitF g = b := ⟨_, rfl⟩
  obtain ⟨bv, hbv⟩ : ∃ b, fitV v = b := ⟨_, rfl⟩
  obtain ⟨bz, hbz⟩ : ∃ b, fitV z = b := ⟨_, rfl⟩
  rw [hbf] at hFf rdf eqf
  rw [hbg] at hFg eqf
  rw [hbv] at hFv rdv eqv
  rw [hbz] at hFz eqv
  clear hbf hbg hbv hbz
  generalize wrF f = Sf at hWf eqf rdf lf
  generalize wrF g = Sg at hWg eqf
  generalize wrV v = Sv at hWv eqv rdv lv
  generalize wrV z = Sz at hWz eqv
  generalize eqF f g = ef at hSf eqf
  generalize eqV v z = ez at hSv eqv
  obtain ⟨p1, n1, a1, t1⟩ := f
  obtain ⟨p2, n2, a2, t2⟩ := g
  obtain ⟨u1, b1, d1, x1⟩ := v
  obtain ⟨u2, b2, d2, x2⟩ := z
  simp only [] at hf hg hv hz
  refine inQ (J := Below w.heap.size w) (F := (· < w.heap.size)) Tryz.func6 (Below.refl _ _) fun a I => ?_
  refine goQ [] (nonR w) I fun β a w1 I hb => ?_
  refine bcall [Sum.inl (.agg #[.slice adf p1.length capf, B n1, .string a1, Z t1])] Tryz.func9 (nonR w) I _ (hEf w1 I.hJ) fun v' w2 hv' I => ?_
  rcases hv' with rfl | ⟨rfl, few1⟩
  · refine goT (T := Below w.heap.size w) [uO .not (p := .bool false) (v := .bool true) (by intros; rfl), cA Tryz.func11 hAw] (nonR w) (fun _ h => h) I fun β6 a6 w6 I hb6 => ?_
    exact outQ (v := .bool true) I ⟨rfl, I.hJ⟩
  refine goQ [uO .not (p := .bool true) (v := .bool false) (by intros; rfl)] (nonR w) I fun β a w1 I hb => ?_
  refine bcall [Sum.inl (.agg #[.slice adg p2.length capg, B n2, .string a2, Z t2])] Tryz.func9 (nonR w) I _ (hEg w1 I.hJ) fun v' w2 hv' I => ?_
  rcases hv' with rfl | ⟨rfl, few2⟩
  · refine goT (T := Below w.heap.size w) [uO .not (p := .bool false) (v := .bool true) (by intros; rfl), cA Tryz.func11 hAw] (nonR w) (fun _ h => h) I fun β6 a6 w6 I hb6 => ?_
    exact outQ (v := .bool true) I ⟨rfl, I.hJ⟩
  refine goQ [uO .not (p := .bool true) (v := .bool false) (by intros; rfl)] (nonR w) I fun β a w1 I hb => ?_
  refine bcall [Sum.inl (.agg #[B u1, .bool b1, .string d1, .slice adv x1.length capv])] Tryz.func10 (nonR w) I _ (hEv w1 I.hJ) fun v' w2 hv' I => ?_
  rcases hv' with rfl | ⟨rfl, few3⟩
  · refine goT (T := Below w.heap.size w) [uO .not (p := .bool false) (v := .bool true) (by intros; rfl), cA Tryz.func11 hAw] (nonR w) (fun _ h => h) I fun β6 a6 w6 I hb6 => ?_
    exact outQ (v := .bool true) I ⟨rfl, I.hJ⟩
  refine goQ [uO .not (p := .bool true) (v := .bool false) (by intros; rfl)] (nonR w) I fun β a w1 I hb => ?_
  refine bcall [Sum.inl (.agg #[B u2, .bool b2, .string d2, .slice adz x2.length capz])] Tryz.func10 (nonR w) I _ (hEz w1 I.hJ) fun v' w2 hv' I => ?_
  rcases hv' with rfl | ⟨rfl, few4⟩
  · refine goT (T := Below w.heap.size w) [uO .not (p := .bool false) (v := .bool true) (by intros; rfl), cA Tryz.func11 hAw] (nonR w) (fun _ h => h) I fun β6 a6 w6 I hb6 => ?_
    exact outQ (v := .bool true) I ⟨rfl, I.hJ⟩
  have okv : okX x1 := ⟨by have := few3.1; simp only [] at this; omega, fun x hx => by have := few3.2 x hx; omega⟩
  have okz : okX x2 := ⟨by have := few4.1; simp only [] at this; omega, fun x hx => by have := few4.2 x hx; omega⟩
  have hFv := hFv okv
  have hWv := hWv okv
  have hFz := hFz okz
  have hWz := hWz okz
  have hSf := hSf few1
  have hSv := hSv okv
  cases bf
  · refine goT (T := Below w.heap.size w) [uO .not (p := .bool true) (v := .bool false) (by intros; rfl), cA Tryz.func15 hFf] (nonR w) (fun _ h => h) I fun β7 a7 w7 I hb7 => ?_
    cases bv
    · refine goT (T := Below w.heap.size w) [cA Tryz.func17 hFv, cA Tryz.func11 hAw] (nonR w) (fun _ h => h) I fun β6 a6 w6 I hb6 => ?_
      exact outQ (v := .bool true) I ⟨rfl, I.hJ⟩
    refine goT (T := Below w.heap.size w) [cA Tryz.func17 hFv, cA Tryz.func24 hWv] (nonR w) (fun _ h => h) I fun β11 a11 w11 I hb11 => ?_
    refine mcall (ss := [Sum.inl (str Sv)]) Tryz.func32 I ?_
    refine (read_state Sv (by omega) w11).mono fun e w12 he => ?_
    obtain ⟨hb12, he⟩ := he
    rcases he with ⟨y, adr, capr, K, q1, rfl, hK, hSl2⟩ | ⟨q1, _⟩
    case inr => rw [rdv rfl] at q1; cases q1
    rw [rdv rfl] at q1
    cases q1
    have I12 : SI (fun w' => Below w.heap.size w w' ∧ SK 2 CE K w11.heap.size (.slice adr x1.length capr) x1 w') (fun k => k < w.heap.size ∨ K k) [] β11 _ _ w12 := I.moved (Grow.of_below hb12) ⟨(nonR w).loc w11 w12 I.hJ (Grow.of_below hb12), hK, hSl2⟩ (fun k hk h => by
      rcases h with h | h
      · exact h
      · have := (hK k h).1; omega) (.tuple #[(.agg #[B u1, .bool b1, .string d1, .slice adr x1.length capr]), Z 0])
    have R12 := (nonR w).both (SK.rs CE.loc 2 K w11.heap.size (.slice adr x1.length capr) x1)
    have hSx : ∀ w', Below w.heap.size w w' ∧ SK 2 CE K w11.heap.size (.slice adr x1.length capr) x1 w' → Calls Tryz.prog 21 #[(.agg #[B u1, .bool b1, .string d1, .slice adr x1.length capr]), (.agg #[B u1, .bool b1, .string d1, .slice adv x1.length capv])] w' fun e w'' => e = .returned (.bool true) ∧ Below w'.heap.size w' w'' := fun w' h => by
      have := rsame_state (v := (u1, b1, d1, x1)) (u := (u1, b1, d1, x1)) (h.2.sl.keep CE.loc fun k hk => ⟨(h.2.kb k hk).2, rfl⟩) (hv.below CE.loc h.1) okv
      rwa [eqV_iff.2 rfl] at this
    refine goT (T := (fun w' => Below w.heap.size w w' ∧ SK 2 CE K w11.heap.size (.slice adr x1.length capr) x1 w')) [] R12 (fun _ h => h) I12 fun β13 a13 w13 I hb13 => ?_
    have hFz' : ∀ w', Below w.heap.size w w' ∧ SK 2 CE K w11.heap.size (.slice adr x1.length capr) x1 w' → Calls Tryz.prog 17 #[(.agg #[B u2, .bool b2, .string d2, .slice adz x2.length capz])] w' fun e w'' => e = .returned (.bool bz) ∧ Below w'.heap.size w' w'' := fun w' h => hFz w' h.1
    cases bz
    · refine dwT (T := (fun w' => Below w.heap.size w w' ∧ SK 2 CE K w11.heap.size (.slice adr x1.length capr) x1 w')) 23 [bO .neq 46 (neqErr 0 0 (q := false) rfl), cA Tryz.func21 hSx, uO .not (p := .bool true) (v := .bool false) (by intros; rfl), cA Tryz.func17 hFz'] R12 (fun _ h => h) PanOk.post I fun a14 w14 I => ?_
      have I := I.less (J' := Below w.heap.size w) (F' := (· < w.heap.size)) I.hJ.1 fun k h => .inl h
      refine goT (T := Below w.heap.size w) [cA Tryz.func11 hAw] (nonR w) (fun _ h => h) I fun β15 a15 w15 I hb15 => ?_
      exact outQ (v := .bool true) I ⟨rfl, I.hJ⟩
    · refine dwT (T := (fun w' => Below w.heap.size w w' ∧ SK 2 CE K w11.heap.size (.slice adr x1.length capr) x1 w')) 23 [bO .neq 46 (neqErr 0 0 (q := false) rfl), cA Tryz.func21 hSx, uO .not (p := .bool true) (v := .bool false) (by intros; rfl), cA Tryz.func17 hFz', cA Tryz.func24 (fun w' h => hWv w' h.1), cA Tryz.func24 (fun w' h => hWz w' h.1), bO .eql 9 (eqT_run (a := ⟨Sv.toArray⟩) (b := ⟨Sz.toArray⟩) (q := ez) (eqv rfl rfl)), cA Tryz.func21 (fun w' h => hSv w' h.1), bO .neq 4 (neqQ_run (x := ez))] R12 (fun _ h => h) PanOk.post I fun a14 w14 I => ?_
      have I := I.less (J' := Below w.heap.size w) (F' := (· < w.heap.size)) I.hJ.1 fun k h => .inl h
      refine goT (T := Below w.heap.size w) [cA Tryz.func11 hAw] (nonR w) (fun _ h => h) I fun β15 a15 w15 I hb15 => ?_
      exact outQ (v := .bool true) I ⟨rfl, I.hJ⟩
  refine goT (T := Below w.heap.size w) [uO .not (p := .bool true) (v := .bool false) (by intros; rfl), cA Tryz.func15 hFf, cA Tryz.func22 hWf] (nonR w) (fun _ h => h) I fun β11 a11 w11 I hb11 => ?_
  refine mcall (ss := [Sum.inl (str Sf)]) Tryz.func30 I ?_
  refine (read_fixed Sf (by omega) w11).mono fun e w12 he => ?_
  obtain ⟨hb12, he⟩ := he
  rcases he with ⟨y, adr, capr, K, q1, rfl, hcr, hK, hSl2⟩ | ⟨q1, _⟩
  case inr => rw [rdf rfl] at q1; cases q1
  rw [rdf rfl] at q1
  cases q1
  have I12 : SI (fun w' => Below w.heap.size w w' ∧ SK 1 CS K w11.heap.size (.slice adr p1.length capr) p1 w') (fun k => k < w.heap.size ∨ K k) [] β11 _ _ w12 := I.moved (Grow.of_below hb12) ⟨(nonR w).loc w11 w12 I.hJ (Grow.of_below hb12), hK, hSl2⟩ (fun k hk h => by
    rcases h with h | h
    · exact h
    · have := (hK k h).1; omega) (.tuple #[(.agg #[.slice adr p1.length capr, B n1, .string a1, Z t1]), Z 0])
  have R12 := (nonR w).both (SK.rs CS.loc 1 K w11.heap.size (.slice adr p1.length capr) p1)
  have hSx : ∀ w', Below w.heap.size w w' ∧ SK 1 CS K w11.heap.size (.slice adr p1.length capr) p1 w' → Calls Tryz.prog 34 #[(.agg #[.slice adr p1.length capr, B n1, .string a1, Z t1]), (.agg #[.slice adf p1.length capf, B n1, .string a1, Z t1])] w' fun e w'' => e = .returned (.bool true) ∧ Below w'.heap.size w' w'' := fun w' h => by
    have := rsame_fixed (f := (p1, n1, a1, t1)) (g := (p1, n1, a1, t1)) (h.2.sl.keep CS.loc fun k hk => ⟨(h.2.kb k hk).2, rfl⟩) (hf.below h.1).1 (Nat.lt_trans few1 (by decide))
    rwa [eqF_iff.2 rfl] at this
  refine goT (T := (fun w' => Below w.heap.size w w' ∧ SK 1 CS K w11.heap.size (.slice adr p1.length capr) p1 w')) [] R12 (fun _ h => h) I12 fun β13 a13 w13 I hb13 => ?_
  have hFg' : ∀ w', Below w.heap.size w w' ∧ SK 1 CS K w11.heap.size (.slice adr p1.length capr) p1 w' → Calls Tryz.prog 15 #[(.agg #[.slice adg p2.length capg, B n2, .string a2, Z t2])] w' fun e w'' => e = .returned (.bool bg) ∧ Below w'.heap.size w' w'' := fun w' h => hFg w' h.1
  cases bg
  · refine dwT (T := (fun w' => Below w.heap.size w w' ∧ SK 1 CS K w11.heap.size (.slice adr p1.length capr) p1 w')) 23 [bO .neq 46 (neqErr 0 0 (q := false) rfl), cA Tryz.func34 hSx, uO .not (p := .bool true) (v := .bool false) (by intros; rfl), cA Tryz.func15 hFg'] R12 (fun _ h => h) PanOk.post I fun a14 w14 I => ?_
    have I := I.less (J' := Below w.heap.size w) (F' := (· < w.heap.size)) I.hJ.1 fun k h => .inl h
    refine goQ [] (nonR w) I fun β7 a7 w7 I hb7 => ?_
    cases bv
    · refine goT (T := Below w.heap.size w) [cA Tryz.func17 hFv, cA Tryz.func11 hAw] (nonR w) (fun _ h => h) I fun β6 a6 w6 I hb6 => ?_
      exact outQ (v := .bool true) I ⟨rfl, I.hJ⟩
    refine goT (T := Below w.heap.size w) [cA Tryz.func17 hFv, cA Tryz.func24 hWv] (nonR w) (fun _ h => h) I fun β11 a11 w11 I hb11 => ?_
    refine mcall (ss := [Sum.inl (str Sv)]) Tryz.func32 I ?_
    refine (read_state Sv (by omega) w11).mono fun e w12 he => ?_
    obtain ⟨hb12, he⟩ := he
    rcases he with ⟨y, adr, capr, K, q1, rfl, hK, hSl2⟩ | ⟨q1, _⟩
    case inr => rw [rdv rfl] at q1; cases q1
    rw [rdv rfl] at q1
    cases q1
    have I12 : SI (fun w' => Below w.heap.size w w' ∧ SK 2 CE K w11.heap.size (.slice adr x1.length capr) x1 w') (fun k => k < w.heap.size ∨ K k) [] β11 _ _ w12 := I.moved (Grow.of_below hb12) ⟨(nonR w).loc w11 w12 I.hJ (Grow.of_below hb12), hK, hSl2⟩ (fun k hk h => by
      rcases h with h | h
      · exact h
      · have := (hK k h).1; omega) (.tuple #[(.agg #[B u1, .bool b1, .string d1, .slice adr x1.length capr]), Z 0])
    have R12 := (nonR w).both (SK.rs CE.loc 2 K w11.heap.size (.slice adr x1.length capr) x1)
    have hSx : ∀ w', Below w.heap.size w w' ∧ SK 2 CE K w11.heap.size (.slice adr x1.length capr) x1 w' → Calls Tryz.prog 21 #[(.agg #[B u1, .bool b1, .string d1, .slice adr x1.length capr]), (.agg #[B u1, .bool b1, .string d1, .slice adv x1.length capv])] w' fun e w'' => e = .returned (.bool true) ∧ Below w'.heap.size w' w'' := fun w' h => by
      have := rsame_state (v := (u1, b1, d1, x1)) (u := (u1, b1, d1, x1)) (h.2.sl.keep CE.loc fun k hk => ⟨(h.2.kb k hk).2, rfl⟩) (hv.below CE.loc h.1) okv
      rwa [eqV_iff.2 rfl] at this
    refine goT (T := (fun w' => Below w.heap.size w w' ∧ SK 2 CE K w11.heap.size (.slice adr x1.length capr) x1 w')) [] R12 (fun _ h => h) I12 fun β13 a13 w13 I hb13 => ?_
    have hFz' : ∀ w', Below w.heap.size w w' ∧ SK 2 CE K w11.heap.size (.slice adr x1.length capr) x1 w' → Calls Tryz.prog 17 #[(.agg #[B u2, .bool b2, .string d2, .slice adz x2.length capz])] w' fun e w'' => e = .returned (.bool bz) ∧ Below w'.heap.size w' w'' := fun w' h => hFz w' h.1
    cases bz
    · refine dwT (T := (fun w' => Below w.heap.size w w' ∧ SK 2 CE K w11.heap.size (.slice adr x1.length capr) x1 w')) 23 [bO .neq 46 (neqErr 0 0 (q := false) rfl), cA Tryz.func21 hSx, uO .not (p := .bool true) (v := .bool false) (by intros; rfl), cA Tryz.func17 hFz'] R12 (fun _ h => h) PanOk.post I fun a14 w14 I => ?_
      have I := I.less (J' := Below w.heap.size w) (F' := (· < w.heap.size)) I.hJ.1 fun k h => .inl h
      refine goT (T := Below w.heap.size w) [cA Tryz.func11 hAw] (nonR w) (fun _ h => h) I fun β15 a15 w15 I hb15 => ?_
      exact outQ (v := .bool true) I ⟨rfl, I.hJ⟩
    · refine dwT (T := (fun w' => Below w.heap.size w w' ∧ SK 2 CE K w11.heap.size (.slice adr x1.length capr) x1 w')) 23 [bO .neq 46 (neqErr 0 0 (q := false) rfl), cA Tryz.func21 hSx, uO .not (p := .bool true) (v := .bool false) (by intros; rfl), cA Tryz.func17 hFz', cA Tryz.func24 (fun w' h => hWv w' h.1), cA Tryz.func24 (fun w' h => hWz w' h.1), bO .eql 9 (eqT_run (a := ⟨Sv.toArray⟩) (b := ⟨Sz.toArray⟩) (q := ez) (eqv rfl rfl)), cA Tryz.func21 (fun w' h => hSv w' h.1), bO .neq 4 (neqQ_run (x := ez))] R12 (fun _ h => h) PanOk.post I fun a14 w14 I => ?_
      have I := I.less (J' := Below w.heap.size w) (F' := (· < w.heap.size)) I.hJ.1 fun k h => .inl h
      refine goT (T := Below w.heap.size w) [cA Tryz.func11 hAw] (nonR w) (fun _ h => h) I fun β15 a15 w15 I hb15 => ?_
      exact outQ (v := .bool true) I ⟨rfl, I.hJ⟩
  · refine dwT (T := (fun w' => Below w.heap.size w w' ∧ SK 1 CS K w11.heap.size (.slice adr p1.length capr) p1 w')) 23 [bO .neq 46 (neqErr 0 0 (q := false) rfl), cA Tryz.func34 hSx, uO .not (p := .bool true) (v := .bool false) (by intros; rfl), cA Tryz.func15 hFg', cA Tryz.func22 (fun w' h => hWf w' h.1), cA Tryz.func22 (fun w' h => hWg w' h.1), bO .eql 9 (eqT_run (a := ⟨Sf.toArray⟩) (b := ⟨Sg.toArray⟩) (q := ef) (eqf rfl rfl)), cA Tryz.func34 (fun w' h => hSf w' h.1), bO .neq 4 (neqQ_run (x := ef))] R12 (fun _ h => h) PanOk.post I fun a14 w14 I => ?_
    have I := I.less (J' := Below w.heap.size w) (F' := (· < w.heap.size)) I.hJ.1 fun k h => .inl h
    refine goQ [] (nonR w) I fun β7 a7 w7 I hb7 => ?_
    cases bv
    · refine goT (T := Below w.heap.size w) [cA Tryz.func17 hFv, cA Tryz.func11 hAw] (nonR w) (fun _ h => h) I fun β6 a6 w6 I hb6 => ?_
      exact outQ (v := .bool true) I ⟨rfl, I.hJ⟩
    refine goT (T := Below w.heap.size w) [cA Tryz.func17 hFv, cA Tryz.func24 hWv] (nonR w) (fun _ h => h) I fun β11 a11 w11 I hb11 => ?_
    refine mcall (ss := [Sum.inl (str Sv)]) Tryz.func32 I ?_
    refine (read_state Sv (by omega) w11).mono fun e w12 he => ?_
    obtain ⟨hb12, he⟩ := he
    rcases he with ⟨y, adr, capr, K, q1, rfl, hK, hSl2⟩ | ⟨q1, _⟩
    case inr => rw [rdv rfl] at q1; cases q1
    rw [rdv rfl] at q1
    cases q1
    have I12 : SI (fun w' => Below w.heap.size w w' ∧ SK 2 CE K w11.heap.size (.slice adr x1.length capr) x1 w') (fun k => k < w.heap.size ∨ K k) [] β11 _ _ w12 := I.moved (Grow.of_below hb12) ⟨(nonR w).loc w11 w12 I.hJ (Grow.of_below hb12), hK, hSl2⟩ (fun k hk h => by
      rcases h with h | h
      · exact h
      · have := (hK k h).1; omega) (.tuple #[(.agg #[B u1, .bool b1, .string d1, .slice adr x1.length capr]), Z 0])
    have R12 := (nonR w).both (SK.rs CE.loc 2 K w11.heap.size (.slice adr x1.length capr) x1)
    have hSx : ∀ w', Below w.heap.size w w' ∧ SK 2 CE K w11.heap.size (.slice adr x1.length capr) x1 w' → Calls Tryz.prog 21 #[(.agg #[B u1, .bool b1, .string d1, .slice adr x1.length capr]), (.agg #[B u1, .bool b1, .string d1, .slice adv x1.length capv])] w' fun e w'' => e = .returned (.bool true) ∧ Below w'.heap.size w' w'' := fun w' h => by
      have := rsame_state (v := (u1, b1, d1, x1)) (u := (u1, b1, d1, x1)) (h.2.sl.keep CE.loc fun k hk => ⟨(h.2.kb k hk).2, rfl⟩) (hv.below CE.loc h.1) okv
      rwa [eqV_iff.2 rfl] at this
    refine goT (T := (fun w' => Below w.heap.size w w' ∧ SK 2 CE K w11.heap.size (.slice adr x1.length capr) x1 w')) [] R12 (fun _ h => h) I12 fun β13 a13 w13 I hb13 => ?_
    have hFz' : ∀ w', Below w.heap.size w w' ∧ SK 2 CE K w11.heap.size (.slice adr x1.length capr) x1 w' → Calls Tryz.prog 17 #[(.agg #[B u2, .bool b2, .string d2, .slice adz x2.length capz])] w' fun e w'' => e = .returned (.bool bz) ∧ Below w'.heap.size w' w'' := fun w' h => hFz w' h.1
    cases bz
    · refine dwT (T := (fun w' => Below w.heap.size w w' ∧ SK 2 CE K w11.heap.size (.slice adr x1.length capr) x1 w')) 23 [bO .neq 46 (neqErr 0 0 (q := false) rfl), cA Tryz.func21 hSx, uO .not (p := .bool true) (v := .bool false) (by intros; rfl), cA Tryz.func17 hFz'] R12 (fun _ h => h) PanOk.post I fun a14 w14 I => ?_
      have I := I.less (J' := Below w.heap.size w) (F' := (· < w.heap.size)) I.hJ.1 fun k h => .inl h
      refine goT (T := Below w.heap.size w) [cA Tryz.func11 hAw] (nonR w) (fun _ h => h) I fun β15 a15 w15 I hb15 => ?_
      exact outQ (v := .bool true) I ⟨rfl, I.hJ⟩
    · refine dwT (T := (fun w' => Below w.heap.size w w' ∧ SK 2 CE K w11.heap.size (.slice adr x1.length capr) x1 w')) 23 [bO .neq 46 (neqErr 0 0 (q := false) rfl), cA Tryz.func21 hSx, uO .not (p := .bool true) (v := .bool false) (by intros; rfl), cA Tryz.func17 hFz', cA Tryz.func24 (fun w' h => hWv w' h.1), cA Tryz.func24 (fun w' h => hWz w' h.1), bO .eql 9 (eqT_run (a := ⟨Sv.toArray⟩) (b := ⟨Sz.toArray⟩) (q := ez) (eqv rfl rfl)), cA Tryz.func21 (fun w' h => hSv w' h.1), bO .neq 4 (neqQ_run (x := ez))] R12 (fun _ h => h) PanOk.post I fun a14 w14 I => ?_
      have I := I.less (J' := Below w.heap.size w) (F' := (· < w.heap.size)) I.hJ.1 fun k h => .inl h
      refine goT (T := Below w.heap.size w) [cA Tryz.func11 hAw] (nonR w) (fun _ h => h) I fun β15 a15 w15 I hb15 => ?_
      exact outQ (v := .bool true) I ⟨rfl, I.hJ⟩
end Go.Proofs.YtomdiafkoeefpaaGreatDoor
