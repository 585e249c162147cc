/- Out of Zh. -/
import Derived.Test.YtomdiafkoeefpaaGreatDoorKwYk
import Derived.Test.YtomdiafkoeefpaaGreatDoorKwTx
import Derived.Test.YtomdiafkoeefpaaGreatDoorKwTy
namespace Go.Proofs.YtomdiafkoeefpaaGreatDoor
open Go.RowKit Go.Sort
set_option linter.unusedVariables false
set_option maxRecDepth 100000
theorem writes_walk {w : World} (ht : Tabs w ki) {f : Fi} {pv : Value} (hp : PaI w pv f.1) (hn : f.2.1 < M) {v : Va} {ev : Value} (hx : ExI w ev v.2.2.2) (htu : v.1 < M) : Calls Tryz.prog 4 #[fxdV f pv, vaV v ev] w fun e w' => e = .returned (.bool true) ∧ Below w.heap.size w w' := by
  have hAw : ∀ w', Below w.heap.size w w' → Calls Tryz.prog 11 #[] w' fun e w'' => e = .returned (.bool true) ∧ Below w'.heap.size w' w'' := fun w' hb => awake_any (ht.below hb)
  obtain ⟨adp, capp, hpv, _⟩ := id hp.2
  obtain ⟨ad, cap, hev, hm⟩ := id hx
  subst hpv hev
  have h22 : ∀ w', Below w.heap.size w w' → Calls Tryz.prog 22 #[fxdV f (.slice adp f.1.length capp)] w' fun e w'' => e = .returned (str (wrF f)) ∧ Below w'.heap.size w' w'' := fun w' hb => writeFixed_any (hp.below hb) hn
  have h23 : ∀ w', Below w.heap.size w w' → Calls Tryz.prog 23 #[fxdV f (.slice adp f.1.length capp)] w' fun e w'' => e = .returned (str (wrF f)) ∧ Below w'.heap.size w' w'' := fun w' hb => rwriteFixed (hp.below hb) hn
  have h24 : okX v.2.2.2 → ∀ w', Below w.heap.size w w' → Calls Tryz.prog 24 #[vaV v (.slice ad v.2.2.2.length cap)] w' fun e w'' => e = .returned (str (wrV v)) ∧ Below w'.heap.size w' w'' := fun hok w' hb => write_any (hx.below CE.loc hb) hok htu
  have h25 : okX v.2.2.2 → ∀ w', Below w.heap.size w w' → Calls Tryz.prog 25 #[vaV v (.slice ad v.2.2.2.length cap)] w' fun e w'' => e = .returned (str (wrV v)) ∧ Below w'.heap.size w' w'' := fun hok w' hb => rwrite (hx.below CE.loc hb) hok htu
  have h26 : ∀ w', Below w.heap.size w w' → Calls Tryz.prog 26 #[fxdV f (.slice adp f.1.length capp)] w' fun e w'' => e = .returned (str (idF f)) ∧ Below w'.heap.size w' w'' := fun w' hb => id_any (ht.below hb) (hp.below hb) hn
  have h27 : ∀ w', Below w.heap.size w w' → Calls Tryz.prog 27 #[fxdV f (.slice adp f.1.length capp)] w' fun e w'' => e = .returned (str (idF f)) ∧ Below w'.heap.size w' w'' := fun w' hb => rid (hp.below hb) hn
  have h28 : okX v.2.2.2 → ∀ w', Below w.heap.size w w' → Calls Tryz.prog 28 #[fxdV f (.slice adp f.1.length capp), vaV v (.slice ad v.2.2.2.length cap)] w' fun e w'' => e = .returned (str (digM f v)) ∧ Below w'.heap.size w' w'' := fun hok w' hb => digest_any (ht.below hb) (hp.below hb) hn (hx.below CE.loc hb) hok htu
  have h29 : okX v.2.2.2 → ∀ w', Below w.heap.size w w' → Calls Tryz.prog 29 #[fxdV f (.slice adp f.1.length capp), vaV v (.slice ad v.2.2.2.length cap)] w' fun e w'' => e = .returned (str (digM f v)) ∧ Below w'.heap.size w' w'' := fun hok w' hb => rdigest (hp.below hb) hn (hx.below CE.loc hb) hok htu
  have hfe1 : ∀ w', Below w.heap.size w w' → Calls Tryz.prog 9 #[fxdV f (.slice adp f.1.length capp)] w' _ := fun w' hb => few_fixed (hp.below hb).1
  have hfe2 : ∀ w', Below w.heap.size w w' → Calls Tryz.prog 10 #[vaV v (.slice ad v.2.2.2.length cap)] w' _ := fun w' hb => few_state (hx.below CE.loc hb)
  generalize wrF f = s1 at h22 h23
  generalize wrV v = s2 at h24 h25
  generalize idF f = s3 at h26 h27
  generalize digM f v = s4 at h28 h29
  obtain ⟨tu, fi, da, xs⟩ := v
  obtain ⟨ps, no, ap, ti⟩ := f
  refine inQ (J := Below w.heap.size w) (F := (· < w.heap.size)) Tryz.func4 (Below.refl _ _) fun a I => ?_
  refine goQ [] (nonR w) I fun β a w1 I hb => ?_
  refine bcall [Sum.inl (.agg #[.slice adp ps.length capp, B no, .string ap, Z ti])] Tryz.func9 (nonR w) I _ (hfe1 w1 I.hJ) fun v' w2 hv I => ?_
  rcases hv with rfl | ⟨rfl, hfew1⟩
  · refine goT (T := Below w.heap.size w) [uO .not (p := .bool false) (v := .bool true) (by intros; rfl), cA Tryz.func11 hAw] (nonR w) (fun _ h => h) I fun β6 a6 w6 I hb6 => ?_
    exact outQ (v := .bool true) I ⟨rfl, I.hJ⟩
  refine goQ [uO .not (p := .bool true) (v := .bool false) (by intros; rfl)] (nonR w) I fun β a w1 I hb => ?_
  refine bcall [Sum.inl (.agg #[B tu, .bool fi, .string da, .slice ad xs.length cap])] Tryz.func10 (nonR w) I _ (hfe2 w1 I.hJ) fun v' w2 hv I => ?_
  rcases hv with rfl | ⟨rfl, hfew2⟩
  · refine goT (T := Below w.heap.size w) [uO .not (p := .bool false) (v := .bool true) (by intros; rfl), cA Tryz.func11 hAw] (nonR w) (fun _ h => h) I fun β6 a6 w6 I hb6 => ?_
    exact outQ (v := .bool true) I ⟨rfl, I.hJ⟩
  have hok : okX xs := ⟨by have := hfew2.1; simp only [] at this; omega, fun x hx => by have := hfew2.2 x hx; omega⟩
  have h24 := h24 hok
  have h25 := h25 hok
  have h28 := h28 hok
  have h29 := h29 hok
  refine goQ [uO .not (p := .bool true) (v := .bool false) (by intros; rfl)] (nonR w) I fun β3 a3 w3 I hb3 => ?_
  refine dwT (T := Below w.heap.size w) 31 [cA Tryz.func22 h22, cA Tryz.func23 h23, bO .eql 9 (eqT_run (a := ⟨s1.toArray⟩) (b := ⟨s1.toArray⟩) (q := true) (decide_eq_true rfl)), cA Tryz.func24 h24, cA Tryz.func25 h25, bO .eql 9 (eqT_run (a := ⟨s2.toArray⟩) (b := ⟨s2.toArray⟩) (q := true) (decide_eq_true rfl)), cA Tryz.func26 h26, cA Tryz.func27 h27, bO .eql 9 (eqT_run (a := ⟨s3.toArray⟩) (b := ⟨s3.toArray⟩) (q := true) (decide_eq_true rfl)), cA Tryz.func28 h28, cA Tryz.func29 h29, bO .eql 9 (eqT_run (a := ⟨s4.toArray⟩) (b := ⟨s4.toArray⟩) (q := true) (decide_eq_true rfl)), cA Tryz.func11 hAw] (nonR w) (fun _ h => h) PanOk.post I fun a4 w4 I => ?_
  refine goQ [] (nonR w) I fun β5 a5 w5 I hb5 => ?_
  exact outQ (v := .bool true) I ⟨rfl, I.hJ⟩
end Go.Proofs.YtomdiafkoeefpaaGreatDoor
