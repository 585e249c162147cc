/- Out of Zb. -/
import Derived.Test.YtomdiafkoeefpaaGreatDoorKuYa
import Derived.Test.YtomdiafkoeefpaaGreatDoorKuTx
import Derived.Test.YtomdiafkoeefpaaGreatDoorKuTy
import Derived.Test.YtomdiafkoeefpaaGreatDoorKuHv
namespace Go.Proofs.YtomdiafkoeefpaaGreatDoor
open Go.RowKit Go.Sort
set_option linter.unusedVariables false
set_option maxRecDepth 100000
theorem rfitVar_any {w : World} {ev : Value} {v : Va} (h : ExI w ev v.2.2.2) (hx : okX v.2.2.2) : Calls Tryz.prog 17 #[vaV v ev] w fun e w' => e = .returned (.bool (fitV v)) ∧ Below w.heap.size w w' := by
  obtain ⟨tu, fi, da, xs⟩ := v
  obtain ⟨ad, cap, rfl⟩ := h.slice
  refine inQ (J := Below w.heap.size w) (F := (· < w.heap.size)) Tryz.func17 (Below.refl _ _) fun a I => ?_
  have hfit : fitV (tu, fi, da, xs) = (decide (tu ≤ 1099511627776) && decide (da.size ≤ 256) && fitXs xs) := rfl
  rw [hfit]
  by_cases q1 : ¬ tu ≤ 1099511627776
  · refine goQ [bO .leq 23 (run_leqU (x := tu) (y := 1099511627776) (b := false) (decide_eq_false q1))] (nonR w) I fun β a w1 I hb => ?_
    exact outQ (v := .bool false) I ⟨by rw [decide_eq_false q1]; rfl, I.hJ⟩
  have q1 := Classical.not_not.1 q1
  by_cases q2 : ¬ da.size ≤ 256
  · refine goQ [bO .leq 23 (run_leqU (x := tu) (y := 1099511627776) (b := true) (decide_eq_true q1)), lO Tryz.underlying9 (b := da) (n := da.size) rfl, bO .leq 3 (run_leqZ (x := da.size) (y := 256) (b := false) (by simp; omega))] (nonR w) I fun β a w1 I hb => ?_
    exact outQ (v := .bool false) I ⟨by rw [decide_eq_false q2, Bool.and_false]; rfl, I.hJ⟩
  have q2 := Classical.not_not.1 q2
  have hF : ∀ w', Below w.heap.size w w' → Calls Tryz.prog 40 #[.slice ad xs.length cap] w' fun e w'' => e = .returned (.bool (fitXs xs)) ∧ Below w'.heap.size w' w'' := fun w' hb => rfitExits_any (h.below CE.loc hb) hx.2 hx.1
  refine goT (T := Below w.heap.size w) [bO .leq 23 (run_leqU (x := tu) (y := 1099511627776) (b := true) (decide_eq_true q1)), lO Tryz.underlying9 (b := da) (n := da.size) rfl, bO .leq 3 (run_leqZ (x := da.size) (y := 256) (b := true) (by simp; omega)), cA Tryz.func40 hF] (nonR w) (fun _ h => h) I fun β a w1 I hb => ?_
  exact outQ (v := .bool (fitXs xs)) I ⟨by rw [decide_eq_true q1, decide_eq_true q2]; rfl, I.hJ⟩
theorem rsum_str (l : List UInt8) (hl : l.length ≤ 100000) (w : World) : Calls Tryz.prog 35 #[str l] w fun e w' => e = .returned (str (sumL l)) ∧ Below w.heap.size w w' := rsum_any ⟨l.toArray⟩ (by rw [str_size]; exact hl) w
theorem sums_walk {w : World} (ht : Tabs w ki) {f : Fi} {pv : Value} (hp : PaI w pv f.1) (hn : f.2.1 < M) {v : Va} {ev : Value} (hx : ExI w ev v.2.2.2) (htu : v.1 < M) : Calls Tryz.prog 8 #[fxdV f pv, vaV v ev] w fun e w' => e = .returned (.bool true) ∧ Below w.heap.size w w' := by
  have hAw : ∀ w', Below w.heap.size w w' → Calls Tryz.prog 11 #[] w' fun e w'' => e = .returned (.bool true) ∧ Below w'.heap.size w' w'' := fun w' hb => awake_any (ht.below hb)
  obtain ⟨adp, capp, hpv, _⟩ := id hp.2
  obtain ⟨ad, cap, hev, hm⟩ := id hx
  subst hpv hev
  obtain ⟨bf, hbf⟩ : ∃ b, fitF f = b := ⟨_, rfl⟩
  obtain ⟨bi, hbi⟩ : ∃ b, fitV v = b := ⟨_, rfl⟩
  have hFF : ∀ w', Below w.heap.size w w' → Calls Tryz.prog 15 #[fxdV f (.slice adp f.1.length capp)] w' fun e w'' => e = .returned (.bool bf) ∧ Below w'.heap.size w' w'' := fun w' hb => by rw [← hbf]; exact rfitFixed_any (hp.below hb)
  have hFV : okX v.2.2.2 → ∀ w', Below w.heap.size w w' → Calls Tryz.prog 17 #[vaV v (.slice ad v.2.2.2.length cap)] w' fun e w'' => e = .returned (.bool bi) ∧ Below w'.heap.size w' w'' := fun hok w' hb => by rw [← hbi]; exact rfitVar_any (hx.below CE.loc hb) hok
  have hId : ∀ w', Below w.heap.size w w' → Calls Tryz.prog 26 #[fxdV f (.slice adp f.1.length capp)] w' fun e w'' => e = .returned (str (idF f)) ∧ Below w'.heap.size w' w'' := fun w' hb => id_any (ht.below hb) (hp.below hb) hn
  have hWF : ∀ w', Below w.heap.size w w' → Calls Tryz.prog 22 #[fxdV f (.slice adp f.1.length capp)] w' fun e w'' => e = .returned (str (wrF f)) ∧ Below w'.heap.size w' w'' := fun w' hb => writeFixed_any (hp.below hb) hn
  have hDi : okX v.2.2.2 → ∀ w', Below w.heap.size w w' → Calls Tryz.prog 28 #[fxdV f (.slice adp f.1.length capp), vaV v (.slice ad v.2.2.2.length cap)] w' fun e w'' => e = .returned (str (digM f v)) ∧ Below w'.heap.size w' w'' := fun hok w' hb => digest_any (ht.below hb) (hp.below hb) hn (hx.below CE.loc hb) hok htu
  have hWV : okX v.2.2.2 → ∀ w', Below w.heap.size w w' → Calls Tryz.prog 24 #[vaV v (.slice ad v.2.2.2.length cap)] w' fun e w'' => e = .returned (str (wrV v)) ∧ Below w'.heap.size w' w'' := fun hok w' hb => write_any (hx.below CE.loc hb) hok htu
  have hS1 : ∀ w', Below w.heap.size w w' → Calls Tryz.prog 35 #[str (wrF f)] w' fun e w'' => e = .returned (str (sumL (wrF f))) ∧ Below w'.heap.size w' w'' := fun w' _ => rsum_str _ (by have := wrF_w f; omega) w'
  have hS2 : ∀ w', Below w.heap.size w w' → Calls Tryz.prog 35 #[str (wrV v)] w' fun e w'' => e = .returned (str (sumL (wrV v))) ∧ Below w'.heap.size w' w'' := fun w' _ => rsum_str _ (by have := wrV_w v; omega) w'
  have hl1 : (idF f).length ≤ 32 := by
    unfold idF
    split
    · rw [sumL_len]; exact Nat.le_refl _
    · simp
  have hl2 := sumL_len (wrV v)
  have hS3 : ∀ w', Below w.heap.size w w' → Calls Tryz.prog 35 #[str (idF f ++ sumL (wrV v))] w' fun e w'' => e = .returned (str (sumL (idF f ++ sumL (wrV v)))) ∧ Below w'.heap.size w' w'' := fun w' _ => rsum_str _ (by rw [List.length_append]; omega) w'
  have e1 : bf = true → sumL (wrF f) = idF f := fun h => by unfold idF; rw [hbf, h]; rfl
  have e2 : bf = true → bi = true → digM f v = sumL (idF f ++ sumL (wrV v)) := fun h h2 => by unfold digM; rw [hbf, hbi, h, h2]; rfl
  clear hbf hbi
  generalize idF f = i1 at hId hS3 hl1 e1 e2
  generalize sumL (wrF f) = s1 at hS1 e1
  generalize wrF f = wf at hWF hS1
  generalize sumL (wrV v) = s2 at hS2 hS3 hl2 e2
  generalize wrV v = wv at hWV hS2
  generalize sumL (i1 ++ s2) = s3 at hS3 e2
  generalize digM f v = dg at hDi e2
  have hfe1 : ∀ w', Below w.heap.size w w' → Calls Tryz.prog 9 #[fxdV f (.slice adp f.1.length capp)] w' _ := fun w' hb => few_fixed (hp.below hb).1
  have hfe2 : ∀ w', Below w.heap.size w w' → Calls Tryz.prog 10 #[vaV v (.slice ad v.2.2.2.length cap)] w' _ := fun w' hb => few_state (hx.below CE.loc hb)
  obtain ⟨tu, fi, da, xs⟩ := v
  obtain ⟨ps, no, ap, ti⟩ := f
  refine inQ (J := Below w.heap.size w) (F := (· < w.heap.size)) Tryz.func8 (Below.refl _ _) fun a I => ?_
  refine goQ [] (nonR w) I fun β a w1 I hb => ?_
  refine bcall [Sum.inl (.agg #[.slice adp ps.length capp, B no, .string ap, Z ti])] Tryz.func9 (nonR w) I _ (hfe1 w1 I.hJ) fun v' w2 hv I => ?_
  rcases hv with rfl | ⟨rfl, hfew1⟩
  · refine goT (T := Below w.heap.size w) [uO .not (p := .bool false) (v := .bool true) (by intros; rfl), cA Tryz.func11 hAw] (nonR w) (fun _ h => h) I fun β6 a6 w6 I hb6 => ?_
    exact outQ (v := .bool true) I ⟨rfl, I.hJ⟩
  refine goQ [uO .not (p := .bool true) (v := .bool false) (by intros; rfl)] (nonR w) I fun β a w1 I hb => ?_
  refine bcall [Sum.inl (.agg #[B tu, .bool fi, .string da, .slice ad xs.length cap])] Tryz.func10 (nonR w) I _ (hfe2 w1 I.hJ) fun v' w2 hv I => ?_
  rcases hv with rfl | ⟨rfl, hfew2⟩
  · refine goT (T := Below w.heap.size w) [uO .not (p := .bool false) (v := .bool true) (by intros; rfl), cA Tryz.func11 hAw] (nonR w) (fun _ h => h) I fun β6 a6 w6 I hb6 => ?_
    exact outQ (v := .bool true) I ⟨rfl, I.hJ⟩
  have hok : okX xs := ⟨by have := hfew2.1; simp only [] at this; omega, fun x hx => by have := hfew2.2 x hx; omega⟩
  have hFV := hFV hok
  have hDi := hDi hok
  have hWV := hWV hok
  cases bf
  · refine goT (T := Below w.heap.size w) [uO .not (p := .bool true) (v := .bool false) (by intros; rfl), cA Tryz.func15 hFF, uO .not (p := .bool false) (v := .bool true) (by intros; rfl), cA Tryz.func11 hAw] (nonR w) (fun _ h => h) I fun β6 a6 w6 I hb6 => ?_
    exact outQ (v := .bool true) I ⟨rfl, I.hJ⟩
  cases bi
  · refine goT (T := Below w.heap.size w) [uO .not (p := .bool true) (v := .bool false) (by intros; rfl), cA Tryz.func15 hFF, uO .not (p := .bool true) (v := .bool false) (by intros; rfl), cA Tryz.func17 hFV, uO .not (p := .bool false) (v := .bool true) (by intros; rfl), cA Tryz.func11 hAw] (nonR w) (fun _ h => h) I fun β6 a6 w6 I hb6 => ?_
    exact outQ (v := .bool true) I ⟨rfl, I.hJ⟩
  have e1 := e1 rfl
  have e2 := e2 rfl rfl
  subst e1 e2
  refine goT (T := Below w.heap.size w) [uO .not (p := .bool true) (v := .bool false) (by intros; rfl), cA Tryz.func15 hFF, uO .not (p := .bool true) (v := .bool false) (by intros; rfl), cA Tryz.func17 hFV, uO .not (p := .bool true) (v := .bool false) (by intros; rfl), cA Tryz.func26 hId] (nonR w) (fun _ h => h) I fun β3 a3 w3 I hb3 => ?_
  refine dwT (T := Below w.heap.size w) 20 [cA Tryz.func22 hWF, cA Tryz.func35 hS1, bO .eql 9 (eqT_run (a := ⟨s1.toArray⟩) (b := ⟨s1.toArray⟩) (q := true) (decide_eq_true rfl)), cA Tryz.func28 hDi, cA Tryz.func24 hWV, cA Tryz.func35 hS2, bO .add 9 (addS_run s1 s2 (by omega)), cA Tryz.func35 hS3, bO .eql 9 (eqT_run (a := ⟨dg.toArray⟩) (b := ⟨dg.toArray⟩) (q := true) (decide_eq_true rfl)), cA Tryz.func11 hAw] (nonR w) (fun _ h => h) PanOk.post I fun a4 w4 I => ?_
  refine goQ [] (nonR w) I fun β5 a5 w5 I hb5 => ?_
  exact outQ (v := .bool true) I ⟨rfl, I.hJ⟩
end Go.Proofs.YtomdiafkoeefpaaGreatDoor
