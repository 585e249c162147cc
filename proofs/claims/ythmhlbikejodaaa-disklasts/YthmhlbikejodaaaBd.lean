/- The three laws, walked. -/
import Derived.Test.YthmhlbikejodaaaBc
namespace Go.Proofs.Ythmhlbikejodaaa
open Go.RowKit Go.Sort
set_option linter.unusedVariables false
set_option maxRecDepth 100000
theorem fitP_iff {d t : By} {f : Int} : fitP d t f = true ↔ d.length + t.length ≤ 131072 ∧ -1 ≤ f ∧ f ≤ 131072 := by unfold fitP; rw [decide_eq_true_eq]
/-- What a write comes to. -/
theorem wrT_said {d t s : By} {f : Int} {o : Bool} (h : d.length + t.length ≤ 131072 ∧ -1 ≤ f ∧ f ≤ 131072) {t' : By} {f' : Int} {o' : Bool} {e : Int} (he : wrT d t f o s = (t', f', o', e)) :
    (d.length + t'.length ≤ 131072 ∧ -1 ≤ f' ∧ f' ≤ 131072) ∧ (∃ k, t' = t ++ s.take k) ∧ (e = 0 → t' = t ++ s) ∧
    (e = 0 ∨ (e = 26 ∧ o' = true) ∨ (e = 3 ∧ t' = t ∧ f' = f ∧ o' = o)) ∧ (o = true → t' = t ∧ f' = f ∧ o' = true ∧ e = 26) := by
  unfold wrT at he
  split at he
  · next ho =>
    simp only [Prod.mk.injEq] at he
    obtain ⟨rfl, rfl, rfl, rfl⟩ := he
    exact ⟨h, ⟨0, by simp⟩, by omega, .inr (.inl ⟨rfl, rfl⟩), fun _ => ⟨rfl, rfl, rfl, rfl⟩⟩
  · next ho =>
    have ho' : o = false := by cases o <;> simp_all
    subst ho'
    split at he
    · simp only [Prod.mk.injEq] at he
      obtain ⟨rfl, rfl, rfl, rfl⟩ := he
      exact ⟨h, ⟨0, by simp⟩, by omega, .inr (.inr ⟨rfl, rfl, rfl, rfl⟩), by simp⟩
    · split at he
      · simp only [Prod.mk.injEq] at he
        obtain ⟨rfl, rfl, rfl, rfl⟩ := he
        exact ⟨⟨by rw [List.length_append]; omega, h.2⟩, ⟨s.length, by rw [List.take_length]⟩, fun _ => rfl, .inl rfl, by simp⟩
      · split at he
        · simp only [Prod.mk.injEq] at he
          obtain ⟨rfl, rfl, rfl, rfl⟩ := he
          exact ⟨⟨by rw [List.length_append, List.length_take]; omega, by omega, by omega⟩, ⟨f.toNat, rfl⟩, by omega, .inr (.inl ⟨rfl, rfl⟩), by simp⟩
        · simp only [Prod.mk.injEq] at he
          obtain ⟨rfl, rfl, rfl, rfl⟩ := he
          exact ⟨⟨by rw [List.length_append]; omega, by omega, by omega⟩, ⟨s.length, by rw [List.take_length]⟩, fun _ => rfl, .inl rfl, by simp⟩
theorem does_walk (d t s : By) (f : Int) (o : Bool) (n : Int) (w : World) : Calls Try.prog 3 #[dk d t f o, str s, Z n] w (Rt0 (.bool true) w) := by
  refine inQ (J := Below w.heap.size w) (F := (· < w.heap.size)) Try.func3 (Below.refl _ _) fun a I => ?_
  by_cases h1 : 200000 < d.length
  · refine goQ [lnO d, bO .gtr 3 (run_gtrZ (x := d.length) (y := 200000) (b := true) (decide_eq_true (by omega))), kC Try.func6 awake_any] (nonR w) I fun β a w1 I hb => ?_
    exact outQ (v := .bool true) I ⟨rfl, I.hJ⟩
  by_cases h2 : 200000 < t.length
  · refine goQ [lnO d, bO .gtr 3 (run_gtrZ (x := d.length) (y := 200000) (b := false) (decide_eq_false (by omega))), lnO t, bO .gtr 3 (run_gtrZ (x := t.length) (y := 200000) (b := true) (decide_eq_true (by omega))), kC Try.func6 awake_any] (nonR w) I fun β a w1 I hb => ?_
    exact outQ (v := .bool true) I ⟨rfl, I.hJ⟩
  by_cases h3 : 200000 < s.length
  · refine goQ [lnO d, bO .gtr 3 (run_gtrZ (x := d.length) (y := 200000) (b := false) (decide_eq_false (by omega))), lnO t, bO .gtr 3 (run_gtrZ (x := t.length) (y := 200000) (b := false) (decide_eq_false (by omega))), lnO s, bO .gtr 3 (run_gtrZ (x := s.length) (y := 200000) (b := true) (decide_eq_true (by omega))), kC Try.func6 awake_any] (nonR w) I fun β a w1 I hb => ?_
    exact outQ (v := .bool true) I ⟨rfl, I.hJ⟩
  have hF := fit_any d t f o (by omega)
  have hG := rfit_any d t f o (by omega)
  obtain ⟨q, hq⟩ : ∃ q, fitP d t f = q := ⟨_, rfl⟩
  rw [hq] at hF hG
  refine goQ [lnO d, bO .gtr 3 (run_gtrZ (x := d.length) (y := 200000) (b := false) (decide_eq_false (by omega))), lnO t, bO .gtr 3 (run_gtrZ (x := t.length) (y := 200000) (b := false) (decide_eq_false (by omega))), lnO s, bO .gtr 3 (run_gtrZ (x := s.length) (y := 200000) (b := false) (decide_eq_false (by omega)))] (nonR w) I fun β a w1 I hb => ?_
  refine dwQ 10 [kC Try.func7 hF, kC Try.func8 hG, bO .neq 4 (neqB_run (a := q) (b := q) (q := false) (by simp)), kC Try.func9 new_any, kC Try.func10 rnew_any, bO .neq 23 (neqD_run [] [] (-1) false)] (nonR w) PanOk.post I fun a2 w2 I => ?_
  cases q with
  | false =>
    refine goQ [kC Try.func8 hG, uO .not (p := .bool false) (v := .bool true) (fun w => run_not w), kC Try.func6 awake_any] (nonR w) I fun β a w1 I hb => ?_
    exact outQ (v := .bool true) I ⟨rfl, I.hJ⟩
  | true =>
    have hfit := fitP_iff.1 hq
    have hW := write_any d t s f o (by omega) (by omega) (by omega) (by omega)
    have hV := rwrite_any d t s f o (by omega) (by omega) (by omega) (by omega)
    obtain ⟨⟨t', f', o', e⟩, hr⟩ : ∃ r, wrT d t f o s = r := ⟨_, rfl⟩
    obtain ⟨g1, -, -, -, -⟩ := wrT_said hfit hr
    rw [hr] at hW hV
    have hS := sync_any d t f o (by omega)
    have hT := rsync_any d t f o (by omega)
    have hA := arm_any d t f o n
    have hB := rarm_any d t f o n
    have hC := crash_any d t f o n (by omega)
    have hD := rcrash_any d t f o n (by omega)
    have hK := trim_any d t f o n
    have hL := rtrim_any d t f o n
    have hM := rfit_any d t' f' o' (by omega)
    rw [fitP_iff.2 g1] at hM
    have g2 : (if o = true then d else d ++ t).length + (if o = true then t else []).length ≤ 131072 := by
      cases o <;> simp <;> omega
    generalize (if o = true then d else d ++ t) = d2 at *
    generalize (if o = true then t else []) = t2 at *
    generalize (if o = true then (26 : Int) else 0) = e2 at *
    generalize (if o = true then d else d.take n.toNat) = d3 at *
    generalize arF f o n = f3 at *
    generalize d ++ t.take n.toNat = d4 at *
    have hN := rfit_any d2 t2 f o (by omega)
    rw [fitP_iff.2 ⟨g2, hfit.2⟩] at hN
    refine goQ [kC Try.func8 hG, uO .not (p := .bool true) (v := .bool false) (fun w => run_not w), kC Try.func11 hW, kC Try.func12 hV, kC Try.func13 hS, kC Try.func14 hT] (nonR w) I fun β a w1 I hb => ?_
    refine dwQ 57 [bO .eql 23 (eqD_run d t' f' o'), bO .eql 3 (run_eqlZ (x := e) (y := e) (b := true) (by simp)), bO .eql 23 (eqD_run d2 t2 f o), bO .eql 3 (run_eqlZ (x := e2) (y := e2) (b := true) (by simp)),
      kC Try.func15 hA, kC Try.func16 hB, bO .eql 23 (eqD_run d t f3 o), kC Try.func17 hC, kC Try.func18 hD, bO .eql 23 (eqD_run d4 [] (-1) false), kC Try.func19 hK, kC Try.func20 hL, bO .eql 23 (eqD_run d3 t f o), kC Try.func8 hM, kC Try.func8 hN, kC Try.func6 awake_any] (nonR w) PanOk.post I fun a2 w2 I => ?_
    refine goQ [] (nonR w) I fun β3 a3 w3 I hb3 => ?_
    exact outQ (v := .bool true) I ⟨rfl, I.hJ⟩
theorem lasts_walk (d t s : By) (f : Int) (o : Bool) (n k : Int) (w : World) : Calls Try.prog 4 #[dk d t f o, str s, Z n, Z k] w (Rt0 (.bool true) w) := by
  refine inQ (J := Below w.heap.size w) (F := (· < w.heap.size)) Try.func4 (Below.refl _ _) fun a I => ?_
  by_cases h1 : 200000 < d.length
  · refine goQ [lnO d, bO .gtr 3 (run_gtrZ (x := d.length) (y := 200000) (b := true) (decide_eq_true (by omega))), kC Try.func6 awake_any] (nonR w) I fun β a w1 I hb => ?_
    exact outQ (v := .bool true) I ⟨rfl, I.hJ⟩
  by_cases h3 : 200000 < s.length
  · refine goQ [lnO d, bO .gtr 3 (run_gtrZ (x := d.length) (y := 200000) (b := false) (decide_eq_false (by omega))), lnO s, bO .gtr 3 (run_gtrZ (x := s.length) (y := 200000) (b := true) (decide_eq_true (by omega))), kC Try.func6 awake_any] (nonR w) I fun β a w1 I hb => ?_
    exact outQ (v := .bool true) I ⟨rfl, I.hJ⟩
  have hG := rfit_any d t f o (by omega)
  obtain ⟨q, hq⟩ : ∃ q, fitP d t f = q := ⟨_, rfl⟩
  rw [hq] at hG
  cases q with
  | false =>
    refine goQ [lnO d, bO .gtr 3 (run_gtrZ (x := d.length) (y := 200000) (b := false) (decide_eq_false (by omega))), lnO s, bO .gtr 3 (run_gtrZ (x := s.length) (y := 200000) (b := false) (decide_eq_false (by omega))), kC Try.func8 hG, uO .not (p := .bool false) (v := .bool true) (fun w => run_not w), kC Try.func6 awake_any] (nonR w) I fun β a w1 I hb => ?_
    exact outQ (v := .bool true) I ⟨rfl, I.hJ⟩
  | true =>
    have hfit := fitP_iff.1 hq
    have hA := arm_any d t f o n
    have hf1 : -1 ≤ arF f o n ∧ arF f o n ≤ 131072 := by unfold arF; split <;> (try split) <;> (try split) <;> omega
    generalize arF f o n = f1 at *
    have hW := write_any d t s f1 o (by omega) (by omega) (by omega) (by omega)
    obtain ⟨⟨t', f', o', e⟩, hr⟩ : ∃ r, wrT d t f1 o s = r := ⟨_, rfl⟩
    obtain ⟨g1, ⟨m, hm⟩, g2, -, -⟩ := wrT_said ⟨hfit.1, hf1⟩ hr
    rw [hr] at hW
    have hS := sync_any d t' f' o' (by omega)
    have hC := crash_any d t' f' o' k (by omega)
    have b1 := begins_any (s := t') (t := t) ⟨s.take m, hm.symm⟩
    have b2 := begins_any (s := t ++ s) (t := t') ⟨s.drop m, by rw [hm, List.append_assoc, List.take_append_drop]⟩
    have b3 := begins_any (s := if o' = true then d else d ++ t') (t := d) (by split; exact List.prefix_refl _; exact List.prefix_append _ _)
    have b4 := begins_any (s := d ++ t'.take k.toNat) (t := d) (List.prefix_append _ _)
    have b5 := begins_any (s := (d ++ t) ++ s) (t := d ++ t'.take k.toNat) (by
      rw [List.append_assoc]
      refine (List.prefix_append_right_inj d).2 ?_
      refine (List.take_prefix _ _).trans ⟨s.drop m, by rw [hm, List.append_assoc, List.take_append_drop]⟩)
    generalize (if o' = true then d else d ++ t') = d2 at *
    generalize (if o' = true then t' else []) = t2 at *
    generalize (if o' = true then (26 : Int) else 0) = e2 at *
    generalize d ++ t'.take k.toNat = d3 at *
    refine goQ [lnO d, bO .gtr 3 (run_gtrZ (x := d.length) (y := 200000) (b := false) (decide_eq_false (by omega))), lnO s, bO .gtr 3 (run_gtrZ (x := s.length) (y := 200000) (b := false) (decide_eq_false (by omega))), kC Try.func8 hG, uO .not (p := .bool true) (v := .bool false) (fun w => run_not w),
      kC Try.func15 hA, kC Try.func11 hW, kC Try.func13 hS, kC Try.func17 hC, bO .neq 9 (neqS_run (a := d) (b := d) (q := false) (by simp)), kC Try.func21 b1, uO .not (p := .bool true) (v := .bool false) (fun w => run_not w), bO .add 9 (addS_run t s (by omega)), kC Try.func21 b2, uO .not (p := .bool true) (v := .bool false) (fun w => run_not w)] (nonR w) I fun β1 a1 w1 I hb1 => ?_
    by_cases he : e = 0
    · refine goQ [bO .eql 27 (run_eqE (x := e) (y := 0) (b := true) (decide_eq_true he)), bO .add 9 (addS_run t s (by omega)), bO .neq 9 (neqS_run (a := t') (b := t ++ s) (q := false) (decide_eq_false fun h => h (g2 he))),
        kC Try.func21 b3, kC Try.func21 b4, bO .add 9 (addS_run d t (by omega)), bO .add 9 (addS_run (d ++ t) s (by rw [List.length_append]; omega)), kC Try.func21 b5, bO .eql 9 (eqS_run (a := []) (b := []) (q := true) (by decide)), uO .not (p := .bool false) (v := .bool true) (fun w => run_not w), bO .eql 3 (run_eqlZ (x := -1) (y := -1) (b := true) rfl), kC Try.func6 awake_any] (nonR w) I fun β a w1 I hb => ?_
      exact outQ (v := .bool true) I ⟨rfl, I.hJ⟩
    · refine goQ [bO .eql 27 (run_eqE (x := e) (y := 0) (b := false) (decide_eq_false he)),
        kC Try.func21 b3, kC Try.func21 b4, bO .add 9 (addS_run d t (by omega)), bO .add 9 (addS_run (d ++ t) s (by rw [List.length_append]; omega)), kC Try.func21 b5, bO .eql 9 (eqS_run (a := []) (b := []) (q := true) (by decide)), uO .not (p := .bool false) (v := .bool true) (fun w => run_not w), bO .eql 3 (run_eqlZ (x := -1) (y := -1) (b := true) rfl), kC Try.func6 awake_any] (nonR w) I fun β a w1 I hb => ?_
      exact outQ (v := .bool true) I ⟨rfl, I.hJ⟩
theorem power_walk (d t s : By) (f : Int) (o : Bool) (w : World) : Calls Try.prog 5 #[dk d t f o, str s] w (Rt0 (.bool true) w) := by
  refine inQ (J := Below w.heap.size w) (F := (· < w.heap.size)) Try.func5 (Below.refl _ _) fun a I => ?_
  by_cases h1 : 200000 < d.length
  · refine goQ [lnO d, bO .gtr 3 (run_gtrZ (x := d.length) (y := 200000) (b := true) (decide_eq_true (by omega))), kC Try.func6 awake_any] (nonR w) I fun β a w1 I hb => ?_
    exact outQ (v := .bool true) I ⟨rfl, I.hJ⟩
  by_cases h3 : 1000 < s.length
  · refine goQ [lnO d, bO .gtr 3 (run_gtrZ (x := d.length) (y := 200000) (b := false) (decide_eq_false (by omega))), lnO s, bO .gtr 3 (run_gtrZ (x := s.length) (y := 1000) (b := true) (decide_eq_true (by omega))), kC Try.func6 awake_any] (nonR w) I fun β a w1 I hb => ?_
    exact outQ (v := .bool true) I ⟨rfl, I.hJ⟩
  have hG := rfit_any d t f o (by omega)
  obtain ⟨q, hq⟩ : ∃ q, fitP d t f = q := ⟨_, rfl⟩
  rw [hq] at hG
  cases q with
  | false =>
    refine goQ [lnO d, bO .gtr 3 (run_gtrZ (x := d.length) (y := 200000) (b := false) (decide_eq_false (by omega))), lnO s, bO .gtr 3 (run_gtrZ (x := s.length) (y := 1000) (b := false) (decide_eq_false (by omega))), kC Try.func8 hG, uO .not (p := .bool false) (v := .bool true) (fun w => run_not w), kC Try.func6 awake_any] (nonR w) I fun β a w1 I hb => ?_
    exact outQ (v := .bool true) I ⟨rfl, I.hJ⟩
  | true =>
    have hfit := fitP_iff.1 hq
    have hW := write_any d t s f o (by omega) (by omega) (by omega) (by omega)
    obtain ⟨⟨t', f', o', e⟩, hr⟩ : ∃ r, wrT d t f o s = r := ⟨_, rfl⟩
    obtain ⟨-, -, -, g4, g5⟩ := wrT_said hfit hr
    rw [hr] at hW
    have hS := sync_any d t f o (by omega)
    have hA := arm_any d t f o 3
    cases o with
    | true =>
      obtain ⟨rfl, rfl, rfl, rfl⟩ := g5 rfl
      refine goQ [lnO d, bO .gtr 3 (run_gtrZ (x := d.length) (y := 200000) (b := false) (decide_eq_false (by omega))), lnO s, bO .gtr 3 (run_gtrZ (x := s.length) (y := 1000) (b := false) (decide_eq_false (by omega))), kC Try.func8 hG, uO .not (p := .bool true) (v := .bool false) (fun w => run_not w), kC Try.func11 hW, kC Try.func13 hS] (nonR w) I fun β1 a1 w1 I hb1 => ?_
      refine dwQ 25 [bO .eql 27 (run_eqE (x := 26) (y := 26) (b := true) rfl), bO .eql 27 (run_eqE (x := 26) (y := 26) (b := true) rfl), bO .eql 23 (eqD_run d t' f' true), bO .eql 23 (eqD_run d t' f' true), kC Try.func15 hA, bO .eql 23 (eqD_run d t' f' true), kC Try.func6 awake_any] (nonR w) PanOk.post I fun a2 w2 I => ?_
      refine goQ [] (nonR w) I fun β3 a3 w3 I hb3 => ?_
      exact outQ (v := .bool true) I ⟨rfl, I.hJ⟩
    | false =>
      rcases g4 with rfl | ⟨rfl, rfl⟩ | ⟨rfl, rfl, rfl, rfl⟩
      · refine goQ [lnO d, bO .gtr 3 (run_gtrZ (x := d.length) (y := 200000) (b := false) (decide_eq_false (by omega))), lnO s, bO .gtr 3 (run_gtrZ (x := s.length) (y := 1000) (b := false) (decide_eq_false (by omega))), kC Try.func8 hG, uO .not (p := .bool true) (v := .bool false) (fun w => run_not w), kC Try.func11 hW, kC Try.func13 hS, bO .eql 27 (run_eqE (x := 0) (y := 0) (b := true) rfl), bO .add 9 (addS_run d t (by omega)), bO .eql 9 (eqS_run (a := d ++ t) (b := d ++ t) (q := true) (by simp)), bO .eql 9 (eqS_run (a := []) (b := []) (q := true) (by decide)), bO .eql 27 (run_eqE (x := 0) (y := 0) (b := true) rfl), kC Try.func6 awake_any] (nonR w) I fun β a w1 I hb => ?_
        exact outQ (v := .bool true) I ⟨rfl, I.hJ⟩
      · refine goQ [lnO d, bO .gtr 3 (run_gtrZ (x := d.length) (y := 200000) (b := false) (decide_eq_false (by omega))), lnO s, bO .gtr 3 (run_gtrZ (x := s.length) (y := 1000) (b := false) (decide_eq_false (by omega))), kC Try.func8 hG, uO .not (p := .bool true) (v := .bool false) (fun w => run_not w), kC Try.func11 hW, kC Try.func13 hS, bO .eql 27 (run_eqE (x := 0) (y := 0) (b := true) rfl), bO .add 9 (addS_run d t (by omega)), bO .eql 9 (eqS_run (a := d ++ t) (b := d ++ t) (q := true) (by simp)), bO .eql 9 (eqS_run (a := []) (b := []) (q := true) (by decide)), bO .eql 27 (run_eqE (x := 26) (y := 0) (b := false) rfl), bO .eql 27 (run_eqE (x := 26) (y := 26) (b := true) rfl), kC Try.func6 awake_any] (nonR w) I fun β a w1 I hb => ?_
        exact outQ (v := .bool true) I ⟨rfl, I.hJ⟩
      · refine goQ [lnO d, bO .gtr 3 (run_gtrZ (x := d.length) (y := 200000) (b := false) (decide_eq_false (by omega))), lnO s, bO .gtr 3 (run_gtrZ (x := s.length) (y := 1000) (b := false) (decide_eq_false (by omega))), kC Try.func8 hG, uO .not (p := .bool true) (v := .bool false) (fun w => run_not w), kC Try.func11 hW, kC Try.func13 hS, bO .eql 27 (run_eqE (x := 0) (y := 0) (b := true) rfl), bO .add 9 (addS_run d t' (by omega)), bO .eql 9 (eqS_run (a := d ++ t') (b := d ++ t') (q := true) (by simp)), bO .eql 9 (eqS_run (a := []) (b := []) (q := true) (by decide)), bO .eql 27 (run_eqE (x := 3) (y := 0) (b := false) rfl), bO .eql 27 (run_eqE (x := 3) (y := 26) (b := false) rfl), bO .eql 27 (run_eqE (x := 3) (y := 3) (b := true) rfl), bO .eql 23 (eqD_run d t' f' false), kC Try.func6 awake_any] (nonR w) I fun β a w1 I hb => ?_
        exact outQ (v := .bool true) I ⟨rfl, I.hJ⟩
end Go.Proofs.Ythmhlbikejodaaa
