/- Out of Zf. -/
import Derived.Test.YtomdiafkoeefpaaGreatDoorKtYa
import Derived.Test.YtomdiafkoeefpaaGreatDoorKtYg
import Derived.Test.YtomdiafkoeefpaaGreatDoorKtTx
import Derived.Test.YtomdiafkoeefpaaGreatDoorKtTy
namespace Go.Proofs.YtomdiafkoeefpaaGreatDoor
open Go.RowKit Go.Sort
set_option linter.unusedVariables false
set_option maxRecDepth 100000
theorem pfitVar_any {w : World} {ev : Value} {v : Va} (h : ExI w ev v.2.2.2) (hx : okX v.2.2.2) : Calls Tryz.prog 17 #[vaV v ev] w fun e w' => e = .returned (.bool (fitV v)) ∧ Below w.heap.size w w' := by
  obtain ⟨tu, fi, da, xs⟩ := v
  obtain ⟨ad, cap, rfl⟩ := h.slice
  refine inQ (J := Below w.heap.size w) (F := (· < w.heap.size)) Tryz.func17 (Below.refl _ _) fun a I => ?_
  have hfit : fitV (tu, fi, da, xs) = (decide (tu ≤ 1099511627776) && decide (da.size ≤ 256) && fitXs xs) := rfl
  rw [hfit]
  by_cases q1 : ¬ tu ≤ 1099511627776
  · refine goQ [bO .leq 23 (run_leqU (x := tu) (y := 1099511627776) (b := false) (decide_eq_false q1))] (nonR w) I fun β a w1 I hb => ?_
    exact outQ (v := .bool false) I ⟨by rw [decide_eq_false q1]; rfl, I.hJ⟩
  have q1 := Classical.not_not.1 q1
  by_cases q2 : ¬ da.size ≤ 256
  · refine goQ [bO .leq 23 (run_leqU (x := tu) (y := 1099511627776) (b := true) (decide_eq_true q1)), lO Tryz.underlying9 (b := da) (n := da.size) rfl, bO .leq 3 (run_leqZ (x := da.size) (y := 256) (b := false) (by simp; omega))] (nonR w) I fun β a w1 I hb => ?_
    exact outQ (v := .bool false) I ⟨by rw [decide_eq_false q2, Bool.and_false]; rfl, I.hJ⟩
  have q2 := Classical.not_not.1 q2
  have hF : ∀ w', Below w.heap.size w w' → Calls Tryz.prog 40 #[.slice ad xs.length cap] w' fun e w'' => e = .returned (.bool (fitXs xs)) ∧ Below w'.heap.size w' w'' := fun w' hb => rfitExits_any (h.below CE.loc hb) hx.2 hx.1
  refine goT (T := Below w.heap.size w) [bO .leq 23 (run_leqU (x := tu) (y := 1099511627776) (b := true) (decide_eq_true q1)), lO Tryz.underlying9 (b := da) (n := da.size) rfl, bO .leq 3 (run_leqZ (x := da.size) (y := 256) (b := true) (by simp; omega)), cA Tryz.func40 hF] (nonR w) (fun _ h => h) I fun β a w1 I hb => ?_
  exact outQ (v := .bool (fitXs xs)) I ⟨by rw [decide_eq_true q1, decide_eq_true q2]; rfl, I.hJ⟩
theorem neqP_run {x : Bool} (o1 o2 : Operand) (w : World) : (do eqGuard .neq 4 o1 o2 (.bool x) (.bool x); binOp .neq 4 (.bool x) (.bool x) : Sem Value).run Tryz.prog w = .ok (.bool false) w := by
  cases x <;> simp [go_sem]
theorem eqP_run {x : Bool} (o1 o2 : Operand) (w : World) : (do eqGuard .eql 4 o1 o2 (.bool x) (.bool x); binOp .eql 4 (.bool x) (.bool x) : Sem Value).run Tryz.prog w = .ok (.bool true) w := run_eqlB (decide_eq_true rfl) o1 o2 w
theorem totV_ex (l : List Ex) (s : ByteArray) : ∃ A b, A < W ∧ totV l s = .tuple #[U A, .bool b] := by
  unfold totV
  split
  · next h => exact ⟨_, true, h, rfl⟩
  · exact ⟨0, false, W_pos, rfl⟩
set_option maxHeartbeats 4000000 in
theorem tells_walk {w : World} (ht : Tabs w ki) {f : Fi} {pf : Value} (hf : PaI w pf f.1) (nf : f.2.1 < M) {v : Va} {ev : Value} (hv : ExI w ev v.2.2.2) (nv : v.1 < M) {z : Va} {ez : Value} (hz : ExI w ez z.2.2.2) (nz : z.1 < M) (s : ByteArray) : Calls Tryz.prog 3 #[fxdV f pf, vaV v ev, vaV z ez, .string s] w fun e w' => e = .returned (.bool true) ∧ Below w.heap.size w w' := by
  have hAw : ∀ w', Below w.heap.size w w' → Calls Tryz.prog 11 #[] w' fun e w'' => e = .returned (.bool true) ∧ Below w'.heap.size w' w'' := fun w' hb => awake_any (ht.below hb)
  obtain ⟨adf, capf, hpf, _⟩ := id hf.2
  obtain ⟨adv, capv, hpv, hmv⟩ := id hv
  obtain ⟨adz, capz, hpz, _⟩ := id hz
  subst hpf hpv hpz
  have hE1 : ∀ w', Below w.heap.size w w' → Calls Tryz.prog 9 #[fxdV f (.slice adf f.1.length capf)] w' _ := fun w' hb => few_fixed (hf.below hb).1
  have hE2 : ∀ w', Below w.heap.size w w' → Calls Tryz.prog 10 #[vaV v (.slice adv v.2.2.2.length capv)] w' _ := fun w' hb => few_state (hv.below CE.loc hb)
  have hE3 : ∀ w', Below w.heap.size w w' → Calls Tryz.prog 10 #[vaV z (.slice adz z.2.2.2.length capz)] w' _ := fun w' hb => few_state (hz.below CE.loc hb)
  have hF1 : ∀ w', Below w.heap.size w w' → Calls Tryz.prog 14 #[fxdV f (.slice adf f.1.length capf)] w' fun e w'' => e = .returned (.bool (fitF f)) ∧ Below w'.heap.size w' w'' := fun w' hb => fitFixed_any (hf.below hb)
  have hF2 : ∀ w', Below w.heap.size w w' → Calls Tryz.prog 15 #[fxdV f (.slice adf f.1.length capf)] w' fun e w'' => e = .returned (.bool (fitF f)) ∧ Below w'.heap.size w' w'' := fun w' hb => rfitFixed_any (hf.below hb)
  have hG1 : okX v.2.2.2 → ∀ w', Below w.heap.size w w' → Calls Tryz.prog 16 #[vaV v (.slice adv v.2.2.2.length capv)] w' fun e w'' => e = .returned (.bool (fitV v)) ∧ Below w'.heap.size w' w'' := fun hok w' hb => fitVar_any (hv.below CE.loc hb) hok
  have hG2 : okX v.2.2.2 → ∀ w', Below w.heap.size w w' → Calls Tryz.prog 17 #[vaV v (.slice adv v.2.2.2.length capv)] w' fun e w'' => e = .returned (.bool (fitV v)) ∧ Below w'.heap.size w' w'' := fun hok w' hb => pfitVar_any (hv.below CE.loc hb) hok
  have hS1 : okX v.2.2.2 → ∀ w', Below w.heap.size w w' → Calls Tryz.prog 20 #[vaV v (.slice adv v.2.2.2.length capv), vaV z (.slice adz z.2.2.2.length capz)] w' fun e w'' => e = .returned (.bool (eqV v z)) ∧ Below w'.heap.size w' w'' := fun hok w' hb => same_state (hv.below CE.loc hb) (hz.below CE.loc hb) hok
  have hS2 : okX v.2.2.2 → ∀ w', Below w.heap.size w w' → Calls Tryz.prog 21 #[vaV v (.slice adv v.2.2.2.length capv), vaV z (.slice adz z.2.2.2.length capz)] w' fun e w'' => e = .returned (.bool (eqV v z)) ∧ Below w'.heap.size w' w'' := fun hok w' hb => rsame_state (hv.below CE.loc hb) (hz.below CE.loc hb) hok
  have hS3 : okX v.2.2.2 → ∀ w', Below w.heap.size w w' → Calls Tryz.prog 20 #[vaV v (.slice adv v.2.2.2.length capv), vaV v (.slice adv v.2.2.2.length capv)] w' fun e w'' => e = .returned (.bool true) ∧ Below w'.heap.size w' w'' := fun hok w' hb => by
    have := same_state (hv.below CE.loc hb) (hv.below CE.loc hb) hok
    rwa [eqV_iff.2 rfl] at this
  have hT1 : okX v.2.2.2 → ∀ s, ∀ w', Below w.heap.size w w' → Calls Tryz.prog 12 #[.slice adv v.2.2.2.length capv, .string s] w' fun e w'' => e = .returned (totV v.2.2.2 s) ∧ Below w'.heap.size w' w'' := fun hok s w' hb => total_any (hv.below CE.loc hb) s hok.1 hok.2
  have hT2 : okX v.2.2.2 → ∀ s, ∀ w', Below w.heap.size w w' → Calls Tryz.prog 13 #[.slice adv v.2.2.2.length capv, .string s] w' fun e w'' => e = .returned (totV v.2.2.2 s) ∧ Below w'.heap.size w' w'' := fun hok s w' hb => rtotal_any (hv.below CE.loc hb) s hok
  have hD1 : ∀ w', Below w.heap.size w w' → Calls Tryz.prog 18 #[.string s] w' fun e w'' => e = .returned (str (destL s)) ∧ Below w'.heap.size w' w'' := fun w' _ => dest_any s w'
  have hD2 : ∀ w', Below w.heap.size w w' → Calls Tryz.prog 19 #[.string s] w' fun e w'' => e = .returned (str (destL s)) ∧ Below w'.heap.size w' w'' := fun w' _ => rdest_any s w'
  generalize fitF f = bf at hF1 hF2
  generalize fitV v = bv at hG1 hG2
  generalize eqV v z = bs at hS1 hS2
  generalize destL s = ds at hD1 hD2
  obtain ⟨p1, n1, a1, t1⟩ := f
  obtain ⟨u1, b1, d1, x1⟩ := v
  obtain ⟨u2, b2, d2, x2⟩ := z
  simp only [] at hf hv hz hmv
  refine inQ (J := Below w.heap.size w) (F := (· < w.heap.size)) Tryz.func3 (Below.refl _ _) fun a I => ?_
  refine goQ [] (nonR w) I fun β a w1 I hb => ?_
  refine bcall [Sum.inl (.agg #[.slice adf p1.length capf, B n1, .string a1, Z t1])] Tryz.func9 (nonR w) I _ (hE1 w1 I.hJ) fun v' w2 hv' I => ?_
  rcases hv' with rfl | ⟨rfl, few1⟩
  · refine goT (T := Below w.heap.size w) [uO .not (p := .bool false) (v := .bool true) (by intros; rfl), cA Tryz.func11 hAw] (nonR w) (fun _ h => h) I fun β6 a6 w6 I hb6 => ?_
    exact outQ (v := .bool true) I ⟨rfl, I.hJ⟩
  refine goQ [uO .not (p := .bool true) (v := .bool false) (by intros; rfl)] (nonR w) I fun β a w1 I hb => ?_
  refine bcall [Sum.inl (.agg #[B u1, .bool b1, .string d1, .slice adv x1.length capv])] Tryz.func10 (nonR w) I _ (hE2 w1 I.hJ) fun v' w2 hv' I => ?_
  rcases hv' with rfl | ⟨rfl, few3⟩
  · refine goT (T := Below w.heap.size w) [uO .not (p := .bool false) (v := .bool true) (by intros; rfl), cA Tryz.func11 hAw] (nonR w) (fun _ h => h) I fun β6 a6 w6 I hb6 => ?_
    exact outQ (v := .bool true) I ⟨rfl, I.hJ⟩
  refine goQ [uO .not (p := .bool true) (v := .bool false) (by intros; rfl)] (nonR w) I fun β a w1 I hb => ?_
  refine bcall [Sum.inl (.agg #[B u2, .bool b2, .string d2, .slice adz x2.length capz])] Tryz.func10 (nonR w) I _ (hE3 w1 I.hJ) fun v' w2 hv' I => ?_
  rcases hv' with rfl | ⟨rfl, few4⟩
  · refine goT (T := Below w.heap.size w) [uO .not (p := .bool false) (v := .bool true) (by intros; rfl), cA Tryz.func11 hAw] (nonR w) (fun _ h => h) I fun β6 a6 w6 I hb6 => ?_
    exact outQ (v := .bool true) I ⟨rfl, I.hJ⟩
  by_cases q1 : 1000 < s.size
  · refine goT (T := Below w.heap.size w) [uO .not (p := .bool true) (v := .bool false) (by intros; rfl), lO Tryz.underlying9 (b := s) (n := s.size) rfl, bO .gtr 3 (run_gtrZ (x := s.size) (y := 1000) (b := true) (by simp; omega)), cA Tryz.func11 hAw] (nonR w) (fun _ h => h) I fun β6 a6 w6 I hb6 => ?_
    exact outQ (v := .bool true) I ⟨rfl, I.hJ⟩
  have hok : okX x1 := ⟨by have := few3.1; simp only [] at this; omega, fun x hx => by have := few3.2 x hx; omega⟩
  have hG1 := hG1 hok
  have hG2 := hG2 hok
  have hS1 := hS1 hok
  have hS2 := hS2 hok
  have hS3 := hS3 hok
  have hT1 := hT1 hok
  have hT2 := hT2 hok
  obtain ⟨A, ba, hA, eA⟩ := totV_ex x1 s
  have hX1 := hT1 s
  have hX2 := hT2 s
  simp only [] at hX1 hX2
  rw [eA] at hX1 hX2
  rcases Nat.eq_zero_or_pos x1.length with hl0 | hl0
  · refine goT (T := Below w.heap.size w) [uO .not (p := .bool true) (v := .bool false) (by intros; rfl), lO Tryz.underlying9 (b := s) (n := s.size) rfl, bO .gtr 3 (run_gtrZ (x := s.size) (y := 1000) (b := false) (by simp; omega)), cA Tryz.func12 hX1, cA Tryz.func13 hX2, lS Tryz.underlying26 (ad := adv) (n := x1.length) (cap := capv) rfl, bO .gtr 3 (run_gtrZ (x := x1.length) (y := 0) (b := false) (decide_eq_false (by omega)))] (nonR w) (fun _ h => h) I fun β7 a7 w7 I hb7 => ?_
    refine dwT (T := Below w.heap.size w) 46 [cA Tryz.func14 hF1, cA Tryz.func15 hF2, bO .eql 4 (eqP_run (x := bf)), cA Tryz.func16 hG1, cA Tryz.func17 hG2, bO .eql 4 (eqP_run (x := bv)), bO .eql 33 (eqU_run (n := A) (m := A) hA hA (q := true) (decide_eq_true rfl)), bO .eql 4 (eqP_run (x := ba)), cA Tryz.func18 hD1, cA Tryz.func19 hD2, bO .eql 9 (eqT_run (a := ⟨ds.toArray⟩) (b := ⟨ds.toArray⟩) (q := true) (decide_eq_true rfl)), cA Tryz.func20 hS1, cA Tryz.func21 hS2, bO .eql 4 (eqP_run (x := bs)), cA Tryz.func20 hS3, cA Tryz.func11 hAw] (nonR w) (fun _ h => h) PanOk.post I fun a14 w14 I => ?_
    refine goQ [] (nonR w) I fun β15 a15 w15 I hb15 => ?_
    exact outQ (v := .bool true) I ⟨rfl, I.hJ⟩
  · obtain ⟨⟨sa, al⟩, h1⟩ : ∃ t, x1[0]? = some t := ⟨_, List.getElem?_eq_getElem hl0⟩
    obtain ⟨ga, offa, cs, rfl, hlt, hca, av, rfl, hAl⟩ := hmv 0 _ h1
    simp only [] at hca
    have hld : ∀ w', Below w.heap.size w w' → (loadVar 9 ⟨ga, offa + 0 * 2 + 0, none⟩).run Tryz.prog w' = .ok (.string sa) w' := fun w' hb => load1 (hca.keep (hb.block ga hlt)) 0 rfl 9 Tryz.underlying9 rfl
    obtain ⟨D, bd, hD, eD⟩ := totV_ex x1 sa
    have hY1 := hT1 sa
    have hY2 := hT2 sa
    simp only [] at hY1 hY2
    rw [eD] at hY1 hY2
    refine goT (T := Below w.heap.size w) [uO .not (p := .bool true) (v := .bool false) (by intros; rfl), lO Tryz.underlying9 (b := s) (n := s.size) rfl, bO .gtr 3 (run_gtrZ (x := s.size) (y := 1000) (b := false) (by simp; omega)), cA Tryz.func12 hX1, cA Tryz.func13 hX2, lS Tryz.underlying26 (ad := some ⟨ga, offa, none⟩) (n := x1.length) (cap := capv) rfl, bO .gtr 3 (run_gtrZ (x := x1.length) (y := 0) (b := true) (by simp; omega))] (nonR w) (fun _ h => h) I fun β7 a7 w7 I hb7 => ?_
    refine dwA (T := Below w.heap.size w) 11 12 13 63 D [iA 26 Tryz.underlying26 (sz := 2) (by kernel_rfl) (g := ga) (off := offa) (n := x1.length) (cap := capv) (i := 0) hl0, ldA 9 hld, cA Tryz.func12 hY1] (nonR w) (fun _ h => h) I fun b8 vs8 β8 a8 w8 hag8 I => ?_
    refine goQ [] (nonR w) I fun β81 a81 w81 I hb81 => ?_
    refine dwA (T := Below w.heap.size w) 11 12 15 74 D [iA 26 Tryz.underlying26 (sz := 2) (by kernel_rfl) (g := ga) (off := offa) (n := x1.length) (cap := capv) (i := 0) hl0, ldA 9 hld, cA Tryz.func13 hY2] (nonR w) (fun _ h => h) I fun b9 vs9 β9 a9 w9 hag9 I => ?_
    refine goQ [bO .neq 33 (neqU_run (n := D) (m := D) hD hD (q := false) (by simp)), bO .neq 4 (neqP_run (x := bd))] (nonR w) I fun β10 a10 w10 I hb10 => ?_
    refine dwT (T := Below w.heap.size w) 46 [cA Tryz.func14 hF1, cA Tryz.func15 hF2, bO .eql 4 (eqP_run (x := bf)), cA Tryz.func16 hG1, cA Tryz.func17 hG2, bO .eql 4 (eqP_run (x := bv)), bO .eql 33 (eqU_run (n := A) (m := A) hA hA (q := true) (decide_eq_true rfl)), bO .eql 4 (eqP_run (x := ba)), cA Tryz.func18 hD1, cA Tryz.func19 hD2, bO .eql 9 (eqT_run (a := ⟨ds.toArray⟩) (b := ⟨ds.toArray⟩) (q := true) (decide_eq_true rfl)), cA Tryz.func20 hS1, cA Tryz.func21 hS2, bO .eql 4 (eqP_run (x := bs)), cA Tryz.func20 hS3, cA Tryz.func11 hAw] (nonR w) (fun _ h => h) PanOk.post I fun a14 w14 I => ?_
    refine goQ [] (nonR w) I fun β15 a15 w15 I hb15 => ?_
    exact outQ (v := .bool true) I ⟨rfl, I.hJ⟩
end Go.Proofs.YtomdiafkoeefpaaGreatDoor
