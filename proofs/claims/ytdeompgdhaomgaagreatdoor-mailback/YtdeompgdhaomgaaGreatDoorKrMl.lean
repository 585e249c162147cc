/- Out of Ml. -/
import Derived.Test.YtdeompgdhaomgaaGreatDoorKrMj
import Derived.Test.YtdeompgdhaomgaaGreatDoorKrYa
import Derived.Test.YtdeompgdhaomgaaGreatDoorKrTw
import Derived.Test.YtdeompgdhaomgaaGreatDoorKrTe
import Derived.Test.YtdeompgdhaomgaaGreatDoorKrMb
namespace Go.Proofs.YtdeompgdhaomgaaGreatDoor
open Go.RowKit Go.Sort
set_option linter.unusedVariables false
set_option maxRecDepth 100000
set_option maxHeartbeats 4000000 in
theorem mback_walk {w : World} {pv ev sv pu eu su : Value} {f g : Fi} {v u : Va} {l m : List Se} (h : MlA w pv ev sv f v l) (k : MlA w pu eu su g u m) : Calls Tryz.prog 4 #[mlV f v pv ev sv, mlV g u pu eu su] w fun e w' => e = .returned (.bool true) ∧ Below w.heap.size w w' := by
  obtain ⟨adp, capp, hpv⟩ := h.pf.1.slice
  obtain ⟨ade, cape, hev⟩ := h.xf.slice
  obtain ⟨ads, caps, hsv⟩ := h.sf.slice
  obtain ⟨adq, capq, hpu⟩ := k.pf.1.slice
  obtain ⟨adf, capf, heu⟩ := k.xf.slice
  obtain ⟨adt, capt, hsu⟩ := k.sf.slice
  subst hpv hev hsv hpu heu hsu
  have av := h.xf.amt
  have au := k.xf.amt
  have hse := h.sf.seals
  have kse := k.sf.seals
  have hE1 : ∀ w', Below w.heap.size w w' → Calls Tryz.prog 6 #[mlV f v (.slice adp f.1.length capp) (.slice ade v.2.2.2.length cape) (.slice ads l.length caps)] w' _ := fun w' hb => mfew_any (h.below hb)
  have hE2 : ∀ w', Below w.heap.size w w' → Calls Tryz.prog 6 #[mlV g u (.slice adq g.1.length capq) (.slice adf u.2.2.2.length capf) (.slice adt m.length capt)] w' _ := fun w' hb => mfew_any (k.below hb)
  have hF1 : fewM f v l → ∀ w', Below w.heap.size w w' → Calls Tryz.prog 11 #[mlV f v (.slice adp f.1.length capp) (.slice ade v.2.2.2.length cape) (.slice ads l.length caps)] w' fun e w'' => e = .returned (.bool (fitM f v l)) ∧ Below w'.heap.size w' w'' := fun q w' hb => rmfit_any ((h.below hb).mli q)
  have hF2 : fewM g u m → ∀ w', Below w.heap.size w w' → Calls Tryz.prog 11 #[mlV g u (.slice adq g.1.length capq) (.slice adf u.2.2.2.length capf) (.slice adt m.length capt)] w' fun e w'' => e = .returned (.bool (fitM g u m)) ∧ Below w'.heap.size w' w'' := fun q w' hb => rmfit_any ((k.below hb).mli q)
  have hW1 : fewM f v l → ∀ w', Below w.heap.size w w' → Calls Tryz.prog 12 #[mlV f v (.slice adp f.1.length capp) (.slice ade v.2.2.2.length cape) (.slice ads l.length caps)] w' fun e w'' => e = .returned (str (wrM f v l)) ∧ Below w'.heap.size w' w'' := fun q w' hb => mwrite_any ((h.below hb).mli q)
  have hW2 : fewM g u m → ∀ w', Below w.heap.size w w' → Calls Tryz.prog 12 #[mlV g u (.slice adq g.1.length capq) (.slice adf u.2.2.2.length capf) (.slice adt m.length capt)] w' fun e w'' => e = .returned (str (wrM g u m)) ∧ Below w'.heap.size w' w'' := fun q w' hb => mwrite_any ((k.below hb).mli q)
  have hS : fewM f v l → fewM g u m → ∀ w', Below w.heap.size w w' → Calls Tryz.prog 15 #[mlV f v (.slice adp f.1.length capp) (.slice ade v.2.2.2.length cape) (.slice ads l.length caps), mlV g u (.slice adq g.1.length capq) (.slice adf u.2.2.2.length capf) (.slice adt m.length capt)] w' fun e w'' => e = .returned (.bool (eqM f v l g u m)) ∧ Below w'.heap.size w' w'' := fun q q2 w' hb => rmsame_any ((h.below hb).mli q) ((k.below hb).mli q2) (by have := q.1; omega)
  have hR : fewM f v l → ∀ (adp' ade' ads' : Option Addr) (capp' cape' caps' : Nat) w', Below w.heap.size w w' → MlI w' (.slice adp' f.1.length capp') (.slice ade' v.2.2.2.length cape') (.slice ads' l.length caps') f v l → Calls Tryz.prog 15 #[mlV f v (.slice adp' f.1.length capp') (.slice ade' v.2.2.2.length cape') (.slice ads' l.length caps'), mlV f v (.slice adp f.1.length capp) (.slice ade v.2.2.2.length cape) (.slice ads l.length caps)] w' fun e w'' => e = .returned (.bool true) ∧ Below w'.heap.size w' w'' := fun q adp' ade' ads' capp' cape' caps' w' hb hM => by
    have := rmsame_any hM ((h.below hb).mli q) (by have := q.1; omega)
    rwa [eqM_iff.2 ⟨rfl, rfl, rfl⟩] at this
  have heq : fitM f v l = true → fitM g u m = true → _ := fun h1 h2 => wrM_eq h1 h2 h.nf h.nv av hse k.nf k.nv au kse
  have hbk : fitM f v l = true → rdM (wrM f v l) = some (f, v, l) := fun q => rdM_back q h.nf h.nv av hse
  have hlen : (wrM f v l).length ≤ 25000 := by
    unfold wrM
    split
    · next q => exact mlT_w (fitM_len q).2.2.2
    · exact Nat.zero_le _
  have nf := h.nf
  have nv := h.nv
  generalize wrM f v l = S1 at hW1 heq hbk hlen
  generalize wrM g u m = S2 at hW2 heq
  generalize eqM f v l g u m = q0 at hS heq
  generalize fitM g u m = b2 at hF2 heq
  obtain ⟨b1, hb1⟩ : ∃ b, fitM f v l = b := ⟨_, rfl⟩
  rw [hb1] at hF1 heq hbk
  obtain ⟨p1, n1, a1, t1⟩ := f
  obtain ⟨p2, n2, a2, t2⟩ := g
  obtain ⟨u1, c1, d1, x1⟩ := v
  obtain ⟨u2, c2, d2, x2⟩ := u
  simp only [] at hE1 hE2 hF1 hF2 hW1 hW2 hS hR
  clear h k
  refine inQ (J := Below w.heap.size w) (F := (· < w.heap.size)) Tryz.func4 (Below.refl _ _) fun a I => ?_
  refine goQ [] (nonR w) I fun β a w1 I hb => ?_
  refine bcall [Sum.inl (.agg #[.slice adp p1.length capp, B n1, .string a1, Z t1, B u1, .bool c1, .string d1, .slice ade x1.length cape, .slice ads l.length caps])] Tryz.func6 (nonR w) I _ (hE1 w1 I.hJ) fun v' w2 hv' I => ?_
  rcases hv' with rfl | ⟨rfl, few1⟩
  · refine goQ [uO .not (p := .bool false) (v := .bool true) (by intros; rfl), kC Tryz.func7 mawake_any] (nonR w) I fun β6 a6 w6 I hb6 => ?_
    exact outQ (v := .bool true) I ⟨rfl, I.hJ⟩
  refine goQ [uO .not (p := .bool true) (v := .bool false) (by intros; rfl)] (nonR w) I fun β a w1 I hb => ?_
  refine bcall [Sum.inl (.agg #[.slice adq p2.length capq, B n2, .string a2, Z t2, B u2, .bool c2, .string d2, .slice adf x2.length capf, .slice adt m.length capt])] Tryz.func6 (nonR w) I _ (hE2 w1 I.hJ) fun v' w2 hv' I => ?_
  rcases hv' with rfl | ⟨rfl, few2⟩
  · refine goQ [uO .not (p := .bool false) (v := .bool true) (by intros; rfl), kC Tryz.func7 mawake_any] (nonR w) I fun β6 a6 w6 I hb6 => ?_
    exact outQ (v := .bool true) I ⟨rfl, I.hJ⟩
  have hF1 := hF1 few1
  have hF2 := hF2 few2
  have hW1 := hW1 few1
  have hW2 := hW2 few2
  have hS := hS few1 few2
  have hR := hR few1
  cases b1
  · refine goT (T := Below w.heap.size w) [uO .not (p := .bool true) (v := .bool false) (by intros; rfl), cA Tryz.func11 hF1, uO .not (p := .bool false) (v := .bool true) (by intros; rfl), kC Tryz.func7 mawake_any] (nonR w) (fun _ h => h) I fun β6 a6 w6 I hb6 => ?_
    exact outQ (v := .bool true) I ⟨rfl, I.hJ⟩
  have heq := heq rfl
  have hbk := hbk rfl
  refine goT (T := Below w.heap.size w) [uO .not (p := .bool true) (v := .bool false) (by intros; rfl), cA Tryz.func11 hF1, uO .not (p := .bool true) (v := .bool false) (by intros; rfl), cA Tryz.func12 hW1] (nonR w) (fun _ h => h) I fun β6 a6 w6 I6 hb6 => ?_
  refine mcall (ss := [Sum.inl (str S1)]) Tryz.func8 I6 ?_
  refine (mread_any S1 (by omega) w6).mono fun e y1 he => ?_
  obtain ⟨hb1', he⟩ := he
  have hsz6 := I6.hJ.size
  rcases he with ⟨f', v', l', adp', capp', ade', cape', ads', caps', K, hm, rfl, hcp, hMK⟩ | ⟨hm, rfl⟩
  case inr => rw [hbk] at hm; cases hm
  rw [hbk] at hm
  cases hm
  simp only [] at hcp hMK
  have I7 : SI (fun w' => Below w.heap.size w w' ∧ MlK K w6.heap.size (.slice adp' p1.length capp') (.slice ade' x1.length cape') (.slice ads' l.length caps') (p1, n1, a1, t1) (u1, c1, d1, x1) l w') (fun k => k < w.heap.size ∨ K k) [] β6 _ _ y1 := I6.moved (Grow.of_below hb1') ⟨I6.hJ.trans (hb1'.mono hsz6), hMK⟩ (fun k hk h => by
    rcases h with h | h
    · exact h
    · have := (hMK.kb k h).1; omega) (.tuple #[.agg #[.slice adp' p1.length capp', B n1, .string a1, Z t1, B u1, .bool c1, .string d1, .slice ade' x1.length cape', .slice ads' l.length caps'], Z 0])
  have R7 := (nonR w).both (MlK.rs K w6.heap.size (.slice adp' p1.length capp') (.slice ade' x1.length cape') (.slice ads' l.length caps') (p1, n1, a1, t1) (u1, c1, d1, x1) l)
  have ln : l.length < 100000000 := by have := few1.2.1; omega
  have ok : okX x1 := few1.2.2
  have hR' : ∀ w', (Below w.heap.size w w' ∧ MlK K w6.heap.size (.slice adp' p1.length capp') (.slice ade' x1.length cape') (.slice ads' l.length caps') (p1, n1, a1, t1) (u1, c1, d1, x1) l w') → _ := fun w' h => hR adp' ade' ads' capp' cape' caps' w' h.1 (h.2.mli hcp nf nv ok ln)
  refine goQ [] R7 I7 fun β8 a8 w8 I8 hb8 => ?_
  cases b2
  · refine dwT (T := (fun w' => Below w.heap.size w w' ∧ MlK K w6.heap.size (.slice adp' p1.length capp') (.slice ade' x1.length cape') (.slice ads' l.length caps') (p1, n1, a1, t1) (u1, c1, d1, x1) l w')) 26 [bO .eql 36 (eqE_run 0 0 (q := true) rfl), cA Tryz.func15 hR', cA Tryz.func11 (fun w' h => hF2 w' h.1), uO .not (p := .bool false) (v := .bool true) (by intros; rfl), kC Tryz.func7 mawake_any] R7 (fun _ h => h) PanOk.post I8 fun a9 w9 I9 => ?_
    refine goQ [] R7 I9 fun β10 a10 w10 I10 hb10 => ?_
    exact outQ (v := .bool true) I10 ⟨rfl, I10.hJ.1⟩
  · refine dwT (T := (fun w' => Below w.heap.size w w' ∧ MlK K w6.heap.size (.slice adp' p1.length capp') (.slice ade' x1.length cape') (.slice ads' l.length caps') (p1, n1, a1, t1) (u1, c1, d1, x1) l w')) 26 [bO .eql 36 (eqE_run 0 0 (q := true) rfl), cA Tryz.func15 hR', cA Tryz.func11 (fun w' h => hF2 w' h.1), uO .not (p := .bool true) (v := .bool false) (by intros; rfl), cA Tryz.func12 (fun w' h => hW1 w' h.1), cA Tryz.func12 (fun w' h => hW2 w' h.1), bO .eql 9 (eqT_run (a := ⟨S1.toArray⟩) (b := ⟨S2.toArray⟩) (q := q0) (heq rfl)), cA Tryz.func15 (fun w' h => hS w' h.1), bO .eql 4 (run_eqlB (x := q0) (y := q0) (b := true) (decide_eq_true rfl)), kC Tryz.func7 mawake_any] R7 (fun _ h => h) PanOk.post I8 fun a9 w9 I9 => ?_
    refine goQ [] R7 I9 fun β10 a10 w10 I10 hb10 => ?_
    exact outQ (v := .bool true) I10 ⟨rfl, I10.hJ.1⟩
end Go.Proofs.YtdeompgdhaomgaaGreatDoor
