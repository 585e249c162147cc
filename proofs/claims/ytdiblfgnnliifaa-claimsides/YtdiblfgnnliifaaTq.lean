/- ClaimKeeps: nothing is lost. -/
import Derived.Test.YtdiblfgnnliifaaTo
namespace Go.Proofs.Ytdiblfgnnliifaa
open Go.RowKit Go.Sort
set_option linter.unusedVariables false
set_option maxRecDepth 100000
/-- What ends what is bound: who takes part, where it is not refused. -/
theorem rc_ok {l s : List Al} {k : Int} (h : rcE l k s = 0) : ∃ (i : Nat) (x y0 y1 : Al), k = i ∧ l[i]? = some x ∧ x.2.2.1 = 1 ∧ s = [y0, y1] ∧ y0.2.1 + y1.2.1 = x.2.1 ∧ pl l x.2.2.2.1 < l.length ∧ pl l x.2.2.2.2 < l.length ∧ rcL l k s = (sdL l (pl l x.2.2.2.1) (pl l x.2.2.2.2) y0.2.1 y1.2.1).eraseIdx i := by
  have hf : rfE l k s = 0 := by
    unfold rcE at h
    by_cases q : rfE l k s = 0
    · exact q
    · rw [if_pos q] at h; exact absurd h q
  obtain ⟨i, x, y0, y1, rfl, hx, hk, rfl, hn0, hn1, hlt, hsum⟩ := rf_zero hf
  have hL := h
  unfold rcE at h
  rw [if_neg (fun q => q hf), Int.toNat_natCast] at h
  unfold lfD rgD at h
  rw [getD_is hx] at h
  have e0 : am [y0, y1] 0 = y0.2.1 := rfl
  have e1 : am [y0, y1] 1 = y1.2.1 := rfl
  rw [e0, e1] at h
  have hp : ¬ (l.length ≤ pl l x.2.2.2.1 ∨ l.length ≤ pl l x.2.2.2.2) := fun q => by
    unfold sdE at h
    rw [if_pos q] at h; cases h
  refine ⟨i, x, y0, y1, rfl, hx, hk, rfl, hsum, by omega, by omega, ?_⟩
  unfold rcL
  rw [if_neg (fun q => q hL), Int.toNat_natCast]
  unfold lfD rgD
  rw [getD_is hx, e0, e1]
theorem sdL_len (l : List Al) (p q a b : Nat) : (sdL l p q a b).length = l.length := by unfold sdL; rw [stA_len, stA_len]
theorem rcL_len (l : List Al) (k : Int) (s : List Al) : (rcL l k s).length ≤ l.length := by
  unfold rcL
  split
  · exact Nat.le_refl _
  · rw [List.length_eraseIdx, sdL_len]
    split <;> omega
theorem bdR_len (l : List Al) (ch : ByteArray) (i j : Int) (a b : Nat) : (bdR l ch i j a b).length ≤ l.length + 1 := by
  unfold bdR
  split
  · omega
  · unfold bdL
    rw [List.length_append, stA_len, stA_len]
    exact Nat.le_refl _
theorem pl_ne {l : List Al} {i : Nat} {x : Al} {d : ByteArray} (hx : l[i]? = some x) (hk : x.2.2.1 = 1) (h : pl l d < l.length) : pl l d ≠ i := fun e => by
  obtain ⟨y, h1, h2⟩ := ix_get (plP d) l h
  rw [show ixN (plP d) l = i from e, hx] at h1
  cases h1
  unfold plP at h2
  rw [hk] at h2
  cases h2
theorem sdL_tot {l : List Al} {p q a b : Nat} (hp : p < l.length) (hq : q < l.length) : tot (sdL l p q a b) = tot l + a + b := by
  have h1 := tot_st l p (am l p + a) hp
  have h2 := tot_st (stA l p (am l p + a)) q (am (stA l p (am l p + a)) q + b) (by rw [stA_len]; exact hq)
  show tot (stA (stA l p (am l p + a)) q (am (stA l p (am l p + a)) q + b)) = _
  omega
theorem rcL_tot (l s : List Al) (k : Int) : tot (rcL l k s) = tot l := by
  by_cases h : rcE l k s = 0
  · obtain ⟨i, x, y0, y1, rfl, hx, hk, rfl, hsum, hp, hq, e⟩ := rc_ok h
    rw [e]
    have hil := (List.getElem?_eq_some_iff.1 hx).1
    have h1 := sdL_tot (a := y0.2.1) (b := y1.2.1) hp hq
    have h2 := tot_er (sdL l (pl l x.2.2.2.1) (pl l x.2.2.2.2) y0.2.1 y1.2.1) i (by rw [sdL_len]; exact hil)
    have h3 : am (sdL l (pl l x.2.2.2.1) (pl l x.2.2.2.2) y0.2.1 y1.2.1) i = x.2.1 := by
      unfold sdL
      rw [am_st, if_neg (fun h => pl_ne hx hk hq h.1), am_st, if_neg (fun h => pl_ne hx hk hp h.1), am_is hx]
    omega
  · unfold rcL
    rw [if_pos h]
theorem rcL_len0 {l s : List Al} {k : Int} (h : rcE l k s = 0) : 0 < l.length ∧ (rcL l k s).length = l.length - 1 := by
  obtain ⟨i, x, y0, y1, rfl, hx, hk, rfl, hsum, hp, hq, e⟩ := rc_ok h
  have hil := (List.getElem?_eq_some_iff.1 hx).1
  rw [e, List.length_eraseIdx, sdL_len, if_pos hil]
  exact ⟨by omega, rfl⟩
/-- What is bound, where it is not refused. -/
theorem bd_ok {l : List Al} {n a b : Nat} {i j : Int} (h : bdE l n i j a b = 0) : ∃ ni nj : Nat, i = ni ∧ j = nj ∧ ni < l.length ∧ nj < l.length ∧ ni ≠ nj ∧ n = 32 ∧ kdP l ni = false ∧ kdP l nj = false ∧ a ≤ am l ni ∧ b ≤ am l nj ∧ a + b < W ∧ l.length < 8 := by
  unfold bdE at h
  by_cases q1 : isP l i = false ∨ isP l j = false ∨ i = j
  · rw [if_pos q1] at h; cases h
  rw [if_neg q1] at h
  by_cases q2 : n ≠ 32 ∨ kdP l i = true ∨ kdP l j = true
  · rw [if_pos q2] at h; cases h
  rw [if_neg q2] at h
  by_cases q3 : am l i.toNat < a ∨ am l j.toNat < b
  · rw [if_pos q3] at h; cases h
  rw [if_neg q3] at h
  by_cases q4 : W ≤ a + b
  · rw [if_pos q4] at h; cases h
  rw [if_neg q4] at h
  by_cases q5 : 8 ≤ l.length
  · rw [if_pos q5] at h; cases h
  obtain ⟨ni, rfl, hil⟩ := isP_nat (l := l) (k := i) (by
    cases hq : isP l i with
    | true => rfl
    | false => exact absurd (.inl hq) q1)
  obtain ⟨nj, rfl, hjl⟩ := isP_nat (l := l) (k := j) (by
    cases hq : isP l j with
    | true => rfl
    | false => exact absurd (.inr (.inl hq)) q1)
  rw [Int.toNat_natCast, Int.toNat_natCast] at q3
  refine ⟨ni, nj, rfl, rfl, hil, hjl, fun e => q1 (.inr (.inr (by rw [e]))), Classical.not_not.1 fun e => q2 (.inl e), ?_, ?_, by omega, by omega, by omega, by omega⟩
  · cases hq : kdP l ni with
    | false => rfl
    | true => exact absurd (.inr (.inl hq)) q2
  · cases hq : kdP l nj with
    | false => rfl
    | true => exact absurd (.inr (.inr hq)) q2
theorem bdR_is {l : List Al} {ch : ByteArray} {a b ni nj : Nat} (h : bdE l ch.size ni nj a b = 0) : bdR l ch ni nj a b = bdM l ni nj a b ++ [(ch, a + b, 1, (l.getD ni aD).1, (l.getD nj aD).1)] := by
  unfold bdR
  rw [if_neg (fun q => q h), Int.toNat_natCast, Int.toNat_natCast]
  rfl
theorem bdR_tot (l : List Al) (ch : ByteArray) (i j : Int) (a b : Nat) : tot (bdR l ch i j a b) = tot l := by
  by_cases h : bdE l ch.size i j a b = 0
  · obtain ⟨ni, nj, rfl, rfl, hi, hj, hne, _, _, _, ha, hb, _, _⟩ := bd_ok h
    rw [bdR_is h, tot_app]
    have h1 := tot_st l ni (am l ni - a) hi
    have h2 := tot_st (stA l ni (am l ni - a)) nj (am l nj - b) (by rw [stA_len]; exact hj)
    have h3 : am (stA l ni (am l ni - a)) nj = am l nj := by rw [am_st, if_neg (fun h => hne h.1)]
    have h4 : tot [(ch, a + b, 1, (l.getD ni aD).1, (l.getD nj aD).1)] = a + b := by simp [tot]
    rw [h4]
    show tot (stA (stA l ni (am l ni - a)) nj (am l nj - b)) + (a + b) = tot l
    omega
  · unfold bdR
    rw [if_pos h]
theorem bdR_len0 {l : List Al} {ch : ByteArray} {i j : Int} {a b : Nat} (h : bdE l ch.size i j a b = 0) : (bdR l ch i j a b).length = l.length + 1 := by
  obtain ⟨ni, nj, rfl, rfl, _⟩ := bd_ok h
  rw [bdR_is h, List.length_append, stA_len, stA_len]
  rfl
set_option maxHeartbeats 8000000 in
theorem keeps_walk {w : World} {v vs : Value} {l s : List Al} {ch : ByteArray} {k i j : Int} {a b : Nat} (hv : AlI w v l) (hs : AlI w vs s) (ha : a < W) (hb : b < W) : Calls Try.prog 4 #[v, Z k, vs, .string ch, Z i, Z j, U a, U b] w fun e w' => e = .returned (.bool true) ∧ Below w.heap.size w w' := by
  have haw := awake_any
  have hfl := fun (ad : Option Addr) (cap : Nat) (w' : World) => few_any (w := w') ad cap l
  have hfs := fun (ad : Option Addr) (cap : Nat) (w' : World) => few_any (w := w') ad cap s
  obtain ⟨ad, cap, hv0⟩ := hv.slice
  obtain ⟨ads, caps, hs0⟩ := hs.slice
  subst hv0 hs0
  refine inQ (J := GS w w w.heap.size noK (· < w.heap.size) [alF (.slice ad l.length cap) l, alF (.slice ads s.length caps) s] []) (F := GF noK (· < w.heap.size) []) Try.func4 (GS.start w fun f hf => by
    rcases List.mem_cons.1 hf with rfl | hf
    · exact hv
    · rw [List.mem_singleton.1 hf]; exact hs) fun ac I => ?_
  by_cases q1 : l.length ≤ 60
  case neg =>
    rw [decide_eq_false q1] at hfl
    refine goQ [kC Try.func7 (hfl ad cap), ntO false, kC Try.func8 haw] (GS.rsr _ _ _ _ _ _ _) I fun β1 a1 w1 I hb1 => ?_
    exact outQ (v := .bool true) I ⟨rfl, I.hJ.bw⟩
  rw [decide_eq_true q1] at hfl
  by_cases q2 : s.length ≤ 60
  case neg =>
    rw [decide_eq_false q2] at hfs
    refine goQ [kC Try.func7 (hfl ad cap), ntO true, kC Try.func7 (hfs ads caps), ntO false, kC Try.func8 haw] (GS.rsr _ _ _ _ _ _ _) I fun β1 a1 w1 I hb1 => ?_
    exact outQ (v := .bool true) I ⟨rfl, I.hJ.bw⟩
  rw [decide_eq_true q2] at hfs
  refine goQ [kC Try.func7 (hfl ad cap), ntO true, kC Try.func7 (hfs ads caps), ntO true] (GS.rsr _ _ _ _ _ _ _) I fun β1 a1 w1 I hb1 => ?_
  refine mcall (f := 9) (ss := [Sum.inl (.slice ad l.length cap), Sum.inl (Z k), Sum.inl (.slice ads s.length caps)]) Try.func9 I ((reclaim_any (I.hJ.al (i := 0) rfl) (I.hJ.al (i := 1) rfl) (by omega) (by omega) k).mono fun e w2 he => ?_)
  obtain ⟨v1, rfl, hn⟩ := he
  obtain ⟨K2, I⟩ := I.gs hn (.tuple #[v1, Z (rcE l k s)])
  refine goQ [] (GS.rsr _ _ _ _ _ _ _) I fun β5 a5 w5 I hb5 => ?_
  refine mcall (f := 11) (ss := [Sum.inl (.slice ad l.length cap), Sum.inl (.string ch), Sum.inl (Z i), Sum.inl (Z j), Sum.inl (U a), Sum.inl (U b)]) Try.func11 I ((bind_any (I.hJ.al (i := 1) rfl) (by omega) ch i j ha hb).mono fun e w6 he => ?_)
  obtain ⟨v3, rfl, hn⟩ := he
  obtain ⟨K8, I⟩ := I.gs hn (.tuple #[v3, Z (bdE l ch.size i j a b)])
  have hl1 : (rcL l k s).length < 1000000000 := by
    have h := rcL_len l k s
    omega
  have hl2 : (bdR l ch i j a b).length < 1000000000 := by
    have h := bdR_len l ch i j a b
    omega
  have ht1 := rcL_tot l s k
  have ht2 := bdR_tot l ch i j a b
  have hn1 : rcE l k s = 0 → 0 < l.length ∧ (rcL l k s).length = l.length - 1 := rcL_len0
  have hn2 : bdE l ch.size i j a b = 0 → (bdR l ch i j a b).length = l.length + 1 := bdR_len0
  have he1 : rcE l k s ≠ 0 → rcL l k s = l := fun h => by unfold rcL; rw [if_pos h]
  have he2 : bdE l ch.size i j a b ≠ 0 → bdR l ch i j a b = l := fun h => by unfold bdR; rw [if_pos h]
  generalize rcL l k s = L1 at *
  generalize bdR l ch i j a b = L2 at *
  generalize rcE l k s = E1 at *
  generalize bdE l ch.size i j a b = E2 at *
  obtain ⟨d1, c1, hv1⟩ := (I.hJ.al (i := 1) (v := v1) (l := L1) rfl).slice
  subst hv1
  obtain ⟨d3, c3, hv3⟩ := (I.hJ.al (i := 0) (v := v3) (l := L2) rfl).slice
  subst hv3
  have hT0 := fun (w' : World) (hw : GS w w w.heap.size noK K8 ([alF (.slice d3 L2.length c3) L2] ++ ([alF (.slice d1 L1.length c1) L1] ++ [alF (.slice ad l.length cap) l, alF (.slice ads s.length caps) s])) [] w') => total_any (hw.al (i := 2) (v := .slice ad l.length cap) (l := l) rfl) (by omega)
  have hT1 := fun (w' : World) (hw : GS w w w.heap.size noK K8 ([alF (.slice d3 L2.length c3) L2] ++ ([alF (.slice d1 L1.length c1) L1] ++ [alF (.slice ad l.length cap) l, alF (.slice ads s.length caps) s])) [] w') => total_any (hw.al (i := 1) (v := .slice d1 L1.length c1) (l := L1) rfl) hl1
  have hT2 := fun (w' : World) (hw : GS w w w.heap.size noK K8 ([alF (.slice d3 L2.length c3) L2] ++ ([alF (.slice d1 L1.length c1) L1] ++ [alF (.slice ad l.length cap) l, alF (.slice ads s.length caps) s])) [] w') => total_any (hw.al (i := 0) (v := .slice d3 L2.length c3) (l := L2) rfl) hl2
  rw [ht1] at hT1
  rw [ht2] at hT2
  obtain ⟨tt, htt⟩ : ∃ t, tot l % W = t := ⟨_, rfl⟩
  have htW : tt < W := by rw [← htt]; exact Nat.mod_lt _ W_pos
  rw [htt] at hT0 hT1 hT2
  clear hn
  by_cases z1 : E1 = 0
  · by_cases z2 : E2 = 0
    · have hm1 := hn1 z1
      have hm2 := hn2 z2
      refine goT (T := GS w w w.heap.size noK K8 ([alF (.slice d3 L2.length c3) L2] ++ ([alF (.slice d1 L1.length c1) L1] ++ [alF (.slice ad l.length cap) l, alF (.slice ads s.length caps) s])) []) [bO .eql 28 (run_eqE (x := E1) (y := 0) (b := true) (decide_eq_true z1)), lnA d1 L1.length c1, lnA ad l.length cap, bO .sub 3 (run_subZ (x := l.length) (y := 1) (z := L1.length) (by rw [wz (by omega) (by omega)]; omega)), bO .neq 3 (run_neqZ (x := L1.length) (y := L1.length) (b := false) (decide_eq_false (fun h => h rfl))), bO .eql 28 (run_eqE (x := E2) (y := 0) (b := true) (decide_eq_true z2)), lnA d3 L2.length c3, lnA ad l.length cap, bO .add 3 (run_addZ (x := l.length) (y := 1) (z := L2.length) (by rw [wz (by omega) (by omega)]; omega)), bO .neq 3 (run_neqZ (x := L2.length) (y := L2.length) (b := false) (decide_eq_false (fun h => h rfl))), cA Try.func14 hT1, cA Try.func14 hT0, bO .eql 25 (eqU_run (n := tt) (m := tt) htW htW (b := true) (decide_eq_true rfl)), cA Try.func14 hT2, cA Try.func14 hT0, bO .eql 25 (eqU_run (n := tt) (m := tt) htW htW (b := true) (decide_eq_true rfl)), bO .eql 28 (run_eqE (x := E1) (y := 0) (b := true) (decide_eq_true z1)), bO .eql 28 (run_eqE (x := E2) (y := 0) (b := true) (decide_eq_true z2)), kC Try.func8 haw] (GS.rsr _ _ _ _ _ _ _) (fun _ h => h) I fun β9 a9 w9 I hb9 => ?_
      exact outQ (v := .bool true) I ⟨rfl, I.hJ.bw⟩
    · have hm1 := hn1 z1
      have hS2 := fun (w' : World) (hw : GS w w w.heap.size noK K8 ([alF (.slice d3 L2.length c3) L2] ++ ([alF (.slice d1 L1.length c1) L1] ++ [alF (.slice ad l.length cap) l, alF (.slice ads s.length caps) s])) [] w') => same_any (hw.al (i := 0) (v := .slice d3 L2.length c3) (l := L2) rfl) (hw.al (i := 2) (v := .slice ad l.length cap) (l := l) rfl) hl2
      rw [decide_eq_true (he2 z2)] at hS2
      refine goT (T := GS w w w.heap.size noK K8 ([alF (.slice d3 L2.length c3) L2] ++ ([alF (.slice d1 L1.length c1) L1] ++ [alF (.slice ad l.length cap) l, alF (.slice ads s.length caps) s])) []) [bO .eql 28 (run_eqE (x := E1) (y := 0) (b := true) (decide_eq_true z1)), lnA d1 L1.length c1, lnA ad l.length cap, bO .sub 3 (run_subZ (x := l.length) (y := 1) (z := L1.length) (by rw [wz (by omega) (by omega)]; omega)), bO .neq 3 (run_neqZ (x := L1.length) (y := L1.length) (b := false) (decide_eq_false (fun h => h rfl))), bO .eql 28 (run_eqE (x := E2) (y := 0) (b := false) (decide_eq_false z2)), cA Try.func14 hT1, cA Try.func14 hT0, bO .eql 25 (eqU_run (n := tt) (m := tt) htW htW (b := true) (decide_eq_true rfl)), cA Try.func14 hT2, cA Try.func14 hT0, bO .eql 25 (eqU_run (n := tt) (m := tt) htW htW (b := true) (decide_eq_true rfl)), bO .eql 28 (run_eqE (x := E1) (y := 0) (b := true) (decide_eq_true z1)), bO .eql 28 (run_eqE (x := E2) (y := 0) (b := false) (decide_eq_false z2)), cA Try.func13 hS2, kC Try.func8 haw] (GS.rsr _ _ _ _ _ _ _) (fun _ h => h) I fun β9 a9 w9 I hb9 => ?_
      exact outQ (v := .bool true) I ⟨rfl, I.hJ.bw⟩
  · by_cases z2 : E2 = 0
    · have hm2 := hn2 z2
      have hS1 := fun (w' : World) (hw : GS w w w.heap.size noK K8 ([alF (.slice d3 L2.length c3) L2] ++ ([alF (.slice d1 L1.length c1) L1] ++ [alF (.slice ad l.length cap) l, alF (.slice ads s.length caps) s])) [] w') => same_any (hw.al (i := 1) (v := .slice d1 L1.length c1) (l := L1) rfl) (hw.al (i := 2) (v := .slice ad l.length cap) (l := l) rfl) hl1
      rw [decide_eq_true (he1 z1)] at hS1
      refine goT (T := GS w w w.heap.size noK K8 ([alF (.slice d3 L2.length c3) L2] ++ ([alF (.slice d1 L1.length c1) L1] ++ [alF (.slice ad l.length cap) l, alF (.slice ads s.length caps) s])) []) [bO .eql 28 (run_eqE (x := E1) (y := 0) (b := false) (decide_eq_false z1)), bO .eql 28 (run_eqE (x := E2) (y := 0) (b := true) (decide_eq_true z2)), lnA d3 L2.length c3, lnA ad l.length cap, bO .add 3 (run_addZ (x := l.length) (y := 1) (z := L2.length) (by rw [wz (by omega) (by omega)]; omega)), bO .neq 3 (run_neqZ (x := L2.length) (y := L2.length) (b := false) (decide_eq_false (fun h => h rfl))), cA Try.func14 hT1, cA Try.func14 hT0, bO .eql 25 (eqU_run (n := tt) (m := tt) htW htW (b := true) (decide_eq_true rfl)), cA Try.func14 hT2, cA Try.func14 hT0, bO .eql 25 (eqU_run (n := tt) (m := tt) htW htW (b := true) (decide_eq_true rfl)), bO .eql 28 (run_eqE (x := E1) (y := 0) (b := false) (decide_eq_false z1)), cA Try.func13 hS1, bO .eql 28 (run_eqE (x := E2) (y := 0) (b := true) (decide_eq_true z2)), kC Try.func8 haw] (GS.rsr _ _ _ _ _ _ _) (fun _ h => h) I fun β9 a9 w9 I hb9 => ?_
      exact outQ (v := .bool true) I ⟨rfl, I.hJ.bw⟩
    · have hS1 := fun (w' : World) (hw : GS w w w.heap.size noK K8 ([alF (.slice d3 L2.length c3) L2] ++ ([alF (.slice d1 L1.length c1) L1] ++ [alF (.slice ad l.length cap) l, alF (.slice ads s.length caps) s])) [] w') => same_any (hw.al (i := 1) (v := .slice d1 L1.length c1) (l := L1) rfl) (hw.al (i := 2) (v := .slice ad l.length cap) (l := l) rfl) hl1
      rw [decide_eq_true (he1 z1)] at hS1
      have hS2 := fun (w' : World) (hw : GS w w w.heap.size noK K8 ([alF (.slice d3 L2.length c3) L2] ++ ([alF (.slice d1 L1.length c1) L1] ++ [alF (.slice ad l.length cap) l, alF (.slice ads s.length caps) s])) [] w') => same_any (hw.al (i := 0) (v := .slice d3 L2.length c3) (l := L2) rfl) (hw.al (i := 2) (v := .slice ad l.length cap) (l := l) rfl) hl2
      rw [decide_eq_true (he2 z2)] at hS2
      refine goT (T := GS w w w.heap.size noK K8 ([alF (.slice d3 L2.length c3) L2] ++ ([alF (.slice d1 L1.length c1) L1] ++ [alF (.slice ad l.length cap) l, alF (.slice ads s.length caps) s])) []) [bO .eql 28 (run_eqE (x := E1) (y := 0) (b := false) (decide_eq_false z1)), bO .eql 28 (run_eqE (x := E2) (y := 0) (b := false) (decide_eq_false z2)), cA Try.func14 hT1, cA Try.func14 hT0, bO .eql 25 (eqU_run (n := tt) (m := tt) htW htW (b := true) (decide_eq_true rfl)), cA Try.func14 hT2, cA Try.func14 hT0, bO .eql 25 (eqU_run (n := tt) (m := tt) htW htW (b := true) (decide_eq_true rfl)), bO .eql 28 (run_eqE (x := E1) (y := 0) (b := false) (decide_eq_false z1)), cA Try.func13 hS1, bO .eql 28 (run_eqE (x := E2) (y := 0) (b := false) (decide_eq_false z2)), cA Try.func13 hS2, kC Try.func8 haw] (GS.rsr _ _ _ _ _ _ _) (fun _ h => h) I fun β9 a9 w9 I hb9 => ?_
      exact outQ (v := .bool true) I ⟨rfl, I.hJ.bw⟩
end Go.Proofs.Ytdiblfgnnliifaa
