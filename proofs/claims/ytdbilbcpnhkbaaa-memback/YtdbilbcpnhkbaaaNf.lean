/- Memories that grow: the program. -/
import Derived.Test.YtdbilbcpnhkbaaaNe
namespace Go.Proofs.Ytdbilbcpnhkbaaa
open Go.RowKit Go.Sort Go.Shelf
set_option linter.unusedVariables false
set_option maxRecDepth 100000
theorem eqU_run {n m : Nat} (hn : n < W) (hm : m < W) {b : Bool} (h : decide (n = m) = b) (x y : Operand) (w : World) : (do eqGuard .eql 24 x y (U n) (U m); binOp .eql 24 (U n) (U m) : Sem Value).run Try.prog w = .ok (.bool b) w := by
  have he := run_eqU n m hn hm w
  rw [h] at he
  have hg : (eqGuard .eql 24 x y (U n) (U m)).run Try.prog w = .ok () w := by
    unfold eqGuard
    simp [go_sem]
  simp only [Sem.run_bind, hg, Result.andThen_ok]
  unfold binOp Op.equal
  simp only [Sem.run_bind]
  rw [show Op.maxDepth = 10000 from rfl, he]
  rfl
def growV (m : List UInt8) (a n : Nat) : List UInt8 × Int × Int :=
  if n = 0 then (m, 0, 0) else if 4096 < a + n then (m, 0, 3) else (fil m (32 * (wds ((a + n : Nat) : Int)).toNat), cst (wds ((fil m (32 * (wds ((a + n : Nat) : Int)).toNat)).length : Int)) - cst (wds (m.length : Int)), 0)
theorem U0 : U 0 = U4 0 0 0 0 := rfl
theorem fil_ge (s : List UInt8) (n : Nat) (h : n ≤ s.length) : fil s n = s := by unfold fil; rw [Nat.sub_eq_zero_of_le h]; simp
theorem wds_bd {n : Int} (h0 : 0 ≤ n) (h1 : n ≤ 1000000) : 0 ≤ wds n ∧ wds n ≤ 31250 ∧ n ≤ 32 * wds n ∧ 32 * wds n < n + 32 := by unfold wds; split <;> omega
set_option maxHeartbeats 4000000 in
theorem grow_any (m : List UInt8) (hm : m.length ≤ 900000) (x n : Nat) (hx : x < W) (hn : n < W) (w : World) : Calls Try.prog 9 #[str m, U x, U n] w fun e w' => e = .returned (.tuple #[str (growV m x n).1, Z (growV m x n).2.1, Z (growV m x n).2.2]) ∧ Below w.heap.size w w' := by
  have hM := M_big
  have hW := M_W
  have heq := fun b h => eqU_run hn (show 0 < W by omega) (b := b) h
  have hadd := add_any x n hx hn
  have hs : x + n < W → addW x n = x + n := fun h => Nat.mod_eq_of_lt h
  have hlt := addW_lt x n
  have hcmp := cmp_any (addW x n) 4096 hlt (by omega)
  rw [U_small 4096 (by omega)] at hcmp
  have hof := of_any 4096
  rw [U0] at heq
  have hov : ovW x n = decide (W ≤ x + n) := rfl
  have hsm : addW x n < M → l0 (addW x n) = addW x n := fun h => (of_parts _ h).1
  generalize ovW x n = ov at *
  have hcv : cmpN (addW x n) 4096 = if addW x n < 4096 then -1 else if 4096 < addW x n then 1 else 0 := rfl
  generalize cmpN (addW x n) 4096 = cv at *
  unfold U at hadd hcmp heq ⊢
  generalize l0 (addW x n) = s0 at *
  generalize l1 (addW x n) = s1 at *
  generalize l2 (addW x n) = s2 at *
  generalize l3 (addW x n) = s3 at *
  generalize addW x n = s at *
  generalize l0 n = n0 at *
  generalize l1 n = n1 at *
  generalize l2 n = n2 at *
  generalize l3 n = n3 at *
  generalize l0 x = x0 at *
  generalize l1 x = x1 at *
  generalize l2 x = x2 at *
  generalize l3 x = x3 at *
  refine inQ (J := Below w.heap.size w) (F := (· < w.heap.size)) Try.func9 (Below.refl _ _) fun a I => ?_
  by_cases h0 : n = 0
  · refine goQ [dO 24 [] bd24_0, bO .eql 24 (heq true (decide_eq_true h0))] (nonR w) I fun β a w1 I1 hb => ?_
    exact outQ (v := .tuple #[str m, Z 0, Z 0]) I1 ⟨by unfold growV; rw [if_pos h0], I1.hJ⟩
  refine goQ [dO 24 [] bd24_0, bO .eql 24 (heq false (decide_eq_false h0)), kC Try.func19 hadd] (nonR w) I fun β a w1 I1 hb => ?_
  by_cases h1 : W ≤ x + n
  · rw [decide_eq_true h1] at hov
    subst hov
    refine dwQ 7 [] (nonR w) PanOk.post I1 fun a2 w2 I2 => ?_
    refine goQ [] (nonR w) I2 fun β a w3 I3 hb => ?_
    exact outQ (v := .tuple #[str m, Z 0, Z 3]) I3 ⟨by unfold growV; rw [if_neg h0, if_pos (by omega)], I3.hJ⟩
  rw [decide_eq_false h1] at hov
  subst hov
  obtain rfl := hs (by omega)
  by_cases h2 : 4096 < x + n
  · refine dwQ 7 [kC Try.func21 hof, kC Try.func20 hcmp, bO .gtr 3 (run_gtrZ (x := cv) (y := 0) (b := true) (by rw [hcv, if_neg (by omega), if_pos h2]; rfl))] (nonR w) PanOk.post I1 fun a2 w2 I2 => ?_
    refine goQ [] (nonR w) I2 fun β a w3 I3 hb => ?_
    exact outQ (v := .tuple #[str m, Z 0, Z 3]) I3 ⟨by unfold growV; rw [if_neg h0, if_pos h2], I3.hJ⟩
  refine dwQ 7 [kC Try.func21 hof, kC Try.func20 hcmp, bO .gtr 3 (run_gtrZ (x := cv) (y := 0) (b := false) (by rw [hcv, if_neg h2]; split <;> rfl))] (nonR w) PanOk.post I1 fun a2 w2 I2 => ?_
  obtain rfl := hsm (by omega)
  have e : growV m x n = (fil m (32 * (wds ((x + n : Nat) : Int)).toNat), cst (wds ((fil m (32 * (wds ((x + n : Nat) : Int)).toNat)).length : Int)) - cst (wds (m.length : Int)), 0) := by unfold growV; rw [if_neg h0, if_neg h2]
  rw [e]
  have hwm := words_any m.length (by omega) (by omega)
  have hws := words_any ((x + n : Nat) : Int) (by omega) (by omega)
  have hbw := wds_bd (n := ((x + n : Nat) : Int)) (by omega) (by omega)
  generalize wds (m.length : Int) = wm at *
  obtain ⟨wk, hwk⟩ : ∃ k : Nat, wds ((x + n : Nat) : Int) = k := ⟨_, (Int.toNat_of_nonneg hbw.1).symm⟩
  rw [hwk] at hws hbw ⊢
  rw [Int.toNat_natCast]
  have hfi := fill_any m (32 * wk) (by omega) (by omega)
  have hfl := fil_len m (32 * wk)
  generalize fil m (32 * wk) = gr at *
  have hwg := words_any gr.length (by omega) (by omega)
  generalize wds (gr.length : Int) = wg at *
  generalize x + n = s at *
  refine goQ [lnO m, kC Try.func11 hwm] (nonR w) I2 fun β a w3 I3 hb => ?_
  refine mcall (f := 22) (ss := [Sum.inl (Z wm)]) Try.func22 I3 ((from_any wm w3).mono fun e w4 he => ?_)
  obtain ⟨g, rfl, hg, hrow, hbl⟩ := he
  have hw3 := I3.hJ.size
  have I4 := I3.moved (J' := clJ w g (cst wm)) (F' := clF w g) (Grow.of_below hbl) ⟨I3.hJ.trans (hbl.mono hw3), hrow⟩ (fun k hk h => h.elim id fun e => by omega) (cloV g)
  refine goQ [vO 22 3 (cnv46 s (by omega)), kC Try.func11 hws, bO .mul 3 (run_mulZ (x := wk) (y := 32) (z := (32 * wk : Nat)) (by rw [wzf (by omega) (by omega)]; omega)), kC Try.func23 hfi] (clR _ _ _) I4 fun β5 a5 w5 I5 hb5 => ?_
  refine inY I5 fun I6 => ?_
  refine goQ [lnO gr, kC Try.func11 hwg] (clR _ _ _) I6 fun β7 a7 w7 I7 hb7 => ?_
  refine mcallX (f := 29) [Sum.inl (Z wg), Sum.inl (ptr0 g)] Try.func29 I7 ((clo_any I7.hJ.2 (cst_bd wm) wg).mono fun e w8 he => ?_)
  obtain ⟨rfl, hbl8⟩ := he
  have I8 := I7.moved (J' := clJ w g (cst wm)) (F' := clF w g) (Grow.of_below hbl8) ((clR _ _ _).loc _ _ I7.hJ (Grow.of_below hbl8)) (fun k hk h => h) (Z (cst wg - cst wm))
  generalize cst wg - cst wm = q at *
  refine goQ [] (clR _ _ _) I8 fun β9 a9 w9 I9 hb9 => ?_
  exact outQ (v := .tuple #[str gr, Z q, Z 0]) I9 ⟨rfl, I9.hJ.1⟩
end Go.Proofs.Ytdbilbcpnhkbaaa
