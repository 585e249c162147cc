/- The document's Give and Take. -/
import Derived.Test.YtpjplicioidknaaJm
namespace Go.Proofs.Ytpjplicioidknaa
open Go.RowKit Go.Sort
set_option linter.unusedVariables false
set_option maxRecDepth 100000
/-- A list in blocks that were there, or were laid anew. -/
def RsL (K0 : Nat → Prop) (w : World) (v : Value) (l : List Co) (w' : World) : Prop := Below w.heap.size w w' ∧ ∃ K1 : Nat → Prop, (∀ k, K1 k → w.heap.size ≤ k ∧ k < w'.heap.size) ∧ SlI 6 C6 (fun k => K0 k ∨ K1 k) w' v l
theorem FJ.toRsL {w w' : World} {K1 : Nat → Prop} {v : Value} {l : List Co} (h : FJ w K1 v l w') (K0 : Nat → Prop) : RsL K0 w v l w' := ⟨h.bw, K1, h.kb, h.sl.keep C6.loc fun k hk => ⟨.inr hk, rfl⟩⟩
theorem RsL.same {K0 : Nat → Prop} {w w' : World} {v : Value} {l : List Co} (h : SlI 6 C6 K0 w v l) (hk : ∀ k, K0 k → k < w.heap.size) (hb : Below w.heap.size w w') : RsL K0 w v l w' := ⟨hb, noK, fun k h => h.elim, h.keep C6.loc fun k h => ⟨.inl h, hb.block k (hk k h)⟩⟩
theorem nmB_true {x y : ByteArray} (h : nmB x y = true) : x.size = 20 ∧ y.size = 20 := by
  unfold nmB at h
  simpa using h
set_option maxHeartbeats 4000000 in
theorem rgive_any {K0 : Nat → Prop} {w : World} {x y : ByteArray} {n : Nat} {v : Value} {l A B : List Co} {v0 : Nat} (h0 : SlI 6 C6 K0 w v l) (hk : ∀ k, K0 k → k < w.heap.size) (hf : Fit l) (hl : l.length ≤ 900) (D : Dec l (x, y) A B v0) (hn : n < W) :
    Calls Try.prog 16 #[v, .string x, .string y, U n] w fun e w' => ∃ v', e = .returned (.tuple #[v', Z (gvP l A B x y v0 n).2]) ∧ RsL K0 w v' (gvP l A B x y v0 n).1 w' := by
  have h : CoI w v l := h0.low hk
  have hS := fun (w' : World) (hb : Below w.heap.size w w') => rsum_any (h.below C6.loc hb) y (by omega)
  rw [sumOk hf y] at hS
  have hG := fun (w' : World) (hb : Below w.heap.size w w') => rget_any (h.below C6.loc hb) x y (by omega)
  rw [D.get] at hG
  have hsm := hf.sm y
  have hv0 := D.le_sum
  have hlen := D.len
  have hWt := fun (m : Nat) (hm : m < W) (w' : World) (hb : Below w.heap.size w w') => rwith_any (n := m) (h.below C6.loc hb) (by omega) D hm
  have hsame := fun (w' : World) (hb : Below w.heap.size w w') => RsL.same h0 hk hb
  unfold gvP
  refine inQ (J := Below w.heap.size w) (F := (· < w.heap.size)) Try.func16 (Below.refl _ _) fun a I => ?_
  by_cases q1 : ¬ x.size = 20
  · rw [if_pos (show nmB x y = false by unfold nmB; rw [decide_eq_false q1]; rfl)]
    refine goQ [sz9 x, bO .neq 3 (run_neqZ (x := x.size) (y := 20) (b := true) (decide_eq_true (by omega)))] (nonR w) I fun β1 a1 w1 I hb1 => ?_
    exact outQ (v := .tuple #[v, Z 2]) I ⟨v, rfl, hsame _ I.hJ⟩
  have q1 := Classical.not_not.1 q1
  by_cases q2 : ¬ y.size = 20
  · rw [if_pos (show nmB x y = false by unfold nmB; rw [decide_eq_false q2, Bool.and_false])]
    refine goQ [sz9 x, bO .neq 3 (run_neqZ (x := x.size) (y := 20) (b := false) (decide_eq_false (by omega))), sz9 y, bO .neq 3 (run_neqZ (x := y.size) (y := 20) (b := true) (decide_eq_true (by omega)))] (nonR w) I fun β1 a1 w1 I hb1 => ?_
    exact outQ (v := .tuple #[v, Z 2]) I ⟨v, rfl, hsame _ I.hJ⟩
  have q2 := Classical.not_not.1 q2
  rw [if_neg (show ¬ nmB x y = false by unfold nmB; rw [decide_eq_true q1, decide_eq_true q2]; simp)]
  have hO := radd_any (smN l y) n hsm hn
  obtain ⟨S, hSe⟩ : ∃ S, smN l y = S := ⟨_, rfl⟩
  rw [hSe] at hS hO hsm hv0 ⊢
  generalize addW S n = S2 at hO
  by_cases ho : W ≤ S + n
  · rw [show ovW S n = true from decide_eq_true ho] at hO
    rw [if_pos ho]
    refine goT (T := Below w.heap.size w) [sz9 x, bO .neq 3 (run_neqZ (x := x.size) (y := 20) (b := false) (decide_eq_false (by omega))), sz9 y, bO .neq 3 (run_neqZ (x := y.size) (y := 20) (b := false) (decide_eq_false (by omega))), cA Try.func10 hS, kC Try.func20 hO] (nonR w) (fun _ h => h) I fun β1 a1 w1 I hb1 => ?_
    exact outQ (v := .tuple #[v, Z 7]) I ⟨v, rfl, hsame _ I.hJ⟩
  · rw [show ovW S n = false from decide_eq_false ho] at hO
    rw [if_neg ho]
    have hv0W : v0 < W := by omega
    have hA := addOk radd_any hv0W hn (by omega)
    have hm : v0 + n < W := by omega
    obtain ⟨m, hme⟩ : ∃ m, v0 + n = m := ⟨_, rfl⟩
    rw [hme] at hA hm ⊢
    have hWt := hWt m hm
    have hol : (A ++ own (x, y) m ++ B).length ≤ 1000 := by
      rw [List.length_append, List.length_append, own_len]
      split <;> omega
    refine goT (T := Below w.heap.size w) [sz9 x, bO .neq 3 (run_neqZ (x := x.size) (y := 20) (b := false) (decide_eq_false (by omega))), sz9 y, bO .neq 3 (run_neqZ (x := y.size) (y := 20) (b := false) (decide_eq_false (by omega))), cA Try.func10 hS, kC Try.func20 hO] (nonR w) (fun _ h => h) I fun β1 a1 w1 I hb1 => ?_
    refine dwA (T := Below w.heap.size w) 9 10 14 47 m [cA Try.func14 hG, kC Try.func20 hA] (nonR w) (fun _ h => h) I fun b vs β2 a2 w2 hag I => ?_
    refine goQ [dO 41 [0, 1, 2] (bd41_3 x y m)] (nonR w) I fun β3 a3 w3 I hb3 => ?_
    refine mcall (f := 33) (ss := [Sum.inl v, Sum.inl (coV (x, y, m))]) Try.func33 I ((hWt w3 I.hJ).mono fun e w4 he => ?_)
    obtain ⟨v', K1, rfl, hj⟩ := he
    obtain ⟨ad, cp, hv'⟩ := hj.sl.slice
    generalize A ++ own (x, y) m ++ B = out at *
    subst hv'
    refine goQ [lnC ad out.length cp, bO .gtr 3 (run_gtrZ (x := out.length) (y := 1000) (b := false) (decide_eq_false (by omega)))] (FJ.rs w K1 _ out) (I.fj hj I.hJ (fun k h => h) _) fun β5 a5 w5 I hb5 => ?_
    exact outQ (v := .tuple #[.slice ad out.length cp, Z 0]) I ⟨_, rfl, I.hJ.toRsL K0⟩
set_option maxHeartbeats 4000000 in
theorem rtake_any {K0 : Nat → Prop} {w : World} {x y : ByteArray} {n : Nat} {v : Value} {l A B : List Co} {v0 : Nat} (h0 : SlI 6 C6 K0 w v l) (hk : ∀ k, K0 k → k < w.heap.size) (hf : Fit l) (hl : l.length ≤ 900) (D : Dec l (x, y) A B v0) (hn : n < W) :
    Calls Try.prog 18 #[v, .string x, .string y, U n] w fun e w' => ∃ v', e = .returned (.tuple #[v', Z (tkP l A B x y v0 n).2]) ∧ RsL K0 w v' (tkP l A B x y v0 n).1 w' := by
  have h : CoI w v l := h0.low hk
  have hG := fun (w' : World) (hb : Below w.heap.size w w') => rget_any (h.below C6.loc hb) x y (by omega)
  rw [D.get] at hG
  have hsm := hf.sm y
  have hv0 := D.le_sum
  have hWt := fun (m : Nat) (hm : m < W) (w' : World) (hb : Below w.heap.size w w') => rwith_any (n := m) (h.below C6.loc hb) (by omega) D hm
  have hsame := fun (w' : World) (hb : Below w.heap.size w w') => RsL.same h0 hk hb
  have hv0W : v0 < W := by omega
  have hA := rsub_any v0 n hv0W hn
  unfold tkP
  refine inQ (J := Below w.heap.size w) (F := (· < w.heap.size)) Try.func18 (Below.refl _ _) fun a I => ?_
  by_cases q1 : ¬ x.size = 20
  · rw [if_pos (show nmB x y = false by unfold nmB; rw [decide_eq_false q1]; rfl)]
    refine goQ [sz9 x, bO .neq 3 (run_neqZ (x := x.size) (y := 20) (b := true) (decide_eq_true (by omega)))] (nonR w) I fun β1 a1 w1 I hb1 => ?_
    exact outQ (v := .tuple #[v, Z 2]) I ⟨v, rfl, hsame _ I.hJ⟩
  have q1 := Classical.not_not.1 q1
  by_cases q2 : ¬ y.size = 20
  · rw [if_pos (show nmB x y = false by unfold nmB; rw [decide_eq_false q2, Bool.and_false])]
    refine goQ [sz9 x, bO .neq 3 (run_neqZ (x := x.size) (y := 20) (b := false) (decide_eq_false (by omega))), sz9 y, bO .neq 3 (run_neqZ (x := y.size) (y := 20) (b := true) (decide_eq_true (by omega)))] (nonR w) I fun β1 a1 w1 I hb1 => ?_
    exact outQ (v := .tuple #[v, Z 2]) I ⟨v, rfl, hsame _ I.hJ⟩
  have q2 := Classical.not_not.1 q2
  rw [if_neg (show ¬ nmB x y = false by unfold nmB; rw [decide_eq_true q1, decide_eq_true q2]; simp)]
  refine goQ [sz9 x, bO .neq 3 (run_neqZ (x := x.size) (y := 20) (b := false) (decide_eq_false (by omega))), sz9 y, bO .neq 3 (run_neqZ (x := y.size) (y := 20) (b := false) (decide_eq_false (by omega)))] (nonR w) I fun β1 a1 w1 I hb1 => ?_
  by_cases ho : v0 < n
  · rw [show unW v0 n = true from decide_eq_true ho] at hA
    rw [if_pos ho]
    generalize subW v0 n = m at hA
    refine dwA (T := Below w.heap.size w) 9 10 10 28 m [cA Try.func14 hG, kC Try.func21 hA] (nonR w) (fun _ h => h) I fun b vs β2 a2 w2 hag I => ?_
    refine goQ [] (nonR w) I fun β3 a3 w3 I hb3 => ?_
    exact outQ (v := .tuple #[v, Z 16]) I ⟨v, rfl, hsame _ I.hJ⟩
  · rw [show unW v0 n = false from decide_eq_false ho, show subW v0 n = v0 - n from by unfold subW; rw [show v0 + W - n = v0 - n + W by omega, Nat.add_mod_right, Nat.mod_eq_of_lt (by omega)]] at hA
    rw [if_neg ho]
    have hm : v0 - n < W := by omega
    obtain ⟨m, hme⟩ : ∃ m, v0 - n = m := ⟨_, rfl⟩
    rw [hme] at hA hm ⊢
    have hWt := hWt m hm
    refine dwA (T := Below w.heap.size w) 9 10 10 28 m [cA Try.func14 hG, kC Try.func21 hA] (nonR w) (fun _ h => h) I fun b vs β2 a2 w2 hag I => ?_
    refine goQ [dO 41 [0, 1, 2] (bd41_3 x y m)] (nonR w) I fun β3 a3 w3 I hb3 => ?_
    refine mcall (f := 33) (ss := [Sum.inl v, Sum.inl (coV (x, y, m))]) Try.func33 I ((hWt w3 I.hJ).mono fun e w4 he => ?_)
    obtain ⟨v', K1, rfl, hj⟩ := he
    generalize A ++ own (x, y) m ++ B = out at *
    refine goQ [] (FJ.rs w K1 v' out) (I.fj hj I.hJ (fun k h => h) _) fun β5 a5 w5 I hb5 => ?_
    exact outQ (v := .tuple #[v', Z 0]) I ⟨_, rfl, I.hJ.toRsL K0⟩
end Go.Proofs.Ytpjplicioidknaa
