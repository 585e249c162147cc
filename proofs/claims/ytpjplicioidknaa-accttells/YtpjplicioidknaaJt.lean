/- AcctTells: for all accounts and texts. -/
import Derived.Test.YtpjplicioidknaaJu
namespace Go.Proofs.Ytpjplicioidknaa
open Go.RowKit Go.Sort
set_option linter.unusedVariables false
set_option maxRecDepth 100000
theorem unfit_any (c : Co) (hW : c.2.2 < W) (w : World) : Calls Try.prog 24 #[coV c] w fun e w' => e = .returned (.bool (!okC c)) ∧ Below w.heap.size w w' := by
  obtain ⟨x, y, n⟩ := c
  have hN := named_any x y
  have e : okC (x, y, n) = (nmB x y && decide (n ≠ 0)) := rfl
  rw [e]
  have hW : n < W := hW
  refine inQ (J := Below w.heap.size w) (F := (· < w.heap.size)) Try.func24 (Below.refl _ _) fun a I => ?_
  cases hq : nmB x y with
  | false =>
    rw [hq] at hN
    refine goQ [kC Try.func29 hN, ntO false] (nonR w) I fun β a w1 I hb => ?_
    exact outQ (v := .bool true) I ⟨rfl, I.hJ⟩
  | true =>
    rw [hq] at hN
    obtain ⟨q, hq0⟩ : ∃ q, decide (n = 0) = q := ⟨_, rfl⟩
    have : (!(true && decide (n ≠ 0))) = q := by rw [← hq0]; by_cases h : n = 0 <;> simp [h]
    rw [this]
    refine goQ [kC Try.func29 hN, ntO true, dO 27 [] bd_Uz, bO .eql 27 (eqU_run hW W_pos hq0)] (nonR w) I fun β a w1 I hb => ?_
    exact outQ (v := .bool q) I ⟨rfl, I.hJ⟩
abbrev ifK : List Nat := [0, 1, 4, 6, 7, 8]
abbrev ifV (v f : Value) (m i : Nat) : Vs := frm 19 [(0, Sum.inl v), (1, Sum.inl f), (4, Sum.inl (Z 0)), (6, Sum.inl v), (7, Sum.inl (Z m)), (8, Sum.inl (Z i))]
abbrev fnU : Value := .func (.func 24) #[] #[]
theorem index_any {w : World} {v : Value} {l : List Co} (h : CoI w v l) (hl : l.length < 1000000000) : Calls Try.prog 37 #[v, fnU] w fun e w' => (∃ z : Int, e = .returned (Z z) ∧ decide (0 ≤ z) = !(l.all okC)) ∧ Below w.heap.size w w' := by
  obtain ⟨ad, cap, rfl, hm⟩ := h
  refine inQ (J := Below w.heap.size w) (F := (· < w.heap.size)) Try.func37 (Below.refl _ _) fun a I => ?_
  refine goQ [lnC ad l.length cap] (nonR w) I fun β a w1 I hb => ?_
  let St : Nat → Act → World → Prop := fun k a w' => ∃ (i : Nat) (β : Nat → Nat) (u : Nat → Value), k = l.length - i ∧ i ≤ l.length ∧ (∀ j x, j < i → l[j]? = some x → okC x = true) ∧
    SI (Below w.heap.size w) (· < w.heap.size) [] β (cfC (bodyL Try.f37) (fillF (scrF 19 ifK) u 0 (ifV (.slice ad l.length cap) fnU l.length i)) [] 0) a w'
  refine lpM (bodyL Try.f37) St l.length ?_ ?_
  · obtain ⟨u, Iu⟩ := I.scr (bodyL Try.f37) (scrF 19 ifK) (ifV (.slice ad l.length cap) fnU l.length 0) [] 0
    exact ⟨0, β, u, by omega, Nat.zero_le _, fun j x h => absurd h (Nat.not_lt_zero j), Iu⟩
  rintro k a3 w3 ⟨i, β3, u, rfl, hi, hok, I⟩
  refine wp_cfC (tm := fillF (scrF 19 ifK) u 0 (ifV (.slice ad l.length cap) fnU l.length i)) (rows := []) (nx := 0) ?_
  rcases Nat.lt_or_ge i l.length with hil | hil
  · obtain ⟨c, h1⟩ : ∃ t, l[i]? = some t := ⟨_, List.getElem?_eq_getElem hil⟩
    obtain ⟨g, off, cs, rfl, hlt, hca, rfl, ham⟩ := hm i _ h1
    have hld : ∀ w', Below w.heap.size w w' → (loadVar 41 ⟨g, off + i * 6, none⟩).run Try.prog w' = .ok (coV c) w' := fun w' hb => loadCo (hca.keep (hb.block g hlt))
    have hU := unfit_any c ham
    refine goQ [lT i l.length (by omega)] (nonR w) I fun β4 a4 w4 I hb4 => ?_
    refine inY I fun I => ?_
    refine goT (T := Below w.heap.size w) [ixC g off l.length cap i hil, ldA 41 hld] (nonR w) (fun _ h => h) I fun β5 a5 w5 I hb5 => ?_
    cases hq : okC c with
    | true =>
      rw [hq] at hU
      refine bcallX [Sum.inl (coV c)] Try.func24 (nonR w) I (fun v => v = .bool false) ((hU w5).mono fun e w' he => ⟨he.2, _, he.1, rfl⟩) fun v w6 hv I => ?_
      subst hv
      refine goQ [p1 i (by omega)] (nonR w) I fun β7 a7 w7 I hb7 => ?_
      obtain ⟨u', Iu⟩ := I.scr (bodyL Try.f37) (scrF 19 ifK) (ifV (.slice (some ⟨g, off, none⟩) l.length cap) fnU l.length (i + 1)) [] 0
      refine endL ⟨l.length - (i + 1), by omega, i + 1, β7, u', rfl, hil, fun j x hj hx => ?_, Iu⟩
      rcases Nat.lt_or_ge j i with hji | hji
      · exact hok j x hji hx
      · obtain rfl : j = i := by omega
        rw [h1] at hx; cases hx; exact hq
    | false =>
      rw [hq] at hU
      refine bcallX [Sum.inl (coV c)] Try.func24 (nonR w) I (fun v => v = .bool true) ((hU w5).mono fun e w' he => ⟨he.2, _, he.1, rfl⟩) fun v w6 hv I => ?_
      subst hv
      refine goQ [] (nonR w) I fun β7 a7 w7 I hb7 => ?_
      refine endR (retV (v := Z i) I ⟨⟨i, rfl, ?_⟩, I.hJ⟩)
      have : l.all okC = false := by rw [List.all_eq_false]; exact ⟨_, List.mem_of_getElem? h1, by simp [hq]⟩
      rw [this, decide_eq_true (by omega)]
      rfl
  · obtain rfl : i = l.length := by omega
    refine goQ [lF l.length l.length (by omega)] (nonR w) I fun β4 a4 w4 I hb4 => ?_
    refine endE 0 ?_
    refine goQ [] (nonR w) (I.exit _) fun β5 a5 w5 I hb5 => ?_
    refine outQ (v := Z (-1)) I ⟨⟨-1, rfl, ?_⟩, I.hJ⟩
    have : l.all okC = true := by
      rw [List.all_eq_true]
      intro y hy
      obtain ⟨j, hj⟩ := List.mem_iff_getElem?.1 hy
      exact hok j y (List.getElem?_eq_some_iff.1 hj).1 hj
    rw [this]
    rfl
theorem contains_any {w : World} {v : Value} {l : List Co} (h : CoI w v l) (hl : l.length < 1000000000) : Calls Try.prog 23 #[v, fnU] w fun e w' => e = .returned (.bool !(l.all okC)) ∧ Below w.heap.size w w' := by
  have hI := fun (w' : World) (hb : Below w.heap.size w w') => index_any (h.below C6.loc hb) hl
  generalize (!(l.all okC)) = q at *
  refine inQ (J := Below w.heap.size w) (F := (· < w.heap.size)) Try.func23 (Below.refl _ _) fun a I => ?_
  refine goQ [] (nonR w) I fun β a w1 I hb => ?_
  refine bcallX [Sum.inl v, Sum.inl fnU] Try.func37 (nonR w) I (fun v => ∃ z : Int, v = Z z ∧ decide (0 ≤ z) = q) ((hI w1 I.hJ).mono fun e w' he => by obtain ⟨⟨z, he, hz⟩, hb⟩ := he; exact ⟨hb, _, he, z, rfl, hz⟩) fun v w2 hv I => ?_
  obtain ⟨z, rfl, hz⟩ := hv
  refine goQ [bO .geq 3 (run_geqZ (x := z) (y := 0) (b := q) hz)] (nonR w) I fun β3 a3 w3 I hb3 => ?_
  exact outQ (v := .bool q) I ⟨rfl, I.hJ⟩
abbrev riK : List Nat := [0, 2, 3]
abbrev riV (v : Value) (i : Nat) : Vs := frm 21 [(0, Sum.inl v), (2, Sum.inl (.bool false)), (3, Sum.inl (Z i))]
theorem rises_any {w : World} {v : Value} {l : List Co} (h : CoI w v l) (hl : l.length < 1000000000) : Calls Try.prog 25 #[v] w fun e w' => e = .returned (.bool (risB l)) ∧ Below w.heap.size w w' := by
  obtain ⟨ad, cap, rfl, hm⟩ := h
  refine inQ (J := Below w.heap.size w) (F := (· < w.heap.size)) Try.func25 (Below.refl _ _) fun a I => ?_
  refine goQ [] (nonR w) I fun β a w1 I hb => ?_
  let St : Nat → Act → World → Prop := fun k a w' => ∃ (i : Nat) (β : Nat → Nat) (u : Nat → Value), k = l.length + 1 - i ∧ 1 ≤ i ∧ i ≤ l.length + 1 ∧ (∀ j x y, j + 1 < i → l[j]? = some x → l[j + 1]? = some y → ltK (ky x) (ky y) = true) ∧
    SI (Below w.heap.size w) (· < w.heap.size) [] β (cfC (bodyL Try.f25) (fillF (scrF 21 riK) u 0 (riV (.slice ad l.length cap) i)) [] 0) a w'
  refine lpM (bodyL Try.f25) St l.length ?_ ?_
  · obtain ⟨u, Iu⟩ := I.scr (bodyL Try.f25) (scrF 21 riK) (riV (.slice ad l.length cap) 1) [] 0
    exact ⟨1, β, u, by omega, Nat.le_refl _, by omega, fun j x y h => by omega, Iu⟩
  rintro k a3 w3 ⟨i, β3, u, rfl, hi1, hi, hri, I⟩
  refine wp_cfC (tm := fillF (scrF 21 riK) u 0 (riV (.slice ad l.length cap) i)) (rows := []) (nx := 0) ?_
  rcases Nat.lt_or_ge i l.length with hil | hil
  · obtain ⟨c, h1⟩ : ∃ t, l[i]? = some t := ⟨_, List.getElem?_eq_getElem hil⟩
    obtain ⟨g, off, cs, rfl, hlt, hca, rfl, ham⟩ := hm i _ h1
    obtain ⟨c2, h2⟩ : ∃ t, l[i - 1]? = some t := ⟨_, List.getElem?_eq_getElem (by omega)⟩
    obtain ⟨g', off', cs2, he2, hlt2, hcb, rfl, ham2⟩ := hm (i - 1) _ h2
    cases he2
    have hld : ∀ w', Below w.heap.size w w' → (loadVar 41 ⟨g, off + i * 6, none⟩).run Try.prog w' = .ok (coV c) w' := fun w' hb => loadCo (hca.keep (hb.block g hlt))
    have hld2 : ∀ w', Below w.heap.size w w' → (loadVar 41 ⟨g, off + (i - 1) * 6, none⟩).run Try.prog w' = .ok (coV c2) w' := fun w' hb => loadCo (hcb.keep (hb.block g hlt))
    have hii : i - 1 < l.length := by omega
    have hO := order_any c2 c
    have hsub : IntKind.i64.wrap ((i : Int) - 1) = ((i - 1 : Nat) : Int) := by rw [wz (by omega) (by omega)]; omega
    have hz := cmK_lt (ky c2) (ky c)
    obtain ⟨z, hze⟩ : ∃ z, cmK (ky c2) (ky c) = z := ⟨_, rfl⟩
    rw [hze] at hO hz
    refine goQ [lnC (some ⟨g, off, none⟩) l.length cap, lT i l.length (by omega)] (nonR w) I fun β4 a4 w4 I hb4 => ?_
    by_cases hq : z < 0
    · refine dwT (T := Below w.heap.size w) 11 [bO .sub 3 (run_subZ (x := i) (y := 1) (z := (i - 1 : Nat)) hsub), ixC g off l.length cap (i - 1) hii, ldA 41 hld2, ixC g off l.length cap i hil, ldA 41 hld, kC Try.func38 hO, bO .geq 3 (run_geqZ (x := z) (y := 0) (b := false) (decide_eq_false (by omega)))] (nonR w) (fun _ h => h) (PanOk.then (PanOk.qk PanOk.post)) I fun a5 w5 I => ?_
      refine goQ [p1 i (by omega)] (nonR w) I fun β6 a6 w6 I hb6 => ?_
      obtain ⟨u', Iu⟩ := I.scr (bodyL Try.f25) (scrF 21 riK) (riV (.slice (some ⟨g, off, none⟩) l.length cap) (i + 1)) [] 0
      refine endL ⟨l.length + 1 - (i + 1), by omega, i + 1, β6, u', rfl, by omega, by omega, fun j x y hj hx hy => ?_, Iu⟩
      rcases Nat.lt_or_ge (j + 1) i with hji | hji
      · exact hri j x y hji hx hy
      · obtain rfl : i = j + 1 := by omega
        rw [Nat.add_sub_cancel] at h2
        rw [h2] at hx; rw [h1] at hy; cases hx; cases hy
        exact hz.1 hq
    · refine dwT (T := Below w.heap.size w) 11 [bO .sub 3 (run_subZ (x := i) (y := 1) (z := (i - 1 : Nat)) hsub), ixC g off l.length cap (i - 1) hii, ldA 41 hld2, ixC g off l.length cap i hil, ldA 41 hld, kC Try.func38 hO, bO .geq 3 (run_geqZ (x := z) (y := 0) (b := true) (decide_eq_true (by omega)))] (nonR w) (fun _ h => h) (PanOk.then (PanOk.qk PanOk.post)) I fun a5 w5 I => ?_
      refine goQ [] (nonR w) I fun β6 a6 w6 I hb6 => ?_
      refine endR (retV (v := .bool false) I ⟨?_, I.hJ⟩)
      have : risB l = false := by
        cases hr : risB l with
        | false => rfl
        | true =>
          have := risB_iff.1 hr (i - 1) _ _ h2 (by rw [show i - 1 + 1 = i by omega]; exact h1)
          exact absurd (hz.2 this) hq
      rw [this]
  · refine goQ [lnC ad l.length cap, lF i l.length (by omega)] (nonR w) I fun β4 a4 w4 I hb4 => ?_
    refine endE 0 ?_
    refine goQ [] (nonR w) (I.exit _) fun β5 a5 w5 I hb5 => ?_
    refine outQ (v := .bool true) I ⟨?_, I.hJ⟩
    have : risB l = true := risB_iff.2 fun j x y hx hy => hri j x y (by have := (List.getElem?_eq_some_iff.1 hy).1; omega) hx hy
    rw [this]
set_option maxHeartbeats 4000000 in
theorem fit_any {w : World} {v : Value} {l : List Co} (h : CoI w v l) (hl : l.length < 1000000000) : Calls Try.prog 11 #[v] w fun e w' => e = .returned (.bool (fitL l)) ∧ Below w.heap.size w w' := by
  have hC := fun (w' : World) (hb : Below w.heap.size w w') => contains_any (h.below C6.loc hb) hl
  have hR := fun (w' : World) (hb : Below w.heap.size w w') => rises_any (h.below C6.loc hb) hl
  have hS := fun (w' : World) (hb : Below w.heap.size w w') => sumsFit_any (h.below C6.loc hb) hl
  have e : fitL l = (decide (l.length ≤ 1000) && l.all okC && risB l && smB l) := rfl
  obtain ⟨ad, cap, hv⟩ := h.slice
  subst hv
  rw [e]
  refine inQ (J := Below w.heap.size w) (F := (· < w.heap.size)) Try.func11 (Below.refl _ _) fun a I => ?_
  by_cases q0 : ¬ l.length ≤ 1000
  · rw [decide_eq_false q0]
    refine goQ [lnC ad l.length cap, bO .leq 3 (run_leqZ (x := l.length) (y := 1000) (b := false) (decide_eq_false (by omega)))] (nonR w) I fun β a w1 I hb => ?_
    exact outQ (v := .bool false) I ⟨rfl, I.hJ⟩
  have q0 := Classical.not_not.1 q0
  rw [decide_eq_true q0]
  refine goQ [lnC ad l.length cap, bO .leq 3 (run_leqZ (x := l.length) (y := 1000) (b := true) (decide_eq_true (by omega)))] (nonR w) I fun β a w1 I hb => ?_
  refine bcallX [Sum.inl (.slice ad l.length cap), Sum.inl fnU] Try.func23 (nonR w) I (fun v => v = .bool !(l.all okC)) ((hC w1 I.hJ).mono fun e w' he => ⟨he.2, _, he.1, rfl⟩) fun v w2 hv I => ?_
  subst hv
  cases q1 : l.all okC with
  | false =>
    rw [q1] at I
    refine goQ [ntO true] (nonR w) I fun β3 a3 w3 I hb3 => ?_
    exact outQ (v := .bool false) I ⟨rfl, I.hJ⟩
  | true =>
    rw [q1] at I
    cases q2 : risB l with
    | false =>
      rw [q2] at hR
      refine goT (T := Below w.heap.size w) [ntO false, cA Try.func25 hR] (nonR w) (fun _ h => h) I fun β3 a3 w3 I hb3 => ?_
      exact outQ (v := .bool false) I ⟨rfl, I.hJ⟩
    | true =>
      rw [q2] at hR
      generalize smB l = q at *
      refine goT (T := Below w.heap.size w) [ntO false, cA Try.func25 hR, cA Try.func26 hS] (nonR w) (fun _ h => h) I fun β3 a3 w3 I hb3 => ?_
      exact outQ (v := .bool q) I ⟨by simp, I.hJ⟩
theorem eqBt (q : Bool) (x y : Operand) (w : World) : (do eqGuard .neq 4 x y (.bool q) (.bool q); binOp .neq 4 (.bool q) (.bool q) : Sem Value).run Try.prog w = .ok (.bool false) w := by cases q <;> simp [go_sem]
set_option maxHeartbeats 4000000 in
theorem tells_walk {w : World} {v : Value} {l : List Co} (h : CoI w v l) (hc : capOk v) (x y : ByteArray) : Calls Try.prog 3 #[v, .string x, .string y] w fun e w' => e = .returned (.bool true) ∧ Below w.heap.size w w' := by
  have haw := awake_any
  have hfw := fun (w' : World) (hb : Below w.heap.size w w') => few_any (h.below C6.loc hb)
  refine inQ (J := Below w.heap.size w) (F := (· < w.heap.size)) Try.func3 (Below.refl _ _) fun a I => ?_
  by_cases q1 : ¬ l.length ≤ 100
  · rw [decide_eq_false q1] at hfw
    refine goT (T := Below w.heap.size w) [cA Try.func7 hfw, ntO false, kC Try.func8 haw] (nonR w) (fun _ h => h) I fun β1 a1 w1 I hb1 => ?_
    exact outQ (v := .bool true) I ⟨rfl, I.hJ⟩
  have q1 := Classical.not_not.1 q1
  rw [decide_eq_true q1] at hfw
  have s1 := fun (w' : World) (hb : Below w.heap.size w w') => sum_any (h.below C6.loc hb) y (by omega)
  have s2 := fun (w' : World) (hb : Below w.heap.size w w') => rsum_any (h.below C6.loc hb) y (by omega)
  have f1 := fun (w' : World) (hb : Below w.heap.size w w') => fit_any (h.below C6.loc hb) (by omega)
  have f2 := fun (w' : World) (hb : Below w.heap.size w w') => rfit_any (h.below C6.loc hb) (by omega)
  obtain ⟨S, o, hSW, hSe⟩ : ∃ S o, S < W ∧ smV l y = .tuple #[U S, .bool o] := by
    unfold smV
    by_cases hq : smN l y < W
    · exact ⟨_, true, hq, if_pos hq⟩
    · exact ⟨0, false, W_pos, if_neg hq⟩
  rw [hSe] at s1 s2
  cases hq : fitL l with
  | false =>
    rw [hq] at f1 f2
    refine goT (T := Below w.heap.size w) [cA Try.func7 hfw, ntO true, cA Try.func9 s1, cA Try.func10 s2, cA Try.func11 f1, cA Try.func12 f2, bO .neq 4 (eqBt false), bO .neq 27 (neqU_run hSW hSW (b := false) (decide_eq_false (by simp))), bO .neq 4 (eqBt o), cA Try.func12 f2, ntO false, kC Try.func8 haw] (nonR w) (fun _ h => h) I fun β1 a1 w1 I hb1 => ?_
    exact outQ (v := .bool true) I ⟨rfl, I.hJ⟩
  | true =>
    rw [hq] at f1 f2
    have F := fit_iff.1 hq
    obtain ⟨A, B, v0, D⟩ := F.dec (x, y)
    have g1 := fun (w' : World) (hb : Below w.heap.size w w') => get_any (h.below C6.loc hb) (by omega) D
    have g2 := fun (w' : World) (hb : Below w.heap.size w w') => rget_any (h.below C6.loc hb) x y (by omega)
    rw [D.get] at g2
    have hvW := D.lt F
    refine goT (T := Below w.heap.size w) [cA Try.func7 hfw, ntO true, cA Try.func9 s1, cA Try.func10 s2, cA Try.func11 f1, cA Try.func12 f2, bO .neq 4 (eqBt true), bO .neq 27 (neqU_run hSW hSW (b := false) (decide_eq_false (by simp))), bO .neq 4 (eqBt o), cA Try.func12 f2, ntO true, cA Try.func13 g1, cA Try.func14 g2, bO .eql 27 (eqU_run hvW hvW (b := true) (decide_eq_true rfl)), kC Try.func8 haw] (nonR w) (fun _ h => h) I fun β1 a1 w1 I hb1 => ?_
    exact outQ (v := .bool true) I ⟨rfl, I.hJ⟩
end Go.Proofs.Ytpjplicioidknaa
