/- The document's Fit. -/
import Derived.Test.YtpjplicioidknaaJd
namespace Go.Proofs.Ytpjplicioidknaa
open Go.RowKit Go.Sort
set_option linter.unusedVariables false
set_option maxRecDepth 100000
abbrev f1K : List Nat := [0, 2, 3]
abbrev f1V (v : Value) (i : Nat) : Vs := frm 82 [(0, Sum.inl v), (2, Sum.inl (.bool false)), (3, Sum.inl (Z i))]
abbrev f2K : List Nat := [0, 2, 4]
abbrev f2V (v : Value) (i : Nat) : Vs := frm 82 [(0, Sum.inl v), (2, Sum.inl (.bool false)), (4, Sum.inl (Z i))]
set_option maxHeartbeats 4000000 in
theorem rfit_any {w : World} {v : Value} {l : List Co} (h : CoI w v l) (hl : l.length < 1000000000) : Calls Try.prog 12 #[v] w fun e w' => e = .returned (.bool (fitL l)) ∧ Below w.heap.size w w' := by
  have hS : ∀ s w', Below w.heap.size w w' → Calls Try.prog 10 #[v, .string s] w' fun e w'' => e = .returned (smV l s) ∧ Below w'.heap.size w' w'' := fun s w' hb => rsum_any (h.below C6.loc hb) s hl
  obtain ⟨ad, cap, rfl, hm⟩ := h
  refine inQ (J := Below w.heap.size w) (F := (· < w.heap.size)) Try.func12 (Below.refl _ _) fun a I => ?_
  by_cases q0 : 1000 < l.length
  · refine goQ [lnC ad l.length cap, bO .gtr 3 (run_gtrZ (x := l.length) (y := 1000) (b := true) (decide_eq_true (by omega)))] (nonR w) I fun β a w1 I hb => ?_
    exact outQ (v := .bool false) I ⟨by unfold fitL; rw [decide_eq_false (by omega)]; rfl, I.hJ⟩
  refine goQ [lnC ad l.length cap, bO .gtr 3 (run_gtrZ (x := l.length) (y := 1000) (b := false) (decide_eq_false (by omega)))] (nonR w) I fun β a w1 I hb => ?_
  let St : Nat → Act → World → Prop := fun k a w' => ∃ (i : Nat) (β : Nat → Nat) (u : Nat → Value), k = l.length - i ∧ i ≤ l.length ∧ (∀ j x, j < i → l[j]? = some x → okC x = true) ∧ (∀ j x y, j + 1 < i → l[j]? = some x → l[j + 1]? = some y → ltK (ky x) (ky y) = true) ∧
    SI (Below w.heap.size w) (· < w.heap.size) [] β (cfC (bodyLk Try.f12 0) (fillF (scrF 82 f1K) u 0 (f1V (.slice ad l.length cap) i)) [] 0) a w'
  refine lpM (bodyLk Try.f12 0) St l.length ?_ ?_
  · obtain ⟨u, Iu⟩ := I.scr (bodyLk Try.f12 0) (scrF 82 f1K) (f1V (.slice ad l.length cap) 0) [] 0
    exact ⟨0, β, u, by omega, Nat.zero_le _, fun j x h => absurd h (Nat.not_lt_zero j), fun j x y h => absurd h (Nat.not_lt_zero _), Iu⟩
  rintro k a3 w3 ⟨i, β3, u, rfl, hi, hok, hri, I⟩
  refine wp_cfC (tm := fillF (scrF 82 f1K) u 0 (f1V (.slice ad l.length cap) i)) (rows := []) (nx := 0) ?_
  rcases Nat.lt_or_ge i l.length with hil | hil
  · obtain ⟨c, h1⟩ : ∃ t, l[i]? = some t := ⟨_, List.getElem?_eq_getElem hil⟩
    obtain ⟨g, off, cs, rfl, hlt, hca, rfl, ham⟩ := hm i _ h1
    have hlW : ∀ w', Below w.heap.size w w' → (loadVar 9 ⟨g, off + i * 6 + 0, none⟩).run Try.prog w' = .ok (.string c.1) w' := fun w' hb => loadW (hca.keep (hb.block g hlt))
    have hlA : ∀ w', Below w.heap.size w w' → (loadVar 9 ⟨g, off + i * 6 + 1, none⟩).run Try.prog w' = .ok (.string c.2.1) w' := fun w' hb => loadA (hca.keep (hb.block g hlt))
    have hlU : ∀ w', Below w.heap.size w w' → (loadVar 27 ⟨g, off + i * 6 + 2, none⟩).run Try.prog w' = .ok (U c.2.2) w' := fun w' hb => loadU (hca.keep (hb.block g hlt))
    have bad : okC c = false → fitL l = false := fun hq => by
      have : l.all okC = false := by rw [List.all_eq_false]; exact ⟨_, List.mem_of_getElem? h1, by simp [hq]⟩
      unfold fitL
      rw [this, Bool.and_false, Bool.false_and, Bool.false_and]
    have go : okC c = true → (∀ x, 0 < i → l[i - 1]? = some x → ltK (ky x) (ky c) = true) → (∀ j x, j < i + 1 → l[j]? = some x → okC x = true) ∧ (∀ j x y, j + 1 < i + 1 → l[j]? = some x → l[j + 1]? = some y → ltK (ky x) (ky y) = true) := fun ho hr => by
      refine ⟨fun j x hj hx => ?_, fun j x y hj hx hy => ?_⟩
      · rcases Nat.lt_or_ge j i with hji | hji
        · exact hok j x hji hx
        · obtain rfl : j = i := by omega
          rw [h1] at hx; cases hx; exact ho
      · rcases Nat.lt_or_ge (j + 1) i with hji | hji
        · exact hri j x y hji hx hy
        · obtain rfl : i = j + 1 := by omega
          rw [h1] at hy; cases hy
          exact hr x (Nat.succ_pos _) hx
    refine goQ [lnC (some ⟨g, off, none⟩) l.length cap, lT i l.length (by omega)] (nonR w) I fun β4 a4 w4 I hb4 => ?_
    by_cases q1 : ¬ c.1.size = 20
    · refine dwT (T := Below w.heap.size w) 48 [ixC g off l.length cap i hil, ldA 9 hlW, sz9 c.1, bO .neq 3 (run_neqZ (x := c.1.size) (y := 20) (b := true) (decide_eq_true (by omega)))] (nonR w) (fun _ h => h) (PanOk.then (PanOk.qk PanOk.post)) I fun a5 w5 I => ?_
      refine goQ [] (nonR w) I fun β6 a6 w6 I hb6 => ?_
      exact endR (retV (v := .bool false) I ⟨by rw [bad]; unfold okC; rw [decide_eq_false q1]; rfl, I.hJ⟩)
    have q1 := Classical.not_not.1 q1
    by_cases q2 : ¬ c.2.1.size = 20
    · refine dwT (T := Below w.heap.size w) 48 [ixC g off l.length cap i hil, ldA 9 hlW, sz9 c.1, bO .neq 3 (run_neqZ (x := c.1.size) (y := 20) (b := false) (decide_eq_false (by omega))), ixC g off l.length cap i hil, ldA 9 hlA, sz9 c.2.1, bO .neq 3 (run_neqZ (x := c.2.1.size) (y := 20) (b := true) (decide_eq_true (by omega)))] (nonR w) (fun _ h => h) (PanOk.then (PanOk.qk PanOk.post)) I fun a5 w5 I => ?_
      refine goQ [] (nonR w) I fun β6 a6 w6 I hb6 => ?_
      exact endR (retV (v := .bool false) I ⟨by rw [bad]; unfold okC; rw [decide_eq_false q2, Bool.and_false]; rfl, I.hJ⟩)
    have q2 := Classical.not_not.1 q2
    by_cases q3 : c.2.2 = 0
    · refine dwT (T := Below w.heap.size w) 48 [ixC g off l.length cap i hil, ldA 9 hlW, sz9 c.1, bO .neq 3 (run_neqZ (x := c.1.size) (y := 20) (b := false) (decide_eq_false (by omega))), ixC g off l.length cap i hil, ldA 9 hlA, sz9 c.2.1, bO .neq 3 (run_neqZ (x := c.2.1.size) (y := 20) (b := false) (decide_eq_false (by omega))), ixC g off l.length cap i hil, ldA 27 hlU, dO 27 [] bd_Uz, bO .eql 27 (eqU_run ham W_pos (b := true) (decide_eq_true q3))] (nonR w) (fun _ h => h) (PanOk.then (PanOk.qk PanOk.post)) I fun a5 w5 I => ?_
      refine goQ [] (nonR w) I fun β6 a6 w6 I hb6 => ?_
      exact endR (retV (v := .bool false) I ⟨by rw [bad]; unfold okC; rw [decide_eq_false (show ¬ c.2.2 ≠ 0 by simp [q3]), Bool.and_false], I.hJ⟩)
    have hc : okC c = true := okC_iff.2 ⟨q1, q2, q3⟩
    rcases Nat.eq_zero_or_pos i with hi0 | hi0
    · subst hi0
      refine dwT (T := Below w.heap.size w) 48 [ixC g off l.length cap 0 hil, ldA 9 hlW, sz9 c.1, bO .neq 3 (run_neqZ (x := c.1.size) (y := 20) (b := false) (decide_eq_false (by omega))), ixC g off l.length cap 0 hil, ldA 9 hlA, sz9 c.2.1, bO .neq 3 (run_neqZ (x := c.2.1.size) (y := 20) (b := false) (decide_eq_false (by omega))), ixC g off l.length cap 0 hil, ldA 27 hlU, dO 27 [] bd_Uz, bO .eql 27 (eqU_run ham W_pos (b := false) (decide_eq_false q3)), bO .gtr 3 (run_gtrZ (x := (0 : Nat)) (y := 0) (b := false) rfl)] (nonR w) (fun _ h => h) (PanOk.then (PanOk.qk PanOk.post)) I fun a5 w5 I => ?_
      refine goQ [p1 0 (by omega)] (nonR w) I fun β6 a6 w6 I hb6 => ?_
      obtain ⟨u', Iu⟩ := I.scr (bodyLk Try.f12 0) (scrF 82 f1K) (f1V (.slice (some ⟨g, off, none⟩) l.length cap) (0 + 1)) [] 0
      obtain ⟨g1, g2⟩ := go hc fun x h => absurd h (Nat.lt_irrefl 0)
      exact endL ⟨l.length - (0 + 1), by omega, 0 + 1, β6, u', rfl, hil, g1, g2, Iu⟩
    · obtain ⟨c2, h2⟩ : ∃ t, l[i - 1]? = some t := ⟨_, List.getElem?_eq_getElem (by omega)⟩
      obtain ⟨g', off', cs2, he2, hlt2, hcb, rfl, ham2⟩ := hm (i - 1) _ h2
      cases he2
      have hld : ∀ w', Below w.heap.size w w' → (loadVar 41 ⟨g, off + (i - 1) * 6, none⟩).run Try.prog w' = .ok (coV c2) w' := fun w' hb => loadCo (hcb.keep (hb.block g hlt))
      have hii : i - 1 < l.length := by omega
      have hB := before_any c2 c.1 c.2.1
      have hky : ltK (ky c2) (c.1, c.2.1) = ltK (ky c2) (ky c) := rfl
      rw [hky] at hB
      have hsub : IntKind.i64.wrap ((i : Int) - 1) = ((i - 1 : Nat) : Int) := by rw [wz (by omega) (by omega)]; omega
      cases hq : ltK (ky c2) (ky c) with
      | false =>
        rw [hq] at hB
        refine dwT (T := Below w.heap.size w) 48 [ixC g off l.length cap i hil, ldA 9 hlW, sz9 c.1, bO .neq 3 (run_neqZ (x := c.1.size) (y := 20) (b := false) (decide_eq_false (by omega))), ixC g off l.length cap i hil, ldA 9 hlA, sz9 c.2.1, bO .neq 3 (run_neqZ (x := c.2.1.size) (y := 20) (b := false) (decide_eq_false (by omega))), ixC g off l.length cap i hil, ldA 27 hlU, dO 27 [] bd_Uz, bO .eql 27 (eqU_run ham W_pos (b := false) (decide_eq_false q3)), bO .gtr 3 (run_gtrZ (x := i) (y := 0) (b := true) (decide_eq_true (by omega))), bO .sub 3 (run_subZ (x := i) (y := 1) (z := (i - 1 : Nat)) hsub), ixC g off l.length cap (i - 1) hii, ldA 41 hld, ixC g off l.length cap i hil, ldA 9 hlW, ixC g off l.length cap i hil, ldA 9 hlA, kC Try.func27 hB, ntO false] (nonR w) (fun _ h => h) (PanOk.then (PanOk.qk PanOk.post)) I fun a5 w5 I => ?_
        refine goQ [] (nonR w) I fun β6 a6 w6 I hb6 => ?_
        refine endR (retV (v := .bool false) I ⟨?_, I.hJ⟩)
        have : risB l = false := by
          cases hr : risB l with
          | false => rfl
          | true =>
            have := risB_iff.1 hr (i - 1) _ _ h2 (by rw [show i - 1 + 1 = i by omega]; exact h1)
            rw [hq] at this; cases this
        unfold fitL
        rw [this, Bool.and_false, Bool.false_and]
      | true =>
        rw [hq] at hB
        refine dwT (T := Below w.heap.size w) 48 [ixC g off l.length cap i hil, ldA 9 hlW, sz9 c.1, bO .neq 3 (run_neqZ (x := c.1.size) (y := 20) (b := false) (decide_eq_false (by omega))), ixC g off l.length cap i hil, ldA 9 hlA, sz9 c.2.1, bO .neq 3 (run_neqZ (x := c.2.1.size) (y := 20) (b := false) (decide_eq_false (by omega))), ixC g off l.length cap i hil, ldA 27 hlU, dO 27 [] bd_Uz, bO .eql 27 (eqU_run ham W_pos (b := false) (decide_eq_false q3)), bO .gtr 3 (run_gtrZ (x := i) (y := 0) (b := true) (decide_eq_true (by omega))), bO .sub 3 (run_subZ (x := i) (y := 1) (z := (i - 1 : Nat)) hsub), ixC g off l.length cap (i - 1) hii, ldA 41 hld, ixC g off l.length cap i hil, ldA 9 hlW, ixC g off l.length cap i hil, ldA 9 hlA, kC Try.func27 hB, ntO true] (nonR w) (fun _ h => h) (PanOk.then (PanOk.qk PanOk.post)) I fun a5 w5 I => ?_
        refine goQ [p1 i (by omega)] (nonR w) I fun β6 a6 w6 I hb6 => ?_
        obtain ⟨u', Iu⟩ := I.scr (bodyLk Try.f12 0) (scrF 82 f1K) (f1V (.slice (some ⟨g, off, none⟩) l.length cap) (i + 1)) [] 0
        obtain ⟨g1, g2⟩ := go hc fun x _ hx => by rw [h2] at hx; cases hx; exact hq
        exact endL ⟨l.length - (i + 1), by omega, i + 1, β6, u', rfl, hil, g1, g2, Iu⟩
  · obtain rfl : i = l.length := by omega
    have e1 : l.all okC = true := by
      rw [List.all_eq_true]
      intro y hy
      obtain ⟨j, hj⟩ := List.mem_iff_getElem?.1 hy
      exact hok j y (List.getElem?_eq_some_iff.1 hj).1 hj
    have e2 : risB l = true := risB_iff.2 fun j x y hx hy => hri j x y (List.getElem?_eq_some_iff.1 hy).1 hx hy
    have e3 : fitL l = l.all fun c => decide (smN l c.2.1 < W) := by
      unfold fitL
      rw [decide_eq_true (show l.length ≤ 1000 by omega), e1, e2]
      rfl
    refine goQ [lnC ad l.length cap, lF l.length l.length (by omega)] (nonR w) I fun β4 a4 w4 I hb4 => ?_
    refine endE 0 ?_
    refine goQ [] (nonR w) (I.exit _) fun β5 a5 w5 I hb5 => ?_
    let St2 : Nat → Act → World → Prop := fun k a w' => ∃ (i : Nat) (β : Nat → Nat) (u : Nat → Value), k = l.length - i ∧ i ≤ l.length ∧ (∀ j x, j < i → l[j]? = some x → smN l x.2.1 < W) ∧
      SI (Below w.heap.size w) (· < w.heap.size) [] β (cfC (bodyLk Try.f12 1) (fillF (scrF 82 f2K) u 0 (f2V (.slice ad l.length cap) i)) [] 0) a w'
    refine lpM (bodyLk Try.f12 1) St2 l.length ?_ ?_
    · obtain ⟨u, Iu⟩ := I.scr (bodyLk Try.f12 1) (scrF 82 f2K) (f2V (.slice ad l.length cap) 0) [] 0
      exact ⟨0, β5, u, by omega, Nat.zero_le _, fun j x h => absurd h (Nat.not_lt_zero j), Iu⟩
    rintro k a6 w6 ⟨i, β6, u, rfl, hi, hsm, I⟩
    refine wp_cfC (tm := fillF (scrF 82 f2K) u 0 (f2V (.slice ad l.length cap) i)) (rows := []) (nx := 0) ?_
    rcases Nat.lt_or_ge i l.length with hil | hil
    · obtain ⟨c, h1⟩ : ∃ t, l[i]? = some t := ⟨_, List.getElem?_eq_getElem hil⟩
      obtain ⟨g, off, cs, rfl, hlt, hca, rfl, ham⟩ := hm i _ h1
      have hlA : ∀ w', Below w.heap.size w w' → (loadVar 9 ⟨g, off + i * 6 + 1, none⟩).run Try.prog w' = .ok (.string c.2.1) w' := fun w' hb => loadA (hca.keep (hb.block g hlt))
      have hSc := hS c.2.1
      unfold smV at hSc
      by_cases hw : smN l c.2.1 < W
      · rw [if_pos hw] at hSc
        have hsm' : ∀ j x, j < i + 1 → l[j]? = some x → smN l x.2.1 < W := fun j x hj hx => by
          rcases Nat.lt_or_ge j i with hji | hji
          · exact hsm j x hji hx
          · obtain rfl : j = i := by omega
            rw [h1] at hx; cases hx; exact hw
        generalize smN l c.2.1 = sv at hSc
        refine goT (T := Below w.heap.size w) [lnC (some ⟨g, off, none⟩) l.length cap, lT i l.length (by omega), ixC g off l.length cap i hil, ldA 9 hlA, cA Try.func10 hSc, ntO true, p1 i (by omega)] (nonR w) (fun _ h => h) I fun β7 a7 w7 I hb7 => ?_
        obtain ⟨u', Iu⟩ := I.scr (bodyLk Try.f12 1) (scrF 82 f2K) (f2V (.slice (some ⟨g, off, none⟩) l.length cap) (i + 1)) [] 0
        exact endL ⟨l.length - (i + 1), by omega, i + 1, β7, u', rfl, hil, hsm', Iu⟩
      · rw [if_neg hw] at hSc
        refine goT (T := Below w.heap.size w) [lnC (some ⟨g, off, none⟩) l.length cap, lT i l.length (by omega), ixC g off l.length cap i hil, ldA 9 hlA, cA Try.func10 hSc, ntO false] (nonR w) (fun _ h => h) I fun β7 a7 w7 I hb7 => ?_
        refine endR (retV (v := .bool false) I ⟨?_, I.hJ⟩)
        rw [e3, List.all_eq_false.2 ⟨c, List.mem_of_getElem? h1, by simpa using hw⟩]
    · obtain rfl : i = l.length := by omega
      refine goQ [lnC ad l.length cap, lF l.length l.length (by omega)] (nonR w) I fun β7 a7 w7 I hb7 => ?_
      refine endE 2 ?_
      refine goQ [] (nonR w) (I.exit _) fun β8 a8 w8 I hb8 => ?_
      refine outQ (v := .bool true) I ⟨?_, I.hJ⟩
      rw [e3, List.all_eq_true.2 fun y hy => ?_]
      obtain ⟨j, hj⟩ := List.mem_iff_getElem?.1 hy
      exact decide_eq_true (hsm j y (List.getElem?_eq_some_iff.1 hj).1 hj)
end Go.Proofs.Ytpjplicioidknaa
