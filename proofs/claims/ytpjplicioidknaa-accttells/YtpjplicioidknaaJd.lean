/- Sums, sameness, amounts: the program's Sum; the document's Sum, Same, Get. -/
import Derived.Test.YtpjplicioidknaaJc
namespace Go.Proofs.Ytpjplicioidknaa
open Go.RowKit Go.Sort
set_option linter.unusedVariables false
set_option maxRecDepth 100000
theorem smN_take {l : List Co} {s : ByteArray} {i : Nat} {x : Co} (h : l[i]? = some x) : smN (l.take (i + 1)) s = smN (l.take i) s + if x.2.1 = s then x.2.2 else 0 := sum_take _ l h
theorem smN_le {l : List Co} {s : ByteArray} (i : Nat) : smN (l.take i) s ≤ smN l s := sum_take_le _ l i
/-- What Sum answers. -/
def smV (l : List Co) (s : ByteArray) : Value := if smN l s < W then .tuple #[U (smN l s), .bool true] else .tuple #[U 0, .bool false]
theorem addOk {f : Nat} {V am : Nat} (hA : ∀ n m : Nat, n < W → m < W → ∀ w, Calls Try.prog f #[U n, U m] w fun e w' => e = .returned (.tuple #[U (addW n m), .bool (ovW n m)]) ∧ Below w.heap.size w w') (h1 : V < W) (h2 : am < W) (h : V + am < W) (w : World) : Calls Try.prog f #[U V, U am] w fun e w' => e = .returned (.tuple #[U (V + am), .bool false]) ∧ Below w.heap.size w w' := by
  have := hA V am h1 h2 w
  rwa [show addW V am = V + am from Nat.mod_eq_of_lt h, show ovW V am = false from decide_eq_false (by omega)] at this
theorem addNo {f : Nat} {V am : Nat} (hA : ∀ n m : Nat, n < W → m < W → ∀ w, Calls Try.prog f #[U n, U m] w fun e w' => e = .returned (.tuple #[U (addW n m), .bool (ovW n m)]) ∧ Below w.heap.size w w') (h1 : V < W) (h2 : am < W) (h : W ≤ V + am) (w : World) : Calls Try.prog f #[U V, U am] w fun e w' => e = .returned (.tuple #[U (addW V am), .bool true]) ∧ Below w.heap.size w w' := by
  have := hA V am h1 h2 w
  rwa [show ovW V am = true from decide_eq_true h] at this
abbrev suK : List Nat := [0, 1, 4, 5, 6, 11, 12, 13]
abbrev suV (v : Value) (s : ByteArray) (n i : Nat) : Vs := frm 33 [(0, Sum.inl v), (1, Sum.inl (.string s)), (4, Sum.inr (0, 0)), (5, Sum.inl (.bool false)), (6, Sum.inr (1, 0)), (11, Sum.inl v), (12, Sum.inl (Z n)), (13, Sum.inl (Z i))]
theorem sum_any {w : World} {v : Value} {l : List Co} (h : CoI w v l) (s : ByteArray) (hl : l.length < 1000000000) : Calls Try.prog 9 #[v, .string s] w fun e w' => e = .returned (smV l s) ∧ Below w.heap.size w w' := by
  obtain ⟨ad, cap, rfl, hm⟩ := h
  refine inQ (J := Below w.heap.size w) (F := (· < w.heap.size)) Try.func9 (Below.refl _ _) fun a I => ?_
  refine goQ [lnC ad l.length cap] (nonR w) I fun β a w1 I hb => ?_
  let St : Nat → Act → World → Prop := fun k a w' => ∃ (i : Nat) (β : Nat → Nat) (u : Nat → Value), k = l.length - i ∧ i ≤ l.length ∧ smN (l.take i) s < W ∧
    SI (Below w.heap.size w) (· < w.heap.size) [] β (cfC (bodyL Try.f9) (fillF (scrF 33 suK) u 0 (suV (.slice ad l.length cap) s l.length i)) [(0, rU 0), (1, rU (smN (l.take i) s))] 2) a w'
  refine lpM (bodyL Try.f9) St l.length ?_ ?_
  · obtain ⟨u, Iu⟩ := I.scr (bodyL Try.f9) (scrF 33 suK) (suV (.slice ad l.length cap) s l.length 0) [(0, rU 0), (1, rU 0)] 2
    exact ⟨0, β, u, by omega, Nat.zero_le _, by rw [List.take_zero]; exact W_pos, Iu⟩
  rintro k a3 w3 ⟨i, β3, u, rfl, hi, hW, I⟩
  obtain ⟨V, hV⟩ : ∃ V, smN (l.take i) s = V := ⟨_, rfl⟩
  rw [hV] at I hW
  refine wp_cfC (tm := fillF (scrF 33 suK) u 0 (suV (.slice ad l.length cap) s l.length i)) (rows := [(0, rU 0), (1, rU V)]) (nx := 2) ?_
  rcases Nat.lt_or_ge i l.length with hil | hil
  · obtain ⟨c, h1⟩ : ∃ t, l[i]? = some t := ⟨_, List.getElem?_eq_getElem hil⟩
    obtain ⟨g, off, cs, rfl, hlt, hca, rfl, ham⟩ := hm i _ h1
    have hstep := smN_take (s := s) h1
    rw [hV] at hstep
    have hld : ∀ w', Below w.heap.size w w' → (loadVar 41 ⟨g, off + i * 6, none⟩).run Try.prog w' = .ok (coV c) w' := fun w' hb => loadCo (hca.keep (hb.block g hlt))
    obtain ⟨wh, asst, am⟩ := c
    simp only [] at hstep ham
    by_cases has : ¬ asst = s
    · rw [if_neg has, Nat.add_zero] at hstep
      refine goT (T := Below w.heap.size w) [lT i l.length (by omega), ixC g off l.length cap i hil, ldA 41 hld, bO .neq 9 (neqT_run (a := asst) (b := s) (q := true) (decide_eq_true has)), p1 i (by omega)] (nonR w) (fun _ h => h) I fun β4 a4 w4 I hb4 => ?_
      obtain ⟨u', Iu⟩ := I.scr (bodyL Try.f9) (scrF 33 suK) (suV (.slice (some ⟨g, off, none⟩) l.length cap) s l.length (i + 1)) [(0, rU 0), (1, rU V)] 2
      exact endL ⟨l.length - (i + 1), by omega, i + 1, β4, u', rfl, hil, by rw [hstep]; exact hW, by rw [hstep]; exact Iu⟩
    have has := Classical.not_not.1 has
    rw [if_pos has] at hstep
    have hq := smN_le (l := l) (s := s) (i + 1)
    rcases Nat.lt_or_ge (V + am) W with hov | hov
    · have hA := addOk add_any hW ham hov
      refine goT (T := Below w.heap.size w) [lT i l.length (by omega), ixC g off l.length cap i hil, ldA 41 hld, bO .neq 9 (neqT_run (a := asst) (b := s) (q := false) (decide_eq_false (not_not_intro has))), kC Try.func22 hA, p1 i (by omega)] (nonR w) (fun _ h => h) I fun β4 a4 w4 I hb4 => ?_
      obtain ⟨u', Iu⟩ := I.scr (bodyL Try.f9) (scrF 33 suK) (suV (.slice (some ⟨g, off, none⟩) l.length cap) s l.length (i + 1)) [(0, rU 0), (1, rU (V + am))] 2
      exact endL ⟨l.length - (i + 1), by omega, i + 1, β4, u', rfl, hil, by rw [hstep]; exact hov, by rw [hstep]; exact Iu⟩
    · have hA := addNo add_any hW ham hov
      refine goT (T := Below w.heap.size w) [lT i l.length (by omega), ixC g off l.length cap i hil, ldA 41 hld, bO .neq 9 (neqT_run (a := asst) (b := s) (q := false) (decide_eq_false (not_not_intro has))), kC Try.func22 hA, dO 27 [] bd_Uz] (nonR w) (fun _ h => h) I fun β4 a4 w4 I hb4 => ?_
      refine endR (retV (v := .tuple #[U 0, .bool false]) I ⟨?_, I.hJ⟩)
      unfold smV
      rw [if_neg (by omega)]
  · obtain rfl : i = l.length := by omega
    rw [List.take_length] at hV
    refine goQ [lF l.length l.length (by omega)] (nonR w) I fun β4 a4 w4 I hb4 => ?_
    refine endE 0 ?_
    refine goQ [] (nonR w) (I.exit _) fun β5 a5 w5 I hb5 => ?_
    refine outQ (v := .tuple #[U V, .bool true]) I ⟨?_, I.hJ⟩
    unfold smV
    rw [hV, if_pos hW]
abbrev svK : List Nat := [0, 1, 4, 5, 6, 7]
abbrev svV (v : Value) (s : ByteArray) (i : Nat) : Vs := frm 38 [(0, Sum.inl v), (1, Sum.inl (.string s)), (4, Sum.inr (0, 0)), (5, Sum.inl (.bool false)), (6, Sum.inr (1, 0)), (7, Sum.inl (Z i))]
set_option maxHeartbeats 4000000 in
theorem rsum_any {w : World} {v : Value} {l : List Co} (h : CoI w v l) (s : ByteArray) (hl : l.length < 1000000000) : Calls Try.prog 10 #[v, .string s] w fun e w' => e = .returned (smV l s) ∧ Below w.heap.size w w' := by
  obtain ⟨ad, cap, rfl, hm⟩ := h
  refine inQ (J := Below w.heap.size w) (F := (· < w.heap.size)) Try.func10 (Below.refl _ _) fun a I => ?_
  refine goQ [dO 27 [] bd_Uz] (nonR w) I fun β a w1 I hb => ?_
  let St : Nat → Act → World → Prop := fun k a w' => ∃ (i : Nat) (β : Nat → Nat) (u : Nat → Value), k = l.length - i ∧ i ≤ l.length ∧ smN (l.take i) s < W ∧
    SI (Below w.heap.size w) (· < w.heap.size) [] β (cfC (bodyL Try.f10) (fillF (scrF 38 svK) u 0 (svV (.slice ad l.length cap) s i)) [(0, rU 0), (1, rU (smN (l.take i) s))] 2) a w'
  refine lpM (bodyL Try.f10) St l.length ?_ ?_
  · obtain ⟨u, Iu⟩ := I.scr (bodyL Try.f10) (scrF 38 svK) (svV (.slice ad l.length cap) s 0) [(0, rU 0), (1, rU 0)] 2
    exact ⟨0, β, u, by omega, Nat.zero_le _, by rw [List.take_zero]; exact W_pos, Iu⟩
  rintro k a3 w3 ⟨i, β3, u, rfl, hi, hW, I⟩
  obtain ⟨V, hV⟩ : ∃ V, smN (l.take i) s = V := ⟨_, rfl⟩
  rw [hV] at I hW
  refine wp_cfC (tm := fillF (scrF 38 svK) u 0 (svV (.slice ad l.length cap) s i)) (rows := [(0, rU 0), (1, rU V)]) (nx := 2) ?_
  rcases Nat.lt_or_ge i l.length with hil | hil
  · obtain ⟨c, h1⟩ : ∃ t, l[i]? = some t := ⟨_, List.getElem?_eq_getElem hil⟩
    obtain ⟨g, off, cs, rfl, hlt, hca, rfl, ham⟩ := hm i _ h1
    have hstep := smN_take (s := s) h1
    rw [hV] at hstep
    have hlA : ∀ w', Below w.heap.size w w' → (loadVar 9 ⟨g, off + i * 6 + 1, none⟩).run Try.prog w' = .ok (.string c.2.1) w' := fun w' hb => loadA (hca.keep (hb.block g hlt))
    have hlU : ∀ w', Below w.heap.size w w' → (loadVar 27 ⟨g, off + i * 6 + 2, none⟩).run Try.prog w' = .ok (U c.2.2) w' := fun w' hb => loadU (hca.keep (hb.block g hlt))
    obtain ⟨wh, asst, am⟩ := c
    simp only [] at hstep ham hlA hlU
    by_cases has : ¬ asst = s
    · rw [if_neg has, Nat.add_zero] at hstep
      refine goT (T := Below w.heap.size w) [lnC (some ⟨g, off, none⟩) l.length cap, lT i l.length (by omega), ixC g off l.length cap i hil, ldA 9 hlA, bO .neq 9 (neqT_run (a := asst) (b := s) (q := true) (decide_eq_true has)), p1 i (by omega)] (nonR w) (fun _ h => h) I fun β4 a4 w4 I hb4 => ?_
      obtain ⟨u', Iu⟩ := I.scr (bodyL Try.f10) (scrF 38 svK) (svV (.slice (some ⟨g, off, none⟩) l.length cap) s (i + 1)) [(0, rU 0), (1, rU V)] 2
      exact endL ⟨l.length - (i + 1), by omega, i + 1, β4, u', rfl, hil, by rw [hstep]; exact hW, by rw [hstep]; exact Iu⟩
    have has := Classical.not_not.1 has
    rw [if_pos has] at hstep
    have hq := smN_le (l := l) (s := s) (i + 1)
    refine goT (T := Below w.heap.size w) [lnC (some ⟨g, off, none⟩) l.length cap, lT i l.length (by omega), ixC g off l.length cap i hil, ldA 9 hlA, bO .neq 9 (neqT_run (a := asst) (b := s) (q := false) (decide_eq_false (not_not_intro has)))] (nonR w) (fun _ h => h) I fun β4 a4 w4 I hb4 => ?_
    rcases Nat.lt_or_ge (V + am) W with hov | hov
    · have hA := addOk radd_any hW ham hov
      obtain ⟨V2, hV2⟩ : ∃ V2, V + am = V2 := ⟨_, rfl⟩
      rw [hV2] at hA hov hstep
      refine dwA (T := Below w.heap.size w) 10 11 8 32 V2 [ixC g off l.length cap i hil, ldA 27 hlU, kC Try.func20 hA] (nonR w) (fun _ h => h) I fun b vs β5 a5 w5 hag I => ?_
      refine goQ [p1 i (by omega)] (nonR w) I fun β6 a6 w6 I hb6 => ?_
      obtain ⟨u', Iu⟩ := I.scr (bodyL Try.f10) (scrF 38 svK) (svV (.slice (some ⟨g, off, none⟩) l.length cap) s (i + 1)) [(0, rU 0), (1, rU V2)] 2
      exact endL ⟨l.length - (i + 1), by omega, i + 1, β6, u', rfl, hil, by rw [hstep]; exact hov, by rw [hstep]; exact Iu⟩
    · have hA := addNo radd_any hW ham hov
      generalize addW V am = V2 at hA
      refine dwA (T := Below w.heap.size w) 10 11 8 32 V2 [ixC g off l.length cap i hil, ldA 27 hlU, kC Try.func20 hA] (nonR w) (fun _ h => h) I fun b vs β5 a5 w5 hag I => ?_
      refine goQ [dO 27 [] bd_Uz] (nonR w) I fun β6 a6 w6 I hb6 => ?_
      refine endR (retV (v := .tuple #[U 0, .bool false]) I ⟨?_, I.hJ⟩)
      unfold smV
      rw [if_neg (by omega)]
  · obtain rfl : i = l.length := by omega
    rw [List.take_length] at hV
    refine goQ [lnC ad l.length cap, lF l.length l.length (by omega)] (nonR w) I fun β4 a4 w4 I hb4 => ?_
    refine endE 0 ?_
    refine goQ [] (nonR w) (I.exit _) fun β5 a5 w5 I hb5 => ?_
    refine outQ (v := .tuple #[U V, .bool true]) I ⟨?_, I.hJ⟩
    unfold smV
    rw [hV, if_pos hW]
abbrev saK : List Nat := [0, 1, 4, 5]
abbrev saV (v v2 : Value) (i : Nat) : Vs := frm 26 [(0, Sum.inl v), (1, Sum.inl v2), (4, Sum.inl (.bool false)), (5, Sum.inl (Z i))]
theorem same_any {w : World} {v v2 : Value} {l m : List Co} (h : CoI w v l) (h2 : CoI w v2 m) (hl : l.length < 1000000000) : Calls Try.prog 19 #[v, v2] w fun e w' => e = .returned (.bool (decide (l = m))) ∧ Below w.heap.size w w' := by
  obtain ⟨ad, cap, rfl, hm⟩ := h
  obtain ⟨ad2, cap2, rfl, hm2⟩ := h2
  refine inQ (J := Below w.heap.size w) (F := (· < w.heap.size)) Try.func19 (Below.refl _ _) fun a I => ?_
  by_cases h4 : ¬ l.length = m.length
  · refine goQ [lnC ad l.length cap, lnC ad2 m.length cap2, bO .neq 3 (run_neqZ (x := l.length) (y := m.length) (b := true) (decide_eq_true (by omega)))] (nonR w) I fun β a w1 I hb => ?_
    exact outQ (v := .bool false) I ⟨by rw [decide_eq_false (fun e : l = m => h4 (by rw [e]))], I.hJ⟩
  have h4 := Classical.not_not.1 h4
  refine goQ [lnC ad l.length cap, lnC ad2 m.length cap2, bO .neq 3 (run_neqZ (x := l.length) (y := m.length) (b := false) (decide_eq_false (by omega)))] (nonR w) I fun β a w1 I hb => ?_
  let St : Nat → Act → World → Prop := fun k a w' => ∃ (i : Nat) (β : Nat → Nat) (u : Nat → Value), k = l.length - i ∧ i ≤ l.length ∧ (∀ j, j < i → l[j]? = m[j]?) ∧
    SI (Below w.heap.size w) (· < w.heap.size) [] β (cfC (bodyL Try.f19) (fillF (scrF 26 saK) u 0 (saV (.slice ad l.length cap) (.slice ad2 m.length cap2) i)) [] 0) a w'
  refine lpM (bodyL Try.f19) St l.length ?_ ?_
  · obtain ⟨u, Iu⟩ := I.scr (bodyL Try.f19) (scrF 26 saK) (saV (.slice ad l.length cap) (.slice ad2 m.length cap2) 0) [] 0
    exact ⟨0, β, u, by omega, Nat.zero_le _, fun j h => absurd h (Nat.not_lt_zero j), Iu⟩
  rintro k a3 w3 ⟨i, β3, u, rfl, hi, hok, I⟩
  refine wp_cfC (tm := fillF (scrF 26 saK) u 0 (saV (.slice ad l.length cap) (.slice ad2 m.length cap2) i)) (rows := []) (nx := 0) ?_
  rcases Nat.lt_or_ge i l.length with hil | hil
  · have hil2 : i < m.length := by omega
    obtain ⟨x, k1⟩ : ∃ t, l[i]? = some t := ⟨_, List.getElem?_eq_getElem hil⟩
    obtain ⟨y, k2⟩ : ∃ t, m[i]? = some t := ⟨_, List.getElem?_eq_getElem hil2⟩
    obtain ⟨g, off, cs, rfl, hlt, hca, rfl, hx⟩ := hm i _ k1
    obtain ⟨g2, off2, cs2, rfl, hlt2, hcb, rfl, hy⟩ := hm2 i _ k2
    have hld : ∀ w', Below w.heap.size w w' → (loadVar 41 ⟨g, off + i * 6, none⟩).run Try.prog w' = .ok (coV x) w' := fun w' hb => loadCo (hca.keep (hb.block g hlt))
    have hld2 : ∀ w', Below w.heap.size w w' → (loadVar 41 ⟨g2, off2 + i * 6, none⟩).run Try.prog w' = .ok (coV y) w' := fun w' hb => loadCo (hcb.keep (hb.block g2 hlt2))
    refine goQ [lnC (some ⟨g, off, none⟩) l.length cap, lT i l.length (by omega)] (nonR w) I fun β4 a4 w4 I hb4 => ?_
    by_cases hxy : ¬ x = y
    · refine dwT (T := Below w.heap.size w) 9 [ixC g off l.length cap i hil, ldA 41 hld, ixC g2 off2 m.length cap2 i hil2, ldA 41 hld2, bO .neq 41 (neqCo_run hx hy (q := true) (decide_eq_true hxy))] (nonR w) (fun _ h => h) (PanOk.then (PanOk.qk PanOk.post)) I fun a5 w5 I => ?_
      refine goQ [] (nonR w) I fun β6 a6 w6 I hb6 => ?_
      refine endR (retV (v := .bool false) I ⟨?_, I.hJ⟩)
      rw [decide_eq_false (show ¬ l = m from fun h => hxy (by rw [h] at k1; rw [k1] at k2; cases k2; rfl))]
    have hxy := Classical.not_not.1 hxy
    refine dwT (T := Below w.heap.size w) 9 [ixC g off l.length cap i hil, ldA 41 hld, ixC g2 off2 m.length cap2 i hil2, ldA 41 hld2, bO .neq 41 (neqCo_run hx hy (q := false) (decide_eq_false (not_not_intro hxy)))] (nonR w) (fun _ h => h) (PanOk.then (PanOk.qk PanOk.post)) I fun a5 w5 I => ?_
    refine goQ [p1 i (by omega)] (nonR w) I fun β6 a6 w6 I hb6 => ?_
    obtain ⟨u', Iu⟩ := I.scr (bodyL Try.f19) (scrF 26 saK) (saV (.slice (some ⟨g, off, none⟩) l.length cap) (.slice (some ⟨g2, off2, none⟩) m.length cap2) (i + 1)) [] 0
    refine endL ⟨l.length - (i + 1), by omega, i + 1, β6, u', rfl, hil, fun j hj => ?_, Iu⟩
    rcases Nat.lt_or_ge j i with hji | hji
    · exact hok j hji
    · obtain rfl : j = i := by omega
      rw [k1, k2, hxy]
  · obtain rfl : i = l.length := by omega
    refine goQ [lnC ad l.length cap, lF l.length l.length (by omega)] (nonR w) I fun β4 a4 w4 I hb4 => ?_
    refine endE 0 ?_
    refine goQ [] (nonR w) (I.exit _) fun β5 a5 w5 I hb5 => ?_
    refine outQ (v := .bool true) I ⟨?_, I.hJ⟩
    rw [decide_eq_true]
    refine List.ext_getElem? fun j => ?_
    rcases Nat.lt_or_ge j l.length with hj | hj
    · exact hok j hj
    · rw [List.getElem?_eq_none hj, List.getElem?_eq_none (by omega)]
abbrev geK : List Nat := [0, 1, 2, 6, 7]
abbrev geV (v : Value) (x y : ByteArray) (i : Nat) : Vs := frm 36 [(0, Sum.inl v), (1, Sum.inl (.string x)), (2, Sum.inl (.string y)), (6, Sum.inr (0, 0)), (7, Sum.inl (Z i))]
theorem find_at {l : List Co} {k : Kk} {i : Nat} {c : Co} (h : ∀ j x, j < i → l[j]? = some x → ky x ≠ k) (hc : l[i]? = some c) (hk : ky c = k) : getN l k = c.2.2 := by
  have hi := (List.getElem?_eq_some_iff.1 hc).1
  have e : l = l.take i ++ c :: l.drop (i + 1) := by
    conv => lhs; rw [← List.take_append_drop i l]
    congr 1
    rw [List.drop_eq_getElem_cons hi]
    congr 1
    exact (List.getElem?_eq_some_iff.1 hc).2
  unfold getN
  rw [e, List.find?_append, find_none fun x hx => ?_]
  · simp [hk]
  · obtain ⟨j, hj⟩ := List.mem_iff_getElem?.1 hx
    have hjl := (List.getElem?_eq_some_iff.1 hj).1
    rw [List.length_take] at hjl
    rw [List.getElem?_take_of_lt (by omega)] at hj
    exact h j x (by omega) hj
theorem rget_any {w : World} {v : Value} {l : List Co} (h : CoI w v l) (x y : ByteArray) (hl : l.length < 1000000000) : Calls Try.prog 14 #[v, .string x, .string y] w fun e w' => e = .returned (U (getN l (x, y))) ∧ Below w.heap.size w w' := by
  obtain ⟨ad, cap, rfl, hm⟩ := h
  refine inQ (J := Below w.heap.size w) (F := (· < w.heap.size)) Try.func14 (Below.refl _ _) fun a I => ?_
  refine goQ [] (nonR w) I fun β a w1 I hb => ?_
  let St : Nat → Act → World → Prop := fun k a w' => ∃ (i : Nat) (β : Nat → Nat) (u : Nat → Value), k = l.length - i ∧ i ≤ l.length ∧ (∀ j c, j < i → l[j]? = some c → ky c ≠ (x, y)) ∧
    SI (Below w.heap.size w) (· < w.heap.size) [] β (cfC (bodyL Try.f14) (fillF (scrF 36 geK) u 0 (geV (.slice ad l.length cap) x y i)) [(0, rU 0)] 1) a w'
  refine lpM (bodyL Try.f14) St l.length ?_ ?_
  · obtain ⟨u, Iu⟩ := I.scr (bodyL Try.f14) (scrF 36 geK) (geV (.slice ad l.length cap) x y 0) [(0, rU 0)] 1
    exact ⟨0, β, u, by omega, Nat.zero_le _, fun j c h => absurd h (Nat.not_lt_zero j), Iu⟩
  rintro k a3 w3 ⟨i, β3, u, rfl, hi, hok, I⟩
  refine wp_cfC (tm := fillF (scrF 36 geK) u 0 (geV (.slice ad l.length cap) x y i)) (rows := [(0, rU 0)]) (nx := 1) ?_
  rcases Nat.lt_or_ge i l.length with hil | hil
  · obtain ⟨c, h1⟩ : ∃ t, l[i]? = some t := ⟨_, List.getElem?_eq_getElem hil⟩
    obtain ⟨g, off, cs, rfl, hlt, hca, rfl, ham⟩ := hm i _ h1
    have hlW : ∀ w', Below w.heap.size w w' → (loadVar 9 ⟨g, off + i * 6 + 0, none⟩).run Try.prog w' = .ok (.string c.1) w' := fun w' hb => loadW (hca.keep (hb.block g hlt))
    have hlA : ∀ w', Below w.heap.size w w' → (loadVar 9 ⟨g, off + i * 6 + 1, none⟩).run Try.prog w' = .ok (.string c.2.1) w' := fun w' hb => loadA (hca.keep (hb.block g hlt))
    have hlU : ∀ w', Below w.heap.size w w' → (loadVar 27 ⟨g, off + i * 6 + 2, none⟩).run Try.prog w' = .ok (U c.2.2) w' := fun w' hb => loadU (hca.keep (hb.block g hlt))
    obtain ⟨wh, asst, am⟩ := c
    simp only [] at ham hlW hlA hlU
    have go : ¬ (wh = x ∧ asst = y) → ∀ j c, j < i + 1 → l[j]? = some c → ky c ≠ (x, y) := fun hn j c hj hc => by
      rcases Nat.lt_or_ge j i with hji | hji
      · exact hok j c hji hc
      · obtain rfl : j = i := by omega
        rw [h1] at hc; cases hc
        intro e
        unfold ky at e
        simp only [Prod.mk.injEq] at e
        exact hn e
    by_cases q1 : wh = x
    · by_cases q2 : asst = y
      · refine goT (T := Below w.heap.size w) [lnC (some ⟨g, off, none⟩) l.length cap, lT i l.length (by omega), ixC g off l.length cap i hil, ldA 9 hlW, bO .eql 9 (eqT_run (a := wh) (b := x) (q := true) (decide_eq_true q1)), ixC g off l.length cap i hil, ldA 9 hlA, bO .eql 9 (eqT_run (a := asst) (b := y) (q := true) (decide_eq_true q2)), ixC g off l.length cap i hil, ldA 27 hlU] (nonR w) (fun _ h => h) I fun β4 a4 w4 I hb4 => ?_
        refine endR (retV (v := U am) I ⟨?_, I.hJ⟩)
        rw [find_at hok h1 (by rw [← q1, ← q2]; rfl)]
      · refine goT (T := Below w.heap.size w) [lnC (some ⟨g, off, none⟩) l.length cap, lT i l.length (by omega), ixC g off l.length cap i hil, ldA 9 hlW, bO .eql 9 (eqT_run (a := wh) (b := x) (q := true) (decide_eq_true q1)), ixC g off l.length cap i hil, ldA 9 hlA, bO .eql 9 (eqT_run (a := asst) (b := y) (q := false) (decide_eq_false q2)), p1 i (by omega)] (nonR w) (fun _ h => h) I fun β4 a4 w4 I hb4 => ?_
        obtain ⟨u', Iu⟩ := I.scr (bodyL Try.f14) (scrF 36 geK) (geV (.slice (some ⟨g, off, none⟩) l.length cap) x y (i + 1)) [(0, rU 0)] 1
        exact endL ⟨l.length - (i + 1), by omega, i + 1, β4, u', rfl, hil, go fun h => q2 h.2, Iu⟩
    · refine goT (T := Below w.heap.size w) [lnC (some ⟨g, off, none⟩) l.length cap, lT i l.length (by omega), ixC g off l.length cap i hil, ldA 9 hlW, bO .eql 9 (eqT_run (a := wh) (b := x) (q := false) (decide_eq_false q1)), p1 i (by omega)] (nonR w) (fun _ h => h) I fun β4 a4 w4 I hb4 => ?_
      obtain ⟨u', Iu⟩ := I.scr (bodyL Try.f14) (scrF 36 geK) (geV (.slice (some ⟨g, off, none⟩) l.length cap) x y (i + 1)) [(0, rU 0)] 1
      exact endL ⟨l.length - (i + 1), by omega, i + 1, β4, u', rfl, hil, go fun h => q1 h.1, Iu⟩
  · obtain rfl : i = l.length := by omega
    refine goQ [lnC ad l.length cap, lF l.length l.length (by omega)] (nonR w) I fun β4 a4 w4 I hb4 => ?_
    refine endE 0 ?_
    refine goQ [dO 27 [] bd_Uz] (nonR w) (I.exit _) fun β5 a5 w5 I hb5 => ?_
    refine outQ (v := U 0) I ⟨?_, I.hJ⟩
    have : getN l (x, y) = 0 := by
      unfold getN
      rw [find_none fun c hc => ?_]
      obtain ⟨j, hj⟩ := List.mem_iff_getElem?.1 hc
      exact hok j c (List.getElem?_eq_some_iff.1 hj).1 hj
    rw [this]
end Go.Proofs.Ytpjplicioidknaa
