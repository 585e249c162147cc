/- Sameness of lists; places that are named. -/
import Derived.Test.YtabghfcjpaileaaPf
namespace Go.Proofs.Ytabghfcjpaileaa
open Go.RowKit Go.Sort
set_option linter.unusedVariables false
set_option maxRecDepth 100000
abbrev saK : List Nat := [0, 1, 4, 5]
abbrev sameV (v v2 : Value) (i : Nat) : Vs := frm 26 [(0, Sum.inl v), (1, Sum.inl v2), (4, Sum.inl (.bool false)), (5, Sum.inl (Z i))]
theorem same_any {w : World} {v v2 : Value} {l m : List Al} (h : SlI 8 C8 (· < w.heap.size) w v l) (h2 : SlI 8 C8 (· < w.heap.size) w v2 m) (hl : l.length < 1000000000) : Calls Try.prog 14 #[v, v2] w fun e w' => e = .returned (.bool (decide (l = m))) ∧ Below w.heap.size w w' := by
  obtain ⟨ad, cap, rfl, hm⟩ := h
  obtain ⟨ad2, cap2, rfl, hm2⟩ := h2
  refine inQ (J := Below w.heap.size w) (F := (· < w.heap.size)) Try.func14 (Below.refl _ _) fun a I => ?_
  by_cases h4 : ¬ l.length = m.length
  · refine goQ [lnA ad l.length cap, lnA ad2 m.length cap2, bO .neq 3 (run_neqZ (x := l.length) (y := m.length) (b := true) (decide_eq_true (by omega)))] (nonR w) I fun β a w1 I hb => ?_
    exact outQ (v := .bool false) I ⟨by rw [decide_eq_false (fun e : l = m => h4 (by rw [e]))], I.hJ⟩
  have h4 := Classical.not_not.1 h4
  refine goQ [lnA ad l.length cap, lnA ad2 m.length cap2, bO .neq 3 (run_neqZ (x := l.length) (y := m.length) (b := false) (decide_eq_false (by omega)))] (nonR w) I fun β a w1 I hb => ?_
  let St : Nat → Act → World → Prop := fun k a w' => ∃ (i : Nat) (β : Nat → Nat) (u : Nat → Value), k = l.length - i ∧ i ≤ l.length ∧ (∀ j, j < i → l[j]? = m[j]?) ∧
    SI (Below w.heap.size w) (· < w.heap.size) [] β (cfC (bodyL Try.f14) (fillF (scrF 26 saK) u 0 (sameV (.slice ad l.length cap) (.slice ad2 m.length cap2) i)) [] 0) a w'
  refine lpM (bodyL Try.f14) St l.length ?_ ?_
  · obtain ⟨u, Iu⟩ := I.scr (bodyL Try.f14) (scrF 26 saK) (sameV (.slice ad l.length cap) (.slice ad2 m.length cap2) 0) [] 0
    exact ⟨0, β, u, by omega, Nat.zero_le _, fun j h => absurd h (Nat.not_lt_zero j), Iu⟩
  rintro k a3 w3 ⟨i, β3, u, rfl, hi, hok, I⟩
  refine wp_cfC (tm := fillF (scrF 26 saK) u 0 (sameV (.slice ad l.length cap) (.slice ad2 m.length cap2) i)) (rows := []) (nx := 0) ?_
  rcases Nat.lt_or_ge i l.length with hil | hil
  · have hil2 : i < m.length := by omega
    obtain ⟨x, k1⟩ : ∃ t, l[i]? = some t := ⟨_, List.getElem?_eq_getElem hil⟩
    obtain ⟨y, k2⟩ : ∃ t, m[i]? = some t := ⟨_, List.getElem?_eq_getElem hil2⟩
    obtain ⟨g, off, cs, rfl, hlt, hca, rfl, hx⟩ := hm i _ k1
    obtain ⟨g2, off2, cs2, rfl, hlt2, hcb, rfl, hy⟩ := hm2 i _ k2
    have hld : ∀ w', Below w.heap.size w w' → (loadVar 42 ⟨g, off + i * 8, none⟩).run Try.prog w' = .ok (alV x) w' := fun w' hb => loadAl (hca.keep (hb.block g hlt))
    have hld2 : ∀ w', Below w.heap.size w w' → (loadVar 42 ⟨g2, off2 + i * 8, none⟩).run Try.prog w' = .ok (alV y) w' := fun w' hb => loadAl (hcb.keep (hb.block g2 hlt2))
    refine goQ [lnA (some ⟨g, off, none⟩) l.length cap, lT i l.length (by omega)] (nonR w) I fun β4 a4 w4 I hb4 => ?_
    by_cases hxy : ¬ x = y
    · refine dwT (T := Below w.heap.size w) 9 [ixA g off l.length cap i hil, ldA 42 hld, ixA g2 off2 m.length cap2 i hil2, ldA 42 hld2, bO .neq 42 (neqAl_run hx hy (decide_eq_true hxy))] (nonR w) (fun _ h => h) (PanOk.then (PanOk.qk PanOk.post)) I fun a5 w5 I => ?_
      refine goQ [] (nonR w) I fun β6 a6 w6 I hb6 => ?_
      refine endR (retV (v := .bool false) I ⟨?_, I.hJ⟩)
      rw [decide_eq_false (show ¬ l = m from fun h => hxy (by rw [h] at k1; rw [k1] at k2; cases k2; rfl))]
    have hxy := Classical.not_not.1 hxy
    refine dwT (T := Below w.heap.size w) 9 [ixA g off l.length cap i hil, ldA 42 hld, ixA g2 off2 m.length cap2 i hil2, ldA 42 hld2, bO .neq 42 (neqAl_run hx hy (decide_eq_false (not_not_intro hxy)))] (nonR w) (fun _ h => h) (PanOk.then (PanOk.qk PanOk.post)) I fun a5 w5 I => ?_
    refine goQ [p1 i (by omega)] (nonR w) I fun β6 a6 w6 I hb6 => ?_
    obtain ⟨u', Iu⟩ := I.scr (bodyL Try.f14) (scrF 26 saK) (sameV (.slice (some ⟨g, off, none⟩) l.length cap) (.slice (some ⟨g2, off2, none⟩) m.length cap2) (i + 1)) [] 0
    refine endL ⟨l.length - (i + 1), by omega, i + 1, β6, u', rfl, hil, fun j hj => ?_, Iu⟩
    rcases Nat.lt_or_ge j i with hji | hji
    · exact hok j hji
    · obtain rfl : j = i := by omega
      rw [k1, k2, hxy]
  · obtain rfl : i = l.length := by omega
    refine goQ [lnA ad l.length cap, lF l.length l.length (by omega)] (nonR w) I fun β4 a4 w4 I hb4 => ?_
    refine endE 0 ?_
    refine goQ [] (nonR w) (I.exit _) fun β5 a5 w5 I hb5 => ?_
    refine outQ (v := .bool true) I ⟨?_, I.hJ⟩
    rw [decide_eq_true (show l = m from List.ext_getElem? fun j => by
      rcases Nat.lt_or_ge j l.length with hj | hj
      · exact hok j hj
      · rw [List.getElem?_eq_none hj, List.getElem?_eq_none (by omega)])]
abbrev numsV (v v2 : Value) (i : Nat) : Vs := frm 26 [(0, Sum.inl v), (1, Sum.inl v2), (4, Sum.inl (.bool false)), (5, Sum.inl (Z i))]
theorem nums_any {w : World} {v v2 : Value} {l m : List Nat} (h : SlI 4 C4 (· < w.heap.size) w v l) (h2 : SlI 4 C4 (· < w.heap.size) w v2 m) (hl : l.length < 1000000000) : Calls Try.prog 11 #[v, v2] w fun e w' => e = .returned (.bool (decide (l = m))) ∧ Below w.heap.size w w' := by
  obtain ⟨ad, cap, rfl, hm⟩ := h
  obtain ⟨ad2, cap2, rfl, hm2⟩ := h2
  refine inQ (J := Below w.heap.size w) (F := (· < w.heap.size)) Try.func11 (Below.refl _ _) fun a I => ?_
  by_cases h4 : ¬ l.length = m.length
  · refine goQ [lnU ad l.length cap, lnU ad2 m.length cap2, bO .neq 3 (run_neqZ (x := l.length) (y := m.length) (b := true) (decide_eq_true (by omega)))] (nonR w) I fun β a w1 I hb => ?_
    exact outQ (v := .bool false) I ⟨by rw [decide_eq_false (fun e : l = m => h4 (by rw [e]))], I.hJ⟩
  have h4 := Classical.not_not.1 h4
  refine goQ [lnU ad l.length cap, lnU ad2 m.length cap2, bO .neq 3 (run_neqZ (x := l.length) (y := m.length) (b := false) (decide_eq_false (by omega)))] (nonR w) I fun β a w1 I hb => ?_
  let St : Nat → Act → World → Prop := fun k a w' => ∃ (i : Nat) (β : Nat → Nat) (u : Nat → Value), k = l.length - i ∧ i ≤ l.length ∧ (∀ j, j < i → l[j]? = m[j]?) ∧
    SI (Below w.heap.size w) (· < w.heap.size) [] β (cfC (bodyL Try.f11) (fillF (scrF 26 saK) u 0 (numsV (.slice ad l.length cap) (.slice ad2 m.length cap2) i)) [] 0) a w'
  refine lpM (bodyL Try.f11) St l.length ?_ ?_
  · obtain ⟨u, Iu⟩ := I.scr (bodyL Try.f11) (scrF 26 saK) (numsV (.slice ad l.length cap) (.slice ad2 m.length cap2) 0) [] 0
    exact ⟨0, β, u, by omega, Nat.zero_le _, fun j h => absurd h (Nat.not_lt_zero j), Iu⟩
  rintro k a3 w3 ⟨i, β3, u, rfl, hi, hok, I⟩
  refine wp_cfC (tm := fillF (scrF 26 saK) u 0 (numsV (.slice ad l.length cap) (.slice ad2 m.length cap2) i)) (rows := []) (nx := 0) ?_
  rcases Nat.lt_or_ge i l.length with hil | hil
  · have hil2 : i < m.length := by omega
    obtain ⟨x, k1⟩ : ∃ t, l[i]? = some t := ⟨_, List.getElem?_eq_getElem hil⟩
    obtain ⟨y, k2⟩ : ∃ t, m[i]? = some t := ⟨_, List.getElem?_eq_getElem hil2⟩
    obtain ⟨g, off, cs, rfl, hlt, hca, rfl, hx⟩ := hm i _ k1
    obtain ⟨g2, off2, cs2, rfl, hlt2, hcb, rfl, hy⟩ := hm2 i _ k2
    have hld : ∀ w', Below w.heap.size w w' → (loadVar 24 ⟨g, off + i * 4, none⟩).run Try.prog w' = .ok (U x) w' := fun w' hb => loadNu (hca.keep (hb.block g hlt))
    have hld2 : ∀ w', Below w.heap.size w w' → (loadVar 24 ⟨g2, off2 + i * 4, none⟩).run Try.prog w' = .ok (U y) w' := fun w' hb => loadNu (hcb.keep (hb.block g2 hlt2))
    refine goQ [lnU (some ⟨g, off, none⟩) l.length cap, lT i l.length (by omega)] (nonR w) I fun β4 a4 w4 I hb4 => ?_
    by_cases hxy : ¬ x = y
    · refine dwT (T := Below w.heap.size w) 9 [ixU g off l.length cap i hil, ldA 24 hld, ixU g2 off2 m.length cap2 i hil2, ldA 24 hld2, bO .neq 24 (neqU_run hx hy (decide_eq_true hxy))] (nonR w) (fun _ h => h) (PanOk.then (PanOk.qk PanOk.post)) I fun a5 w5 I => ?_
      refine goQ [] (nonR w) I fun β6 a6 w6 I hb6 => ?_
      refine endR (retV (v := .bool false) I ⟨?_, I.hJ⟩)
      rw [decide_eq_false (show ¬ l = m from fun h => hxy (by rw [h] at k1; rw [k1] at k2; cases k2; rfl))]
    have hxy := Classical.not_not.1 hxy
    refine dwT (T := Below w.heap.size w) 9 [ixU g off l.length cap i hil, ldA 24 hld, ixU g2 off2 m.length cap2 i hil2, ldA 24 hld2, bO .neq 24 (neqU_run hx hy (decide_eq_false (not_not_intro hxy)))] (nonR w) (fun _ h => h) (PanOk.then (PanOk.qk PanOk.post)) I fun a5 w5 I => ?_
    refine goQ [p1 i (by omega)] (nonR w) I fun β6 a6 w6 I hb6 => ?_
    obtain ⟨u', Iu⟩ := I.scr (bodyL Try.f11) (scrF 26 saK) (numsV (.slice (some ⟨g, off, none⟩) l.length cap) (.slice (some ⟨g2, off2, none⟩) m.length cap2) (i + 1)) [] 0
    refine endL ⟨l.length - (i + 1), by omega, i + 1, β6, u', rfl, hil, fun j hj => ?_, Iu⟩
    rcases Nat.lt_or_ge j i with hji | hji
    · exact hok j hji
    · obtain rfl : j = i := by omega
      rw [k1, k2, hxy]
  · obtain rfl : i = l.length := by omega
    refine goQ [lnU ad l.length cap, lF l.length l.length (by omega)] (nonR w) I fun β4 a4 w4 I hb4 => ?_
    refine endE 0 ?_
    refine goQ [] (nonR w) (I.exit _) fun β5 a5 w5 I hb5 => ?_
    refine outQ (v := .bool true) I ⟨?_, I.hJ⟩
    rw [decide_eq_true (show l = m from List.ext_getElem? fun j => by
      rcases Nat.lt_or_ge j l.length with hj | hj
      · exact hok j hj
      · rw [List.getElem?_eq_none hj, List.getElem?_eq_none (by omega)])]
theorem few_any {w : World} {v v2 : Value} {l : List Al} {p : List Int} (h : AlI w v l) (h2 : InI w v2 p) : Calls Try.prog 7 #[v, v2] w fun e w' => e = .returned (.bool (decide (l.length ≤ 60 ∧ p.length ≤ 100))) ∧ Below w.heap.size w w' := by
  obtain ⟨ad, cap, rfl, hm⟩ := h
  obtain ⟨ad2, cap2, rfl, hm2⟩ := h2
  refine inQ (J := Below w.heap.size w) (F := (· < w.heap.size)) Try.func7 (Below.refl _ _) fun a I => ?_
  by_cases h1 : l.length ≤ 60
  · obtain ⟨q, hq⟩ : ∃ q, decide (l.length ≤ 60 ∧ p.length ≤ 100) = q := ⟨_, rfl⟩
    have hq' : decide ((p.length : Int) ≤ 100) = q := by rw [← hq]; congr 1; apply propext; omega
    rw [hq]
    refine goQ [lnA ad l.length cap, bO .leq 3 (run_leqZ (x := l.length) (y := 60) (b := true) (decide_eq_true (by omega))), lnI ad2 p.length cap2, bO .leq 3 (run_leqZ (x := p.length) (y := 100) (b := q) hq')] (nonR w) I fun β a w1 I hb => ?_
    exact outQ (v := .bool q) I ⟨rfl, I.hJ⟩
  · rw [decide_eq_false (by omega)]
    refine goQ [lnA ad l.length cap, bO .leq 3 (run_leqZ (x := l.length) (y := 60) (b := false) (decide_eq_false (by omega)))] (nonR w) I fun β a w1 I hb => ?_
    exact outQ (v := .bool false) I ⟨rfl, I.hJ⟩
/-- Whether a place is named. -/
def nmB (p : List Int) (k : Int) : Bool := decide (k ∈ p) || decide (p.length = 0)
abbrev rnK : List Nat := [0, 1, 4, 5]
abbrev rnV (v : Value) (k : Int) (i : Nat) : Vs := frm 21 [(0, Sum.inl v), (1, Sum.inl (Z k)), (4, Sum.inl (.bool false)), (5, Sum.inl (Z i))]
theorem rnamed_any {w : World} {v : Value} {p : List Int} (h : InI w v p) (hl : p.length < 1000000000) (k : Int) : Calls Try.prog 22 #[v, Z k] w fun e w' => e = .returned (.bool (nmB p k)) ∧ Below w.heap.size w w' := by
  obtain ⟨ad, cap, rfl, hm⟩ := h
  refine inQ (J := Below w.heap.size w) (F := (· < w.heap.size)) Try.func22 (Below.refl _ _) fun a I => ?_
  refine goQ [] (nonR w) I fun β a w1 I hb => ?_
  let St : Nat → Act → World → Prop := fun q a w' => ∃ (i : Nat) (β : Nat → Nat) (u : Nat → Value), q = p.length - i ∧ i ≤ p.length ∧ (∀ j, j < i → p[j]? ≠ some k) ∧
    SI (Below w.heap.size w) (· < w.heap.size) [] β (cfC (bodyL Try.f22) (fillF (scrF 21 rnK) u 0 (rnV (.slice ad p.length cap) k i)) [] 0) a w'
  refine lpM (bodyL Try.f22) St p.length ?_ ?_
  · obtain ⟨u, Iu⟩ := I.scr (bodyL Try.f22) (scrF 21 rnK) (rnV (.slice ad p.length cap) k 0) [] 0
    exact ⟨0, β, u, by omega, Nat.zero_le _, fun j h => absurd h (Nat.not_lt_zero j), Iu⟩
  rintro q a3 w3 ⟨i, β3, u, rfl, hi, hok, I⟩
  refine wp_cfC (tm := fillF (scrF 21 rnK) u 0 (rnV (.slice ad p.length cap) k i)) (rows := []) (nx := 0) ?_
  rcases Nat.lt_or_ge i p.length with hil | hil
  · obtain ⟨x, k1⟩ : ∃ t, p[i]? = some t := ⟨_, List.getElem?_eq_getElem hil⟩
    obtain ⟨g, off, cs, rfl, hlt, hca, rfl⟩ := hm i _ k1
    have hld : ∀ w', Below w.heap.size w w' → (loadVar 3 ⟨g, off + i * 1, none⟩).run Try.prog w' = .ok (Z x) w' := fun w' hb => loadI (hca.keep (hb.block g hlt))
    by_cases hxk : x = k
    · refine goT (T := Below w.heap.size w) [lnI (some ⟨g, off, none⟩) p.length cap, lT i p.length (by omega), ixI g off p.length cap i hil, ldA 3 hld, bO .eql 3 (run_eqlZ (x := x) (y := k) (b := true) (decide_eq_true hxk))] (nonR w) (fun _ h => h) I fun β4 a4 w4 I hb4 => ?_
      refine endR (retV (v := .bool true) I ⟨?_, I.hJ⟩)
      unfold nmB
      rw [decide_eq_true (by rw [← hxk]; exact List.mem_of_getElem? k1)]
      rfl
    · refine goT (T := Below w.heap.size w) [lnI (some ⟨g, off, none⟩) p.length cap, lT i p.length (by omega), ixI g off p.length cap i hil, ldA 3 hld, bO .eql 3 (run_eqlZ (x := x) (y := k) (b := false) (decide_eq_false hxk)), p1 i (by omega)] (nonR w) (fun _ h => h) I fun β4 a4 w4 I hb4 => ?_
      obtain ⟨u', Iu⟩ := I.scr (bodyL Try.f22) (scrF 21 rnK) (rnV (.slice (some ⟨g, off, none⟩) p.length cap) k (i + 1)) [] 0
      refine endL ⟨p.length - (i + 1), by omega, i + 1, β4, u', rfl, hil, fun j hj => ?_, Iu⟩
      rcases Nat.lt_or_ge j i with hji | hji
      · exact hok j hji
      · obtain rfl : j = i := by omega
        rw [k1]
        exact fun e => hxk (by cases e; rfl)
  · obtain rfl : i = p.length := by omega
    obtain ⟨b, hb⟩ : ∃ b, nmB p k = b := ⟨_, rfl⟩
    have hb' : decide ((p.length : Int) = 0) = b := by
      rw [← hb]
      unfold nmB
      rw [show decide (k ∈ p) = false from decide_eq_false (fun hm => by
        obtain ⟨j, hj⟩ := List.mem_iff_getElem?.1 hm
        exact hok j (List.getElem?_eq_some_iff.1 hj).1 hj), Bool.false_or]
      congr 1
      apply propext
      omega
    rw [hb]
    refine goQ [lnI ad p.length cap, lF p.length p.length (by omega)] (nonR w) I fun β4 a4 w4 I hb4 => ?_
    refine endE 0 ?_
    refine goQ [lnI ad p.length cap, bO .eql 3 (run_eqlZ (x := p.length) (y := 0) (b := b) hb')] (nonR w) (I.exit _) fun β5 a5 w5 I hb5 => ?_
    exact outQ (v := .bool b) I ⟨rfl, I.hJ⟩
theorem nan36 (x : Int) (w : World) : Calls Try.prog 36 #[Z x] w fun e w' => e = .returned (.bool false) ∧ Below w.heap.size w w' := by
  refine inQ (J := Below w.heap.size w) (F := (· < w.heap.size)) Try.func36 (Below.refl _ _) fun a I => ?_
  refine goQ [bO .neq 3 (run_neqZ (x := x) (y := x) (b := false) (decide_eq_false (fun h => h rfl)))] (nonR w) I fun β a w1 I hb => ?_
  exact outQ (v := .bool false) I ⟨rfl, I.hJ⟩
theorem nan37 (x : Int) (w : World) : Calls Try.prog 37 #[Z x] w fun e w' => e = .returned (.bool false) ∧ Below w.heap.size w w' := by
  refine inQ (J := Below w.heap.size w) (F := (· < w.heap.size)) Try.func37 (Below.refl _ _) fun a I => ?_
  refine goQ [bO .neq 3 (run_neqZ (x := x) (y := x) (b := false) (decide_eq_false (fun h => h rfl)))] (nonR w) I fun β a w1 I hb => ?_
  exact outQ (v := .bool false) I ⟨rfl, I.hJ⟩
theorem less_any (x y : Int) (w : World) : Calls Try.prog 35 #[Z x, Z y] w fun e w' => e = .returned (.bool (decide (x < y))) ∧ Below w.heap.size w w' := by
  have h := nan37 x
  obtain ⟨q, hq⟩ : ∃ q, decide (x < y) = q := ⟨_, rfl⟩
  rw [hq]
  refine inQ (J := Below w.heap.size w) (F := (· < w.heap.size)) Try.func35 (Below.refl _ _) fun a I => ?_
  refine goQ [kC Try.func37 h, bO .lss 3 (run_lssZ (x := x) (y := y) (b := q) hq)] (nonR w) I fun β a w1 I hb => ?_
  exact outQ (v := .bool q) I ⟨rfl, I.hJ⟩
theorem cv_iu (n : Nat) (h : n < 9223372036854775808) (w : World) : (convert 3 63 (Z n)).run Try.prog w = .ok (.int .u64 n) w := by
  have e : IntKind.u64.wrap (n : Int) = n := by rw [IntKind.wrap_u64]; omega
  simp [go_sem, e]
theorem cv_ui (n : Nat) (h : n < 9223372036854775808) (w : World) : (convert 63 3 (.int .u64 n)).run Try.prog w = .ok (Z n) w := by
  have e : IntKind.i64.wrap (n : Int) = n := by rw [IntKind.wrap_i64]; omega
  simp [go_sem, e]
theorem shr1_run (n : Nat) (h : n < 9223372036854775808) (x y : Operand) (w : World) : (do eqGuard .shr 63 x y (.int .u64 n) (.int .u64 1); binOp .shr 63 (.int .u64 n) (.int .u64 1) : Sem Value).run Try.prog w = .ok (.int .u64 (n / 2 : Nat)) w := by
  simp [go_sem]
/-- The place of a number in numbers that rise. -/
theorem place_ex (t : Int) : ∀ (p : List Int), p.Pairwise (· < ·) → ∃ o, o ≤ p.length ∧ (∀ (j : Nat) (x : Int), j < o → p[j]? = some x → x < t) ∧ ∀ (j : Nat) (x : Int), o ≤ j → p[j]? = some x → t ≤ x
  | [], _ => ⟨0, Nat.le_refl _, fun j x h => absurd h (Nat.not_lt_zero j), fun j x _ h => by simp at h⟩
  | a :: p, h => by
    obtain ⟨h1, h2⟩ := List.pairwise_cons.1 h
    by_cases ha : a < t
    · obtain ⟨o, q1, q2, q3⟩ := place_ex t p h2
      refine ⟨o + 1, by simpa using q1, fun j x hj hx => ?_, fun j x hj hx => ?_⟩
      · cases j with
        | zero => simp at hx; omega
        | succ j => exact q2 j x (by omega) (by simpa using hx)
      · cases j with
        | zero => omega
        | succ j => exact q3 j x (by omega) (by simpa using hx)
    · refine ⟨0, Nat.zero_le _, fun j x hj => absurd hj (Nat.not_lt_zero j), fun j x _ hx => ?_⟩
      cases j with
      | zero => simp at hx; omega
      | succ j =>
        have := h1 x (List.mem_of_getElem? (by simpa using hx))
        omega
theorem place_in {t : Int} {p : List Int} {o : Nat} (h2 : ∀ (j : Nat) (x : Int), j < o → p[j]? = some x → x < t) (h3 : ∀ (j : Nat) (x : Int), o ≤ j → p[j]? = some x → t ≤ x) (hr : p.Pairwise (· < ·)) : decide (t ∈ p) = decide (p[o]? = some t) := by
  rw [decide_eq_decide]
  refine ⟨fun hm => ?_, fun h => List.mem_of_getElem? h⟩
  obtain ⟨j, hj⟩ := List.mem_iff_getElem?.1 hm
  rcases Nat.lt_trichotomy j o with h | h | h
  · have := h2 j t h hj; omega
  · rw [← h]; exact hj
  · have hjl := (List.getElem?_eq_some_iff.1 hj).1
    obtain ⟨y, hy⟩ : ∃ y, p[o]? = some y := ⟨_, List.getElem?_eq_getElem (by omega)⟩
    have h4 := h3 o y (Nat.le_refl _) hy
    obtain ⟨g1, g2⟩ := List.getElem?_eq_some_iff.1 hy
    obtain ⟨g3, g4⟩ := List.getElem?_eq_some_iff.1 hj
    have := List.pairwise_iff_getElem.1 hr o j g1 g3 h
    omega
abbrev bsK : List Nat := [0, 1, 4, 5, 6, 7, 8]
abbrev bsV (v : Value) (t : Int) (n i j : Nat) : Vs := frm 54 [(0, Sum.inl v), (1, Sum.inl (Z t)), (4, Sum.inl (Z 0)), (5, Sum.inl (.bool false)), (6, Sum.inl (Z n)), (7, Sum.inl (Z i)), (8, Sum.inl (Z j))]
theorem bsearch_any {w : World} {v : Value} {p : List Int} (h : InI w v p) (hl : p.length < 1000000000) (hr : p.Pairwise (· < ·)) (t : Int) : ∃ o : Nat, Calls Try.prog 31 #[v, Z t] w fun e w' => e = .returned (.tuple #[Z o, .bool (decide (t ∈ p))]) ∧ Below w.heap.size w w' := by
  obtain ⟨o, ho, hlo, hhi⟩ := place_ex t p hr
  refine ⟨o, ?_⟩
  rw [place_in hlo hhi hr]
  obtain ⟨ad, cap, rfl, hm⟩ := h
  refine inQ (J := Below w.heap.size w) (F := (· < w.heap.size)) Try.func31 (Below.refl _ _) fun a I => ?_
  refine goQ [lnI ad p.length cap] (nonR w) I fun β a w1 I hb => ?_
  refine lpM (bodyL Try.f31) (fun k a w' => ∃ (i j : Nat) (β : Nat → Nat) (u : Nat → Value), k = j - i ∧ i ≤ o ∧ o ≤ j ∧ j ≤ p.length ∧ SI (Below w.heap.size w) (· < w.heap.size) [] β (cfC (bodyL Try.f31) (fillF (scrF 54 bsK) u 0 (bsV (.slice ad p.length cap) t p.length i j)) [] 0) a w') p.length ?_ ?_
  · obtain ⟨u, Iu⟩ := I.scr (bodyL Try.f31) (scrF 54 bsK) (bsV (.slice ad p.length cap) t p.length 0 p.length) [] 0
    exact ⟨0, p.length, β, u, by omega, Nat.zero_le _, ho, Nat.le_refl _, Iu⟩
  rintro k a3 w3 ⟨i, j, β3, u, rfl, hi, hj, hjn, I⟩
  refine wp_cfC (tm := fillF (scrF 54 bsK) u 0 (bsV (.slice ad p.length cap) t p.length i j)) (rows := []) (nx := 0) ?_
  rcases Nat.lt_or_ge i j with hij | hij
  · obtain ⟨m, hm2⟩ : ∃ m, (i + j) / 2 = m := ⟨_, rfl⟩
    have hmn : m < p.length := by omega
    obtain ⟨x, k1⟩ : ∃ t, p[m]? = some t := ⟨_, List.getElem?_eq_getElem hmn⟩
    obtain ⟨g, off, cs, rfl, hlt, hca, rfl⟩ := hm m _ k1
    have hld : ∀ w', Below w.heap.size w w' → (loadVar 3 ⟨g, off + m * 1, none⟩).run Try.prog w' = .ok (Z x) w' := fun w' hb => loadI (hca.keep (hb.block g hlt))
    have hsh := shr1_run (i + j) (by omega)
    have hcu := cv_ui ((i + j) / 2) (by omega)
    have hci := cv_iu (i + j) (by omega)
    rw [hm2] at hsh hcu
    obtain ⟨s, hs⟩ : ∃ s, i + j = s := ⟨_, rfl⟩
    have hadd : IntKind.i64.wrap ((i : Int) + (j : Int)) = (s : Int) := by rw [wz (by omega) (by omega)]; omega
    rw [hs] at hsh hci
    have hls := less_any x t
    have hlo' := hlo m x
    have hhi' := hhi m x
    by_cases hz : x < t
    · rw [decide_eq_true hz] at hls
      refine goT (T := Below w.heap.size w) [lT i j (by omega), bO .add 3 (run_addZ (x := i) (y := j) (z := s) hadd), vO 3 63 hci, bO .shr 63 hsh, vO 63 3 hcu, ixI g off p.length cap m hmn, ldA 3 hld, kC Try.func35 hls, p1 m (by omega)] (nonR w) (fun _ h => h) I fun β4 a4 w4 I hb4 => ?_
      obtain ⟨u', Iu⟩ := I.scr (bodyL Try.f31) (scrF 54 bsK) (bsV (.slice (some ⟨g, off, none⟩) p.length cap) t p.length (m + 1) j) [] 0
      have : m < o := by
        rcases Nat.lt_or_ge m o with h | h
        · exact h
        · have := hhi' h k1; omega
      exact endL ⟨j - (m + 1), by omega, m + 1, j, β4, u', rfl, by omega, hj, hjn, Iu⟩
    · rw [decide_eq_false hz] at hls
      refine goT (T := Below w.heap.size w) [lT i j (by omega), bO .add 3 (run_addZ (x := i) (y := j) (z := s) hadd), vO 3 63 hci, bO .shr 63 hsh, vO 63 3 hcu, ixI g off p.length cap m hmn, ldA 3 hld, kC Try.func35 hls] (nonR w) (fun _ h => h) I fun β4 a4 w4 I hb4 => ?_
      obtain ⟨u', Iu⟩ := I.scr (bodyL Try.f31) (scrF 54 bsK) (bsV (.slice (some ⟨g, off, none⟩) p.length cap) t p.length i m) [] 0
      have : o ≤ m := by
        rcases Nat.lt_or_ge m o with h | h
        · exact absurd (hlo' h k1) hz
        · exact h
      exact endL ⟨m - i, by omega, i, m, β4, u', rfl, hi, this, by omega, Iu⟩
  · obtain rfl : i = o := by omega
    obtain rfl : j = i := by omega
    refine goQ [lF j j (by omega)] (nonR w) I fun β4 a4 w4 I hb4 => ?_
    refine endE 0 ?_
    rcases Nat.lt_or_ge j p.length with hjl | hjl
    · obtain ⟨x, k1⟩ : ∃ t, p[j]? = some t := ⟨_, List.getElem?_eq_getElem hjl⟩
      obtain ⟨g, off, cs, rfl, hlt, hca, rfl⟩ := hm j _ k1
      have hld : ∀ w', Below w.heap.size w w' → (loadVar 3 ⟨g, off + j * 1, none⟩).run Try.prog w' = .ok (Z x) w' := fun w' hb => loadI (hca.keep (hb.block g hlt))
      have hn := nan36 x
      by_cases hxt : x = t
      · rw [decide_eq_true (by rw [k1, hxt])]
        refine goT (T := Below w.heap.size w) [lT j p.length (by omega), ixI g off p.length cap j hjl, ldA 3 hld, bO .eql 3 (run_eqlZ (x := x) (y := t) (b := true) (decide_eq_true hxt))] (nonR w) (fun _ h => h) (I.exit _) fun β5 a5 w5 I hb5 => ?_
        exact outQ (v := .tuple #[Z j, .bool true]) I ⟨rfl, I.hJ⟩
      · rw [decide_eq_false (by rw [k1]; exact fun e => hxt (by cases e; rfl))]
        refine goT (T := Below w.heap.size w) [lT j p.length (by omega), ixI g off p.length cap j hjl, ldA 3 hld, bO .eql 3 (run_eqlZ (x := x) (y := t) (b := false) (decide_eq_false hxt)), ixI g off p.length cap j hjl, ldA 3 hld, kC Try.func36 hn] (nonR w) (fun _ h => h) (I.exit _) fun β5 a5 w5 I hb5 => ?_
        exact outQ (v := .tuple #[Z j, .bool false]) I ⟨rfl, I.hJ⟩
    · rw [decide_eq_false (by rw [List.getElem?_eq_none hjl]; simp)]
      refine goQ [lF j p.length (by omega)] (nonR w) (I.exit _) fun β5 a5 w5 I hb5 => ?_
      exact outQ (v := .tuple #[Z j, .bool false]) I ⟨rfl, I.hJ⟩
theorem named_any {w : World} {v : Value} {p : List Int} (h : InI w v p) (hl : p.length < 1000000000) (hr : p.Pairwise (· < ·)) (t : Int) : Calls Try.prog 20 #[v, Z t] w fun e w' => e = .returned (.bool (nmB p t)) ∧ Below w.heap.size w w' := by
  have hB := fun (w' : World) (hb : Below w.heap.size w w') => bsearch_any (h.below C1.loc hb) hl hr t
  obtain ⟨ad, cap, rfl, hm⟩ := h
  unfold nmB
  refine inQ (J := Below w.heap.size w) (F := (· < w.heap.size)) Try.func20 (Below.refl _ _) fun a I => ?_
  refine goQ [] (nonR w) I fun β a w1 I hb => ?_
  obtain ⟨o, hc⟩ := hB w1 I.hJ
  cases hq : decide (t ∈ p) with
  | true =>
    rw [hq] at hc
    refine mcall (f := 31) (ss := [Sum.inl (.slice ad p.length cap), Sum.inl (Z t)]) Try.func31 I (hc.mono fun e w2 he => ?_)
    obtain ⟨rfl, hb2⟩ := he
    refine goQ [] (nonR w) (I.moved (Grow.of_below hb2) ((nonR w).loc _ _ I.hJ (Grow.of_below hb2)) (fun _ _ h => h) (.tuple #[Z o, .bool true])) fun β3 a3 w3 I hb3 => ?_
    exact outQ (v := .bool true) I ⟨rfl, I.hJ⟩
  | false =>
    rw [hq] at hc
    rw [Bool.false_or]
    obtain ⟨b, hb⟩ : ∃ b, decide (p.length = 0) = b := ⟨_, rfl⟩
    have hb' : decide ((p.length : Int) = 0) = b := by rw [← hb]; congr 1; apply propext; omega
    rw [hb]
    refine mcall (f := 31) (ss := [Sum.inl (.slice ad p.length cap), Sum.inl (Z t)]) Try.func31 I (hc.mono fun e w2 he => ?_)
    obtain ⟨rfl, hb2⟩ := he
    refine goQ [lnI ad p.length cap, bO .eql 3 (run_eqlZ (x := p.length) (y := 0) (b := b) hb')] (nonR w) (I.moved (Grow.of_below hb2) ((nonR w).loc _ _ I.hJ (Grow.of_below hb2)) (fun _ _ h => h) (.tuple #[Z o, .bool false])) fun β3 a3 w3 I hb3 => ?_
    exact outQ (v := .bool b) I ⟨rfl, I.hJ⟩
end Go.Proofs.Ytabghfcjpaileaa
