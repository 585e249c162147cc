/- The closures of what binds. -/
import Derived.Test.YtdiblfgnnliifaaTe
namespace Go.Proofs.Ytdiblfgnnliifaa
open Go.RowKit Go.Sort
set_option linter.unusedVariables false
set_option maxRecDepth 100000
abbrev sh8 (x0 x1 : Nat) : Array Value := #[B (l0 x0), B (l1 x0), B (l2 x0), B (l3 x0), B (l0 x1), B (l1 x1), B (l2 x1), B (l3 x1)]
/-- The rows of what binds. -/
abbrev bdW (vl : Value) (ch : ByteArray) (p0 p1 : Int) (x0 x1 : Nat) (vo : Value) : Rows := [(0, #[vl]), (1, #[.string ch]), (2, #[Z p0]), (3, #[Z p1]), (4, rU x0), (5, rU x1), (6, #[vo]), (7, #[Z p0, Z p1]), (8, sh8 x0 x1)]
theorem placed0 {β : Nat → Nat} {w0 : World} {b : Nat} {K : Nat → Prop} {Fs : List Lf} {vl vo : Value} {ch : ByteArray} {p0 p1 : Int} {x0 x1 : Nat} {O : List Ow} {w : World} {l : List Al} {i : Nat} (H : CR β w0 b K Fs (bdW vl ch p0 p1 x0 x1 vo) O w) (hi : Fs[i]? = some (alF vl l)) :
    Calls Try.prog 28 (([Sum.inl (Z 0), Sum.inr (0, 0), Sum.inr (7, 0), Sum.inr (2, 0), Sum.inr (3, 0)] : List SV).map (up β)).toArray w fun e w' => e = .returned (Z (if (!isP l p0 || decide (p0 = p1)) = true then 3 else 0)) ∧ CR β w0 b K Fs (bdW vl ch p0 p1 x0 x1 vo) O w' := by
  obtain ⟨ad, cap, rfl⟩ := (H.g.al hi).slice
  refine inCR (nx := 9) [Sum.inl (Z 0), Sum.inr (0, 0), Sum.inr (7, 0), Sum.inr (2, 0), Sum.inr (3, 0)] Try.func28 H fun a I => ?_
  have hP := fun (w' : World) => place_raw 29 (.inr rfl) (w := w') ad cap l p0
  refine goQ [] (GS.rsr _ _ _ _ _ _ _) I fun β1 a1 w1 I hb1 => ?_
  cases hq : isP l p0 with
  | false =>
    rw [hq] at hP
    refine dwT (T := fun _ => True) 13 [kC Try.func29 hP, ntO false, kC Try.func21 (errIf_any true 3)] (GS.rsr _ _ _ _ _ _ _) (fun _ _ => trivial) PanOk.post I fun a2 w2 I => ?_
    refine goQ [] (GS.rsr _ _ _ _ _ _ _) I fun β3 a3 w3 I hb3 => ?_
    exact outQ (v := Z 3) I ⟨by simp, I.cr 9 (agT (agL hb1) (agL hb3)) _⟩
  | true =>
    rw [hq] at hP
    obtain ⟨q, hd⟩ : ∃ q, decide (p0 = p1) = q := ⟨_, rfl⟩
    rw [hd]
    refine dwT (T := fun _ => True) 13 [kC Try.func29 hP, ntO true, bO .eql 3 (run_eqlZ (x := p0) (y := p1) (b := q) hd), kC Try.func21 (errIf_any q 3)] (GS.rsr _ _ _ _ _ _ _) (fun _ _ => trivial) PanOk.post I fun a2 w2 I => ?_
    refine goQ [] (GS.rsr _ _ _ _ _ _ _) I fun β3 a3 w3 I hb3 => ?_
    exact outQ (v := Z (if q = true then 3 else 0)) I ⟨by simp, I.cr 9 (agT (agL hb1) (agL hb3)) _⟩
theorem placed1 {β : Nat → Nat} {w0 : World} {b : Nat} {K : Nat → Prop} {Fs : List Lf} {vl vo : Value} {ch : ByteArray} {p0 p1 : Int} {x0 x1 : Nat} {O : List Ow} {w : World} {l : List Al} {i : Nat} (H : CR β w0 b K Fs (bdW vl ch p0 p1 x0 x1 vo) O w) (hi : Fs[i]? = some (alF vl l)) :
    Calls Try.prog 28 (([Sum.inl (Z 1), Sum.inr (0, 0), Sum.inr (7, 0), Sum.inr (2, 0), Sum.inr (3, 0)] : List SV).map (up β)).toArray w fun e w' => e = .returned (Z (if (!isP l p1 || decide (p0 = p1)) = true then 3 else 0)) ∧ CR β w0 b K Fs (bdW vl ch p0 p1 x0 x1 vo) O w' := by
  obtain ⟨ad, cap, rfl⟩ := (H.g.al hi).slice
  refine inCR (nx := 9) [Sum.inl (Z 1), Sum.inr (0, 0), Sum.inr (7, 0), Sum.inr (2, 0), Sum.inr (3, 0)] Try.func28 H fun a I => ?_
  have hP := fun (w' : World) => place_raw 29 (.inr rfl) (w := w') ad cap l p1
  refine goQ [] (GS.rsr _ _ _ _ _ _ _) I fun β1 a1 w1 I hb1 => ?_
  cases hq : isP l p1 with
  | false =>
    rw [hq] at hP
    refine dwT (T := fun _ => True) 13 [kC Try.func29 hP, ntO false, kC Try.func21 (errIf_any true 3)] (GS.rsr _ _ _ _ _ _ _) (fun _ _ => trivial) PanOk.post I fun a2 w2 I => ?_
    refine goQ [] (GS.rsr _ _ _ _ _ _ _) I fun β3 a3 w3 I hb3 => ?_
    exact outQ (v := Z 3) I ⟨by simp, I.cr 9 (agT (agL hb1) (agL hb3)) _⟩
  | true =>
    rw [hq] at hP
    obtain ⟨q, hd⟩ : ∃ q, decide (p0 = p1) = q := ⟨_, rfl⟩
    rw [hd]
    refine dwT (T := fun _ => True) 13 [kC Try.func29 hP, ntO true, bO .eql 3 (run_eqlZ (x := p0) (y := p1) (b := q) hd), kC Try.func21 (errIf_any q 3)] (GS.rsr _ _ _ _ _ _ _) (fun _ _ => trivial) PanOk.post I fun a2 w2 I => ?_
    refine goQ [] (GS.rsr _ _ _ _ _ _ _) I fun β3 a3 w3 I hb3 => ?_
    exact outQ (v := Z (if q = true then 3 else 0)) I ⟨by simp, I.cr 9 (agT (agL hb1) (agL hb3)) _⟩
theorem formed0 {β : Nat → Nat} {w0 : World} {b : Nat} {K : Nat → Prop} {Fs : List Lf} {vl vo : Value} {ch : ByteArray} {p0 p1 : Int} {x0 x1 : Nat} {O : List Ow} {w : World} {l : List Al} {i : Nat} {j : Nat} (H : CR β w0 b K Fs (bdW vl ch p0 p1 x0 x1 vo) O w) (hi : Fs[i]? = some (alF vl l)) (hp : p0 = (j : Nat)) (hj : j < l.length) :
    Calls Try.prog 30 (([Sum.inl (Z 0), Sum.inr (1, 0), Sum.inr (0, 0), Sum.inr (7, 0)] : List SV).map (up β)).toArray w fun e w' => e = .returned (Z (if (decide (ch.size ≠ 32) || npP (l.getD j aD)) = true then 2 else 0)) ∧ CR β w0 b K Fs (bdW vl ch p0 p1 x0 x1 vo) O w' := by
  subst hp
  obtain ⟨x, hx⟩ : ∃ t, l[j]? = some t := ⟨_, List.getElem?_eq_getElem hj⟩
  rw [getD_is hx]
  obtain ⟨ad, cap, rfl, hm⟩ := H.g.al hi
  obtain ⟨g, off, cs, rfl, hlt, _, rfl, _⟩ := hm j x hx
  have hld : ∀ w', GS w0 w0 b noK K Fs O w' → (loadVar 39 ⟨g, off + j * 8, none⟩).run Try.prog w' = .ok (alV x) w' := fun w' h => by
    obtain ⟨ad', cap', he, hm'⟩ := h.al hi
    cases he
    obtain ⟨g', off', cs', he', hlt', hc', rfl, _⟩ := hm' j x hx
    cases he'
    exact loadAl hc'
  refine inCR (nx := 9) [Sum.inl (Z 0), Sum.inr (1, 0), Sum.inr (0, 0), Sum.inr (7, 0)] Try.func30 H fun a I => ?_
  refine goQ [] (GS.rsr _ _ _ _ _ _ _) I fun β1 a1 w1 I hb1 => ?_
  by_cases h32 : ch.size = 32
  · obtain ⟨q, hq⟩ : ∃ q, npP x = q := ⟨_, rfl⟩
    have hn := fun (w' : World) => np_any x w'
    rw [hq] at hn ⊢
    rw [decide_eq_false (not_not_intro h32), Bool.false_or]
    refine dwT (T := GS w0 w0 b noK K Fs O) 13 [lO Try.underlying9 (b := ch) (n := ch.size) rfl, bO .neq 3 (run_neqZ (x := ch.size) (y := 32) (b := false) (decide_eq_false (by omega))), ixA g off l.length cap j hj, ldA 39 hld, kC Try.func31 hn, kC Try.func21 (errIf_any q 2)] (GS.rsr _ _ _ _ _ _ _) (fun _ h => h) PanOk.post I fun a2 w2 I => ?_
    refine goQ [] (GS.rsr _ _ _ _ _ _ _) I fun β3 a3 w3 I hb3 => ?_
    exact outQ (v := Z (if q = true then 2 else 0)) I ⟨rfl, I.cr 9 (agT (agL hb1) (agL hb3)) _⟩
  · rw [decide_eq_true h32, Bool.true_or]
    refine dwT (T := GS w0 w0 b noK K Fs O) 13 [lO Try.underlying9 (b := ch) (n := ch.size) rfl, bO .neq 3 (run_neqZ (x := ch.size) (y := 32) (b := true) (decide_eq_true (by omega))), kC Try.func21 (errIf_any true 2)] (GS.rsr _ _ _ _ _ _ _) (fun _ h => h) PanOk.post I fun a2 w2 I => ?_
    refine goQ [] (GS.rsr _ _ _ _ _ _ _) I fun β3 a3 w3 I hb3 => ?_
    exact outQ (v := Z 2) I ⟨rfl, I.cr 9 (agT (agL hb1) (agL hb3)) _⟩
theorem formed1 {β : Nat → Nat} {w0 : World} {b : Nat} {K : Nat → Prop} {Fs : List Lf} {vl vo : Value} {ch : ByteArray} {p0 p1 : Int} {x0 x1 : Nat} {O : List Ow} {w : World} {l : List Al} {i : Nat} {j : Nat} (H : CR β w0 b K Fs (bdW vl ch p0 p1 x0 x1 vo) O w) (hi : Fs[i]? = some (alF vl l)) (hp : p1 = (j : Nat)) (hj : j < l.length) :
    Calls Try.prog 30 (([Sum.inl (Z 1), Sum.inr (1, 0), Sum.inr (0, 0), Sum.inr (7, 0)] : List SV).map (up β)).toArray w fun e w' => e = .returned (Z (if (decide (ch.size ≠ 32) || npP (l.getD j aD)) = true then 2 else 0)) ∧ CR β w0 b K Fs (bdW vl ch p0 p1 x0 x1 vo) O w' := by
  subst hp
  obtain ⟨x, hx⟩ : ∃ t, l[j]? = some t := ⟨_, List.getElem?_eq_getElem hj⟩
  rw [getD_is hx]
  obtain ⟨ad, cap, rfl, hm⟩ := H.g.al hi
  obtain ⟨g, off, cs, rfl, hlt, _, rfl, _⟩ := hm j x hx
  have hld : ∀ w', GS w0 w0 b noK K Fs O w' → (loadVar 39 ⟨g, off + j * 8, none⟩).run Try.prog w' = .ok (alV x) w' := fun w' h => by
    obtain ⟨ad', cap', he, hm'⟩ := h.al hi
    cases he
    obtain ⟨g', off', cs', he', hlt', hc', rfl, _⟩ := hm' j x hx
    cases he'
    exact loadAl hc'
  refine inCR (nx := 9) [Sum.inl (Z 1), Sum.inr (1, 0), Sum.inr (0, 0), Sum.inr (7, 0)] Try.func30 H fun a I => ?_
  refine goQ [] (GS.rsr _ _ _ _ _ _ _) I fun β1 a1 w1 I hb1 => ?_
  by_cases h32 : ch.size = 32
  · obtain ⟨q, hq⟩ : ∃ q, npP x = q := ⟨_, rfl⟩
    have hn := fun (w' : World) => np_any x w'
    rw [hq] at hn ⊢
    rw [decide_eq_false (not_not_intro h32), Bool.false_or]
    refine dwT (T := GS w0 w0 b noK K Fs O) 13 [lO Try.underlying9 (b := ch) (n := ch.size) rfl, bO .neq 3 (run_neqZ (x := ch.size) (y := 32) (b := false) (decide_eq_false (by omega))), ixA g off l.length cap j hj, ldA 39 hld, kC Try.func31 hn, kC Try.func21 (errIf_any q 2)] (GS.rsr _ _ _ _ _ _ _) (fun _ h => h) PanOk.post I fun a2 w2 I => ?_
    refine goQ [] (GS.rsr _ _ _ _ _ _ _) I fun β3 a3 w3 I hb3 => ?_
    exact outQ (v := Z (if q = true then 2 else 0)) I ⟨rfl, I.cr 9 (agT (agL hb1) (agL hb3)) _⟩
  · rw [decide_eq_true h32, Bool.true_or]
    refine dwT (T := GS w0 w0 b noK K Fs O) 13 [lO Try.underlying9 (b := ch) (n := ch.size) rfl, bO .neq 3 (run_neqZ (x := ch.size) (y := 32) (b := true) (decide_eq_true (by omega))), kC Try.func21 (errIf_any true 2)] (GS.rsr _ _ _ _ _ _ _) (fun _ h => h) PanOk.post I fun a2 w2 I => ?_
    refine goQ [] (GS.rsr _ _ _ _ _ _ _) I fun β3 a3 w3 I hb3 => ?_
    exact outQ (v := Z 2) I ⟨rfl, I.cr 9 (agT (agL hb1) (agL hb3)) _⟩
theorem take0 {β : Nat → Nat} {w0 : World} {b : Nat} {K : Nat → Prop} {Fs : List Lf} {vl : Value} {ch : ByteArray} {p0 p1 : Int} {x0 x1 : Nat} {w : World} {l : List Al} {j g cap : Nat} (H : CR β w0 b K Fs (bdW vl ch p0 p1 x0 x1 (.slice (some ⟨g, 0, none⟩) l.length cap)) [alO (.slice (some ⟨g, 0, none⟩) l.length cap) l] w) (hp : p0 = (j : Nat)) (hj : j < l.length) (hL : Lt l) (hxW : x0 < W) :
    Calls Try.prog 32 (([Sum.inl (Z 0), Sum.inr (6, 0), Sum.inr (7, 0), Sum.inr (8, 0)] : List SV).map (up β)).toArray w fun e w' => e = .returned (Z (if decide (am l j < x0) = true then 16 else 0)) ∧ CR β w0 b K Fs (bdW vl ch p0 p1 x0 x1 (.slice (some ⟨g, 0, none⟩) l.length cap)) [alO (.slice (some ⟨g, 0, none⟩) l.length cap) (stA l j ((am l j + W - x0) % W))] w' := by
  subst hp
  obtain ⟨x, hx⟩ : ∃ t, l[j]? = some t := ⟨_, List.getElem?_eq_getElem hj⟩
  have hlo : ∀ w', GS w0 w0 b noK K Fs [alO (.slice (some ⟨g, 0, none⟩) l.length cap) l] w' → (loadVar 25 ⟨g, 0 + j * 8 + 1, none⟩).run Try.prog w' = .ok (U (am l j)) w' := fun w' h => by rw [am_is hx]; exact loadU (h.oAt hL hx)
  have hmW := am_lt hL j
  generalize am l j = n at *
  obtain ⟨q, hq⟩ : ∃ q, decide (n < x0) = q := ⟨_, rfl⟩
  have hadd := subT sub_any hmW hxW hq
  rw [hq]
  generalize (n + W - x0) % W = s2 at *
  refine inCR (nx := 9) [Sum.inl (Z 0), Sum.inr (6, 0), Sum.inr (7, 0), Sum.inr (8, 0)] Try.func32 H fun a I => ?_
  refine goQ [] (GS.rsr _ _ _ _ _ _ _) I fun β1 a1 w1 I hb1 => ?_
  refine dwA (T := GS w0 w0 b noK K Fs [alO (.slice (some ⟨g, 0, none⟩) l.length cap) l]) 14 15 6 20 s2 [ixA g 0 l.length cap j hj, ldA 25 hlo, kC Try.func33 hadd] (GS.rsr _ _ _ _ _ _ _) (fun _ h => h) I fun bb vs β2 a2 w2 hb2 I => ?_
  refine goQ [] (GS.rsr _ _ _ _ _ _ _) I fun β3 a3 w3 I hb3 => ?_
  refine dwT (T := fun _ => True) 7 [ixA g 0 l.length cap j hj] (GS.rsr _ _ _ _ _ _ _) (fun _ _ => trivial) PanOk.post I fun a4 w4 I => ?_
  refine stO (i := j) (n := s2) hj I fun w5 I => ?_
  refine goQ [kC Try.func21 (errIf_any q 16)] (GS.rsr _ _ _ _ _ _ _) I fun β6 a6 w6 I hb6 => ?_
  exact outQ (v := Z (if q = true then 16 else 0)) I ⟨rfl, I.cr 9 (agT (agL hb1) (agT (agL hb2) (agT (agL hb3) (agL hb6)))) _⟩
theorem take1 {β : Nat → Nat} {w0 : World} {b : Nat} {K : Nat → Prop} {Fs : List Lf} {vl : Value} {ch : ByteArray} {p0 p1 : Int} {x0 x1 : Nat} {w : World} {l : List Al} {j g cap : Nat} (H : CR β w0 b K Fs (bdW vl ch p0 p1 x0 x1 (.slice (some ⟨g, 0, none⟩) l.length cap)) [alO (.slice (some ⟨g, 0, none⟩) l.length cap) l] w) (hp : p1 = (j : Nat)) (hj : j < l.length) (hL : Lt l) (hxW : x1 < W) :
    Calls Try.prog 32 (([Sum.inl (Z 1), Sum.inr (6, 0), Sum.inr (7, 0), Sum.inr (8, 0)] : List SV).map (up β)).toArray w fun e w' => e = .returned (Z (if decide (am l j < x1) = true then 16 else 0)) ∧ CR β w0 b K Fs (bdW vl ch p0 p1 x0 x1 (.slice (some ⟨g, 0, none⟩) l.length cap)) [alO (.slice (some ⟨g, 0, none⟩) l.length cap) (stA l j ((am l j + W - x1) % W))] w' := by
  subst hp
  obtain ⟨x, hx⟩ : ∃ t, l[j]? = some t := ⟨_, List.getElem?_eq_getElem hj⟩
  have hlo : ∀ w', GS w0 w0 b noK K Fs [alO (.slice (some ⟨g, 0, none⟩) l.length cap) l] w' → (loadVar 25 ⟨g, 0 + j * 8 + 1, none⟩).run Try.prog w' = .ok (U (am l j)) w' := fun w' h => by rw [am_is hx]; exact loadU (h.oAt hL hx)
  have hmW := am_lt hL j
  generalize am l j = n at *
  obtain ⟨q, hq⟩ : ∃ q, decide (n < x1) = q := ⟨_, rfl⟩
  have hadd := subT sub_any hmW hxW hq
  rw [hq]
  generalize (n + W - x1) % W = s2 at *
  refine inCR (nx := 9) [Sum.inl (Z 1), Sum.inr (6, 0), Sum.inr (7, 0), Sum.inr (8, 0)] Try.func32 H fun a I => ?_
  refine goQ [] (GS.rsr _ _ _ _ _ _ _) I fun β1 a1 w1 I hb1 => ?_
  refine dwA (T := GS w0 w0 b noK K Fs [alO (.slice (some ⟨g, 0, none⟩) l.length cap) l]) 14 15 6 20 s2 [ixA g 0 l.length cap j hj, ldA 25 hlo, kC Try.func33 hadd] (GS.rsr _ _ _ _ _ _ _) (fun _ h => h) I fun bb vs β2 a2 w2 hb2 I => ?_
  refine goQ [] (GS.rsr _ _ _ _ _ _ _) I fun β3 a3 w3 I hb3 => ?_
  refine dwT (T := fun _ => True) 7 [ixA g 0 l.length cap j hj] (GS.rsr _ _ _ _ _ _ _) (fun _ _ => trivial) PanOk.post I fun a4 w4 I => ?_
  refine stO (i := j) (n := s2) hj I fun w5 I => ?_
  refine goQ [kC Try.func21 (errIf_any q 16)] (GS.rsr _ _ _ _ _ _ _) I fun β6 a6 w6 I hb6 => ?_
  exact outQ (v := Z (if q = true then 16 else 0)) I ⟨rfl, I.cr 9 (agT (agL hb1) (agT (agL hb2) (agT (agL hb3) (agL hb6)))) _⟩
end Go.Proofs.Ytdiblfgnnliifaa
