/- The law CurveLifts, walked for every input. -/
import Derived.Test.YthbindnkichimaaXlGl
import Derived.Test.YthbindnkichimaaXlMG
namespace Go.Proofs.Ythbindnkichimaa
open Go.RowKit Go.Sort
set_option linter.unusedVariables false
section
variable [NeZero Pp]
theorem lift_pt (P : Pt) (oP : onP P) (hn : pN P = false) : Does 8 #[U (pX P), .bool (decide (pY P % 2 = 1))] (.tuple #[A9 (pX P) (pY P) false, .bool true]) := by
  cases P with
  | none => cases hn
  | some p =>
    obtain ⟨u, v⟩ := p
    obtain ⟨b1, b2⟩ := lift_back (x := u) (y := v) oP
    have k := lift_any u.val (decide (v.val % 2 = 1)) (fw u)
    obtain ⟨hx, e1, e2, _⟩ := lift_on (odd := decide (v.val % 2 = 1)) b1
    rw [b1, e1, e2] at k
    have e3 : liftF ⟨u.val, hx⟩ (decide (v.val % 2 = 1)) = v := b2
    rw [e3] at k
    exact k
theorem lift_ex {x : Nat} {odd : Bool} (h : isR x = true) : ∃ (hx : x < Pp) (y : Fin Pp), liftX x = x ∧ liftY x odd = y.val ∧ y * y = (⟨x, hx⟩ : Fin Pp) * ⟨x, hx⟩ * ⟨x, hx⟩ + 7 ∧ y ≠ 0 ∧ decide (y.val % 2 = 1) = odd := by
  obtain ⟨hx, e1, e2, oL⟩ := lift_on (odd := odd) h
  have ho := lift_odd ⟨x, hx⟩ odd
  generalize liftF ⟨x, hx⟩ odd = y at *
  have oL' : y * y = (⟨x, hx⟩ : Fin Pp) * ⟨x, hx⟩ * ⟨x, hx⟩ + 7 := oL
  exact ⟨hx, y, e1, e2, oL', y_nz fc oL', ho (y_nz fc oL')⟩
/-- What is told of an X, where there is a point: its Y. -/
theorem lift_yes {x : Nat} {odd : Bool} (h3 : x < W) (hR : isR x = true) : ∃ y : Fin Pp, Does 8 #[U x, .bool odd] (.tuple #[A9 x y.val false, .bool true]) ∧ Does 11 #[A9 x y.val false] (.bool true) ∧ y ≠ 0 ∧ decide (y.val % 2 = 1) = odd := by
  obtain ⟨hx, y, e1, e2, oL, hy, ho⟩ := lift_ex (odd := odd) hR
  have hL := lift_any x odd h3
  rw [hR, e1, e2] at hL
  have hQ := ron_any x y.val false h3 (fw _)
  have oq : onB x y.val false = true := onB_of (P := some (⟨x, hx⟩, y)) oL
  rw [oq] at hQ
  exact ⟨y, hL, hQ, hy, ho⟩
theorem lift_no {x : Nat} {odd : Bool} (h3 : x < W) (hR : isR x = false) : Does 8 #[U x, .bool odd] (.tuple #[A9 0 0 false, .bool false]) := by
  have hL := lift_any x odd h3
  have e1 : liftX x = 0 := by unfold liftX; rw [hR]; rfl
  have e2 : liftY x odd = 0 := by unfold liftY; rw [hR]; rfl
  rw [hR, e1, e2] at hL
  exact hL
theorem lifts_walk (px py : Nat) (pn : Bool) (x : Nat) (odd : Bool) (h1 : px < W) (h2 : py < W) (h3 : x < W) : Does 7 #[A9 px py pn, U x, .bool odd] (.bool true) := by
  have hRp := ron_any px py pn h1 h2
  cases hR : isR x with
  | true =>
    obtain ⟨y, hL, hQ, hy, ho⟩ := lift_yes (odd := odd) h3 hR
    have hE1 : ∀ w, (Op.equalIn 10000 24 (U y.val) (U 0)).run Try.prog w = .ok false w := fun w => by rw [eqz, decide_eq_false hy]
    have hE0 := fun w => run_eqU_same x w
    cases hp : onB px py pn with
    | false =>
      rw [hp] at hRp
      exact fun w => lifts_Aa px py x y.val pn odd _ (odd_bits y.val) ((odd_eq _).trans ho) hL hQ hRp awake_any hE0 hE1 w
    | true =>
      rw [hp] at hRp
      obtain ⟨P, oP, eP, rfl, rfl, rfl⟩ := onB_pt hp
      have hb := lift_pt P oP
      have hE2 := fun w => eqP_same P w
      cases hn : pN P with
      | true =>
        rw [hn] at hRp
        exact fun w => lifts_Ab _ _ x y.val odd _ (odd_bits y.val) ((odd_eq _).trans ho) hL hQ hRp awake_any hE0 hE1 w
      | false =>
        rw [hn] at hRp hE2
        exact fun w => lifts_Ac _ _ x y.val odd _ (odd_bits y.val) ((odd_eq _).trans ho) _ _ (odd_bits _) (odd_eq _) hL hQ hRp (hb hn) awake_any hE0 hE1 hE2 w
  | false =>
    have hL := lift_no (odd := odd) h3 hR
    have hE0 := fun w => eq9_same 0 0 false zero_lt_W zero_lt_W w
    cases hp : onB px py pn with
    | false =>
      rw [hp] at hRp
      exact fun w => lifts_Ba px py x 0 pn odd hL hRp awake_any hE0 w
    | true =>
      rw [hp] at hRp
      obtain ⟨P, oP, eP, rfl, rfl, rfl⟩ := onB_pt hp
      have hb := lift_pt P oP
      have hE2 := fun w => eqP_same P w
      cases hn : pN P with
      | true =>
        rw [hn] at hRp
        exact fun w => lifts_Bb _ _ x 0 odd hL hRp awake_any hE0 w
      | false =>
        rw [hn] at hRp hE2
        exact fun w => lifts_Bc _ _ x 0 odd _ _ (odd_bits _) (odd_eq _) hL hRp (hb hn) awake_any hE0 hE2 w
end
end Go.Proofs.Ythbindnkichimaa
