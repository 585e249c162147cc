/- The law CurveGroup, walked for every input. -/
import Derived.Test.YthbindnkichimaaXgGg
import Derived.Test.YthbindnkichimaaXgMG
namespace Go.Proofs.Ythbindnkichimaa
open Go.RowKit Go.Sort
set_option linter.unusedVariables false
section
variable [NeZero Pp]
theorem group_walk (px py : Nat) (pn : Bool) (qx qy : Nat) (qn : Bool) (rx ry : Nat) (rn : Bool) (h1 : px < W) (h2 : py < W) (h3 : qx < W) (h4 : qy < W) (h5 : rx < W) (h6 : ry < W) : Does 5 #[A9 px py pn, A9 qx qy qn, A9 rx ry rn] (.bool true) := by
  have hRp := ron_any px py pn h1 h2
  have hRq := ron_any qx qy qn h3 h4
  have hRr := ron_any rx ry rn h5 h6
  cases hp : onB px py pn with
  | false =>
    rw [hp] at hRp
    exact fun w => group_a px py qx qy rx ry 0 0 0 0 0 0 0 0 pn qn rn false false false false hRp awake_any w
  | true =>
    rw [hp] at hRp
    obtain ⟨P, oP, eP, rfl, rfl, rfl⟩ := onB_pt hp
    cases hq : onB qx qy qn with
    | false =>
      rw [hq] at hRq
      exact fun w => group_b _ _ qx qy rx ry 0 0 0 0 0 0 0 0 _ qn rn false false false false hRp hRq awake_any w
    | true =>
      rw [hq] at hRq
      obtain ⟨Q, oQ, eQ, rfl, rfl, rfl⟩ := onB_pt hq
      cases hr : onB rx ry rn with
      | false =>
        rw [hr] at hRr
        exact fun w => group_c _ _ _ _ rx ry 0 0 0 0 0 0 0 0 _ _ rn false false false false hRp hRq hRr awake_any w
      | true =>
        rw [hr] at hRr
        obtain ⟨R, oR, eR, rfl, rfl, rfl⟩ := onB_pt hr
        have oS := padd_on fc oP oQ
        have a1 := addP_any P Q
        have a2 := addP_any Q P
        have a3 := addP_any (padd ivF P Q) R
        have a4 := addP_any Q R
        have a5 := addP_any P (padd ivF Q R)
        have a6 := addP_any P (pneg P)
        have a7 := addP_any P none
        have g := neg_any P
        have hRs := ron_any (pX (padd ivF P Q)) (pY (padd ivF P Q)) (pN (padd ivF P Q)) (pX_lt (padd ivF P Q)) (pY_lt (padd ivF P Q))
        rw [onB_of oS] at hRs
        rw [padd_comm Q P] at a2
        rw [← padd_assoc fc oP oQ oR] at a5
        rw [padd_neg fc oP] at a6
        rw [padd_none_r oP] at a7
        rw [vP_eq P] at a1 a2 a5 a6 a7 g
        rw [vP_eq Q] at a1 a2 a4
        rw [vP_eq R] at a3 a4
        rw [vP_eq (padd ivF P Q)] at a1 a2 a3
        rw [vP_eq (padd ivF Q R)] at a4 a5
        rw [vP_eq (padd ivF (padd ivF P Q) R)] at a3 a5
        rw [vP_eq (pneg P)] at a6 g
        exact fun w => group_d _ _ _ _ _ _ _ _ _ _ _ _ _ _ _ _ _ _ _ _ _ hRp hRq hRr a1 a2 hRs a3 a4 a5 g a6 a7 awake_any (eqP_same _) (eqP_same _) (eq9_same 0 0 true zero_lt_W zero_lt_W) (eqP_same _) w
end
end Go.Proofs.Ythbindnkichimaa
