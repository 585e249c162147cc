/- The law CurveTells, walked for every input. -/
import Derived.Test.YthbindnkichimaaXtGt
import Derived.Test.YthbindnkichimaaXtMG
namespace Go.Proofs.Ythbindnkichimaa
open Go.RowKit Go.Sort
set_option linter.unusedVariables false
section
variable [NeZero Pp]
theorem tells_walk (px py : Nat) (pn : Bool) (qx qy : Nat) (qn : Bool) (x : Nat) (odd : Bool) (h1 : px < W) (h2 : py < W) (h3 : qx < W) (h4 : qy < W) (h5 : x < W) : Does 3 #[A9 px py pn, A9 qx qy qn, U x, .bool odd] (.bool true) := by
  have hL := lift_any x odd h5
  have hL2 := rlift_any x odd h5
  have hOp := on_any px py pn h1 h2
  have hRp := ron_any px py pn h1 h2
  have hRq := ron_any qx qy qn h3 h4
  have hE0 := fun w => eq9_same _ _ false (liftX_lt x h5) (liftY_lt x odd) w
  have hE1 := fun w => run_eqU_same Pp w
  have hE2 := fun w => run_eqU_same On w
  have hE3 := fun w => eq9_same _ _ false (Nat.lt_trans Gx_lt Pp_lt) (Nat.lt_trans Gy_lt Pp_lt) w
  cases hp : onB px py pn with
  | false =>
    rw [hp] at hOp hRp
    exact fun w => tells_a px py qx qy _ _ _ _ 0 0 0 0 0 0 pn qn false false false false false x Pp On odd _ hL hL2 hOp hRp prime_any rprime_any order_any rorder_any base_any rbase_any awake_any hE0 hE1 hE2 hE3 w
  | true =>
    rw [hp] at hOp hRp
    obtain ⟨P, oP, eP, rfl, rfl, rfl⟩ := onB_pt hp
    cases hq : onB qx qy qn with
    | false =>
      rw [hq] at hRq
      exact fun w => tells_b _ _ qx qy _ _ _ _ 0 0 0 0 0 0 _ qn false false false false false x Pp On odd _ hL hL2 hOp hRp prime_any rprime_any order_any rorder_any base_any rbase_any hRq awake_any hE0 hE1 hE2 hE3 w
    | true =>
      rw [hq] at hRq
      obtain ⟨Q, oQ, eQ, rfl, rfl, rfl⟩ := onB_pt hq
      have g1 := neg_any P
      have g2 := rneg_any P
      have a1 := addP_any P Q
      have a2 := raddP_any oP oQ
      have a3 := addP_any P P
      have a4 := raddP_any oP oP
      rw [vP_eq P, vP_eq (pneg P)] at g1 g2
      rw [vP_eq P, vP_eq Q, vP_eq (padd ivF P Q)] at a1 a2
      rw [vP_eq P, vP_eq (padd ivF P P)] at a3 a4
      exact fun w => tells_c _ _ _ _ _ _ _ _ _ _ _ _ _ _ _ _ false false _ _ _ x Pp On odd _ hL hL2 hOp hRp prime_any rprime_any order_any rorder_any base_any rbase_any hRq g1 g2 a1 a2 a3 a4 awake_any hE0 hE1 hE2 hE3 (eqP_same _) (eqP_same _) (eqP_same _) w
end
end Go.Proofs.Ythbindnkichimaa
