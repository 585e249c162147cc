/- The law CurveTimes, walked for every input. -/
import Derived.Test.YthbindnkichimaaXmGm
import Derived.Test.YthbindnkichimaaXmMG
namespace Go.Proofs.Ythbindnkichimaa
open Go.RowKit Go.Sort
set_option linter.unusedVariables false
section
variable [NeZero Pp]
theorem times_walk (k : Nat) (px py : Nat) (pn : Bool) (l : Nat) (qx qy : Nat) (qn : Bool) (h0 : k < W) (h1 : px < W) (h2 : py < W) (h5 : l < W) (h3 : qx < W) (h4 : qy < W) : Does 4 #[U k, A9 px py pn, U l, A9 qx qy qn] (.bool true) := by
  have hRp := ron_any px py pn h1 h2
  have hRq := ron_any qx qy qn h3 h4
  cases hp : onB px py pn with
  | false =>
    rw [hp] at hRp
    exact fun w => times_a px py qx qy 0 0 0 0 pn qn false false k l hRp awake_any w
  | true =>
    rw [hp] at hRp
    obtain ⟨P, oP, eP, rfl, rfl, rfl⟩ := onB_pt hp
    cases hq : onB qx qy qn with
    | false =>
      rw [hq] at hRq
      exact fun w => times_b _ _ qx qy 0 0 0 0 _ qn false false k l hRp hRq awake_any w
    | true =>
      rw [hq] at hRq
      obtain ⟨Q, oQ, eQ, rfl, rfl, rfl⟩ := onB_pt hq
      have m1 := mul_any oP k h0
      have m2 := rmulP_any oP k h0
      have s1 := sum_any oP oQ k l h0 h5
      have s2 := rsumP_any oP oQ k l h0 h5
      rw [vP_eq P, vP_eq (mulP k P)] at m1 m2
      rw [vP_eq P, vP_eq Q, vP_eq (padd ivF _ _)] at s1 s2
      exact fun w => times_c _ _ _ _ _ _ _ _ _ _ _ _ k l hRp hRq m1 m2 s1 s2 awake_any (eqP_same _) (eqP_same _) w
end
end Go.Proofs.Ythbindnkichimaa
