/- The law CurveSums, walked for every input. -/
import Derived.Test.YthbindnkichimaaXsGs
import Derived.Test.YthbindnkichimaaXsMG
namespace Go.Proofs.Ythbindnkichimaa
open Go.RowKit Go.Sort
set_option linter.unusedVariables false
theorem M2_W : M + M < W := by decide +kernel
theorem wrap_nat (n : Nat) : IntKind.u64.wrap (n : Int) = ((n % M : Nat) : Int) := by
  unfold M
  simp [IntKind.wrap, IntKind.bits, IntKind.signed]
theorem U_over (n : Nat) (h1 : M ≤ n) (h2 : n < M + M) : U n = .agg #[B (n - M), .int .u64 1, .int .u64 0, .int .u64 0] := by
  have h0 : l0 n = n - M := by unfold l0; rw [Nat.mod_eq_sub_mod h1, Nat.mod_eq_of_lt (by omega)]
  have e1 : n / M = 1 := by rw [Nat.div_eq_sub_div (by decide) h1, Nat.div_eq_of_lt (by omega)]
  have k1 : l1 n = 1 := by unfold l1; rw [e1]; rfl
  have k2 : l2 n = 0 := by unfold l2; rw [Nat.div_eq_of_lt (Nat.lt_of_lt_of_le h2 (by decide +kernel))]; rfl
  have k3 : l3 n = 0 := by unfold l3; rw [Nat.div_eq_of_lt (Nat.lt_of_lt_of_le h2 (by decide +kernel))]; rfl
  unfold U U4
  rw [h0, k1, k2, k3]
  rfl
section
variable [NeZero Pp]
theorem sums_walk (i k : Nat) (px py : Nat) (pn : Bool) (hi : i < M) (hk : k < M) (h1 : px < W) (h2 : py < W) : Does 6 #[B i, B k, A9 px py pn] (.bool true) := by
  have hRp := ron_any px py pn h1 h2
  cases hp : onB px py pn with
  | false =>
    rw [hp] at hRp
    exact fun w => sums_a px py 0 0 0 0 0 0 pn false false false i k On hRp awake_any w
  | true =>
    rw [hp] at hRp
    obtain ⟨P, oP, eP, rfl, rfl, rfl⟩ := onB_pt hp
    have iW := Nat.lt_trans hi M_W
    have kW := Nat.lt_trans hk M_W
    have mi := mul_any oP i iW
    have mk := mul_any oP k kW
    have m1 := mul_any oP 1 W1
    have mo := mul_any oP On On_W
    have ss := sum_any oP oP i k iW kW
    have aa := addP_any (mulP i P) (mulP k P)
    rw [mulP_one oP] at m1
    rw [all_order oP] at mo
    rw [← mulP_add oP] at ss aa
    rw [vP_eq P] at mi mk m1 mo ss
    rw [vP_eq (mulP i P)] at mi aa
    rw [vP_eq (mulP k P)] at mk aa
    rw [vP_eq (mulP (i + k) P)] at ss aa
    rw [U_small i hi] at mi ss
    rw [U_small k hk] at mk ss
    rw [U_small 1 (by decide)] at m1
    by_cases ho : i + k < M
    · have ms := mul_any oP (i + k) (Nat.lt_trans ho M_W)
      rw [vP_eq P, vP_eq (mulP (i + k) P), U_small (i + k) ho] at ms
      have hu : IntKind.u64.wrap ((i : Int) + (k : Int)) = ((i + k : Nat) : Int) := by
        have := wrap_nat (i + k)
        rw [Nat.mod_eq_of_lt ho] at this
        rw [← this]; rfl
      exact fun w => sums_b _ _ _ _ _ _ _ _ _ _ _ _ i k On (i + k) hu (by omega) hRp ms mi mk aa ss order_any mo m1 awake_any (eqP_same _) (eqP_same _) w
    · have ms := mul_any oP (i + k) (Nat.lt_trans (Nat.add_lt_add hi hk) M2_W)
      rw [vP_eq P, vP_eq (mulP (i + k) P), U_over (i + k) (by omega) (by omega)] at ms
      have hu : IntKind.u64.wrap ((i : Int) + (k : Int)) = ((i + k - M : Nat) : Int) := by
        have := wrap_nat (i + k)
        rw [show (i + k) % M = i + k - M by rw [Nat.mod_eq_sub_mod (by omega), Nat.mod_eq_of_lt (by omega)]] at this
        rw [← this]; rfl
      exact fun w => sums_c _ _ _ _ _ _ _ _ _ _ _ _ i k On (i + k - M) hu (by omega) hRp ms mi mk aa ss order_any mo m1 awake_any (eqP_same _) (eqP_same _) w
end
end Go.Proofs.Ythbindnkichimaa
