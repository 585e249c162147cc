/- The machine's arithmetic of 64 bits on digits of 32 bits. -/
import Derived.Test.YtbfgeinneglpdaaAg
import Derived.Test.YtbfgeinneglpdaaNv
import Derived.IntWalk
namespace Go.Proofs.Ytbfgeinneglpdaa
open Go.RowKit
set_option linter.unusedVariables false

theorem digit_mul {d g : Nat} (hd : d < D) (hg : g < D) : d * g ≤ 18446744065119617025 :=
  Nat.le_trans (Nat.mul_le_mul (Nat.le_of_lt_succ hd) (Nat.le_of_lt_succ hg)) (by decide)
theorem num_mul {c d g : Nat} (hc : c < D) (hd : d < D) (hg : g < D) :
    IntKind.u64.wrap ((c : Int) + IntKind.u64.wrap ((d : Int) * IntKind.u64.wrap (g : Int))) = ((c + d * g : Nat) : Int) ∧ c + d * g < M ∧ (c + d * g) / D < D := by
  have h := digit_mul hd hg
  have e : IntKind.u64.wrap (g : Int) = (g : Int) := by simp only [IntKind.wrap_u64]; unfold D at *; omega
  rw [e, show (d : Int) * (g : Int) = ((d * g : Nat) : Int) by simp]
  generalize d * g = p at *
  simp only [IntKind.wrap_u64]
  unfold D M at *
  refine ⟨by omega, by omega, by omega⟩
theorem num_and {x : Nat} (hx : x < M) : bits .and .u64 (x : Int) 4294967295 = ((x % D : Nat) : Int) := by
  have e := bits_and x 4294967295 hx (by decide)
  have e2 : x &&& 4294967295 = x % D := Nat.and_two_pow_sub_one_eq_mod x 32
  rw [e2] at e
  exact e
theorem num_less {f c b : Nat} (hf : f < D) (hc : c < D) (hb : b ≤ 1) :
    ∃ y : Nat, IntKind.u64.wrap (IntKind.u64.wrap (IntKind.u64.wrap (f : Int) - (c : Int)) - (b : Int)) = (y : Int) ∧ y % D + c + b = f + D * (y / 9223372036854775808) ∧ y / 9223372036854775808 ≤ 1 := by
  simp only [IntKind.wrap_u64]
  unfold D at *
  rcases Nat.lt_or_ge f (c + b) with h | h
  · exact ⟨f + 18446744073709551616 - c - b, by omega, by omega, by omega⟩
  · exact ⟨f - c - b, by omega, by omega, by omega⟩
theorem cast_mod (y : Nat) : (y : Int) % 4294967296 = ((y % D : Nat) : Int) := by unfold D; omega
theorem cast_div (y : Nat) : (y : Int) / 4294967296 = ((y / D : Nat) : Int) := by unfold D; omega
theorem cast_div63 (y : Nat) : (y : Int) / 9223372036854775808 = ((y / 9223372036854775808 : Nat) : Int) := by omega
theorem num_add3 {c f g : Nat} (hc : c ≤ 1) (hf : f < D) (hg : g < D) :
    IntKind.u64.wrap ((c : Int) + IntKind.u64.wrap (IntKind.u64.wrap (f : Int) + IntKind.u64.wrap (g : Int))) = ((c + (f + g) : Nat) : Int) ∧ (c + (f + g)) / D ≤ 1 := by
  simp only [IntKind.wrap_u64]
  unfold D at *
  refine ⟨by omega, by omega⟩
theorem num_add2 {c f : Nat} (hc : c ≤ 1) (hf : f < D) :
    IntKind.u64.wrap ((c : Int) + IntKind.u64.wrap (f : Int)) = ((c + f : Nat) : Int) ∧ (c + f) / D ≤ 1 := by
  simp only [IntKind.wrap_u64]
  unfold D at *
  refine ⟨by omega, by omega⟩
end Go.Proofs.Ytbfgeinneglpdaa
