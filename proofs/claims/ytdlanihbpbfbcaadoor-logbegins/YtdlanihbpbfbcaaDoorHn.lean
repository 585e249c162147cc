/- Parts of 64 bits by numbers: xor, and with the complement, turning up; the steps of Keccak's round as functions of places. No function of the program is named here. -/
import Derived.Test.YtdlanihbpbfbcaaDoorNv
import Derived.Test.YtdlanihbpbfbcaaDoorAg
import Derived.Laws.Bits64b
namespace Go.Proofs.YtdlanihbpbfbcaaDoor
open Go.RowKit
set_option linter.unusedVariables false

theorem xor_lt {a b : Nat} (ha : a < M) (hb : b < M) : a ^^^ b < M := by rw [M_pow] at *; exact Nat.xor_lt_two_pow ha hb
theorem and_lt {a b : Nat} (ha : a < M) : a &&& b < M := Nat.lt_of_le_of_lt Nat.and_le_left ha
theorem or_lt {a b : Nat} (ha : a < M) (hb : b < M) : a ||| b < M := by rw [M_pow] at *; exact Nat.or_lt_two_pow ha hb
/-- What the second has and the first has not. -/
def nt (b c : Nat) : Nat := c &&& (M - 1 - b)
theorem nt_lt {b c : Nat} (hc : c < M) : nt b c < M := and_lt hc
theorem bits_not_and (b c : Nat) (hb : b < M) (hc : c < M) : bits .andNot .u64 (c : Int) (b : Int) = ((nt b c : Nat) : Int) := by
  have hx : nt b c < 2 ^ 64 := by rw [← M_pow]; exact nt_lt hc
  have h1 : (BitVec.ofInt 64 (c : Int)).toNat = c := by
    rw [BitVec.ofInt_natCast, BitVec.toNat_ofNat]; exact Nat.mod_eq_of_lt (by unfold M at hc; omega)
  have h2 : (BitVec.ofInt 64 (b : Int)).toNat = b := by
    rw [BitVec.ofInt_natCast, BitVec.toNat_ofNat]; exact Nat.mod_eq_of_lt (by unfold M at hb; omega)
  show IntKind.u64.wrap ((BitVec.ofInt 64 (c : Int) &&& ~~~ BitVec.ofInt 64 (b : Int)).toNat : Int) = _
  rw [BitVec.toNat_and, BitVec.toNat_not, h1, h2, IntKind.wrap_u64]
  have e : c &&& (2 ^ 64 - 1 - b) = nt b c := by unfold nt; rw [M_pow]
  rw [e]
  omega
theorem bits_xn (a b c : Nat) (ha : a < M) (hb : b < M) (hc : c < M) : bits .xor .u64 (a : Int) (bits .andNot .u64 (c : Int) (b : Int)) = ((a ^^^ nt b c : Nat) : Int) := by
  rw [bits_not_and b c hb hc, bits_xor _ _ ha (nt_lt hc)]
/-- Turned up by k bits. -/
def rt (x k : Nat) : Nat := (x * 2 ^ k % M) ||| (x / 2 ^ (64 - k))
theorem rt_lt {x : Nat} (k : Nat) (hx : x < M) : rt x k < M := or_lt (Nat.mod_lt _ (by decide)) (Nat.lt_of_le_of_lt (Nat.div_le_self _ _) hx)
theorem rt_zero {x : Nat} (hx : x < M) : rt x 0 = x := by
  unfold rt
  rw [Nat.pow_zero, Nat.mul_one, Nat.mod_eq_of_lt hx, Nat.sub_zero, ← M_pow, Nat.div_eq_of_lt hx, Nat.or_zero]
theorem rt_int (x k : Nat) (hx : x < M) : bits .or .u64 (IntKind.u64.wrap ((x : Int) * 2 ^ k)) ((x : Int) / 2 ^ (64 - k)) = ((rt x k : Nat) : Int) := by
  have e1 : IntKind.u64.wrap ((x : Int) * 2 ^ k) = ((x * 2 ^ k % M : Nat) : Int) := by
    rw [show (x : Int) * 2 ^ k = ((x * 2 ^ k : Nat) : Int) by simp]
    generalize x * 2 ^ k = y
    simp only [IntKind.wrap_u64]; unfold M; omega
  have e2 : (x : Int) / 2 ^ (64 - k) = ((x / 2 ^ (64 - k) : Nat) : Int) := by simp
  rw [e1, e2, bits_or _ _ (Nat.mod_lt _ (by decide)) (Nat.lt_of_le_of_lt (Nat.div_le_self _ _) hx)]
  rfl

/-- The parts of a row of five are below. -/
abbrev P25 (f : Nat → Nat) : Prop := ∀ i, i < 25 → f i < M
def n1 (i : Nat) : Nat := i / 5 * 5 + (i % 5 + 1) % 5
def n2 (i : Nat) : Nat := i / 5 * 5 + (i % 5 + 2) % 5
/-- The step that is no sum of bits. -/
def chi (f : Nat → Nat) (i : Nat) : Nat := f i ^^^ nt (f (n1 i)) (f (n2 i))
def col (f : Nat → Nat) (x : Nat) : Nat := f x ^^^ f (x + 5) ^^^ f (x + 10) ^^^ f (x + 15) ^^^ f (x + 20)
def dd (f : Nat → Nat) (x : Nat) : Nat := col f ((x + 4) % 5) ^^^ rt (col f ((x + 1) % 5)) 1
def theta (f : Nat → Nat) (i : Nat) : Nat := f i ^^^ dd f (i % 5)
theorem n1_lt {i : Nat} (h : i < 25) : n1 i < 25 := by unfold n1; omega
theorem n2_lt {i : Nat} (h : i < 25) : n2 i < 25 := by unfold n2; omega
theorem chi_lt {f : Nat → Nat} (h : P25 f) : P25 (chi f) := fun i hi => xor_lt (h i hi) (nt_lt (h _ (n2_lt hi)))
theorem col_lt {f : Nat → Nat} (h : P25 f) {x : Nat} (hx : x < 5) : col f x < M :=
  xor_lt (xor_lt (xor_lt (xor_lt (h _ (by omega)) (h _ (by omega))) (h _ (by omega))) (h _ (by omega))) (h _ (by omega))
theorem dd_lt {f : Nat → Nat} (h : P25 f) (x : Nat) : dd f x < M := xor_lt (col_lt h (by omega)) (rt_lt _ (col_lt h (by omega)))
theorem theta_lt {f : Nat → Nat} (h : P25 f) : P25 (theta f) := fun i hi => xor_lt (h i hi) (dd_lt h _)
end Go.Proofs.YtdlanihbpbfbcaaDoor
