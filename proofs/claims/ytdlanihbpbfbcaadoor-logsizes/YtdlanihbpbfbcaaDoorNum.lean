/- Plain facts on numbers of 256 bits in four parts of 64 bits, the lowest first: parts, sums with carry, differences with borrow. No program is named here. -/
import GoSem.Core.Value
import Derived.KernelRfl
namespace Go.Proofs.YtdlanihbpbfbcaaDoor

def M : Nat := 18446744073709551616
theorem M_eq : M = 18446744073709551616 := rfl
def W : Nat := 115792089237316195423570985008687907853269984665640564039457584007913129639936
theorem W_eq : W = M * M * M * M := by decide +kernel

def l0 (n : Nat) : Nat := n % M
def l1 (n : Nat) : Nat := n / M % M
def l2 (n : Nat) : Nat := n / (M * M) % M
def l3 (n : Nat) : Nat := n / (M * M * M) % M

theorem l0_lt (n : Nat) : l0 n < M := Nat.mod_lt _ (by decide)
theorem l1_lt (n : Nat) : l1 n < M := Nat.mod_lt _ (by decide)
theorem l2_lt (n : Nat) : l2 n < M := Nat.mod_lt _ (by decide)
theorem l3_lt (n : Nat) : l3 n < M := Nat.mod_lt _ (by decide)

/-- A number of its parts. -/
def mk (a b c d : Nat) : Nat := a + M * (b + M * (c + M * d))

theorem l0_mk (a b c d : Nat) (ha : a < M) : l0 (mk a b c d) = a := by
  unfold l0 mk; rw [Nat.add_mul_mod_self_left, Nat.mod_eq_of_lt ha]
theorem mk_div (a x : Nat) (ha : a < M) : (a + M * x) / M = x := by
  rw [Nat.add_mul_div_left _ _ (by decide), Nat.div_eq_of_lt ha, Nat.zero_add]
theorem l1_mk (a b c d : Nat) (ha : a < M) (hb : b < M) : l1 (mk a b c d) = b := by
  unfold l1 mk; rw [mk_div _ _ ha, Nat.add_mul_mod_self_left, Nat.mod_eq_of_lt hb]
theorem l2_mk (a b c d : Nat) (ha : a < M) (hb : b < M) (hc : c < M) : l2 (mk a b c d) = c := by
  unfold l2 mk; rw [← Nat.div_div_eq_div_mul, mk_div _ _ ha, mk_div _ _ hb, Nat.add_mul_mod_self_left, Nat.mod_eq_of_lt hc]
theorem l3_mk (a b c d : Nat) (ha : a < M) (hb : b < M) (hc : c < M) (hd : d < M) : l3 (mk a b c d) = d := by
  unfold l3 mk; rw [← Nat.div_div_eq_div_mul, ← Nat.div_div_eq_div_mul, mk_div _ _ ha, mk_div _ _ hb, mk_div _ _ hc, Nat.mod_eq_of_lt hd]
theorem mk_lt (a b c d : Nat) (ha : a < M) (hb : b < M) (hc : c < M) (hd : d < M) : mk a b c d < W := by
  unfold mk; rw [W_eq]; unfold M at *; omega
theorem mk_parts (n : Nat) (h : n < W) : mk (l0 n) (l1 n) (l2 n) (l3 n) = n := by
  rw [W_eq] at h
  unfold mk l0 l1 l2 l3 M at *
  omega
theorem parts_mod (n : Nat) : l0 (n % W) = l0 n ∧ l1 (n % W) = l1 n ∧ l2 (n % W) = l2 n ∧ l3 (n % W) = l3 n := by
  rw [W_eq]; unfold l0 l1 l2 l3 M; omega

/-- The sum of two parts and a carry, and the carry. -/
def sm (x y c : Nat) : Nat := (x + y + c) % M
def cy (x y c : Nat) : Nat := if x + y + c < M then 0 else 1
theorem cy_le (x y c : Nat) : cy x y c ≤ 1 := by unfold cy; split <;> omega
theorem sm_lt (x y c : Nat) : sm x y c < M := Nat.mod_lt _ (by decide)
theorem cy_eq (x y c : Nat) (hx : x < M) (hy : y < M) (hc : c ≤ 1) : (x + y + c) / M = cy x y c := by
  unfold cy M at *; split <;> omega
theorem sm_cy (x y c : Nat) (hx : x < M) (hy : y < M) (hc : c ≤ 1) : sm x y c + M * cy x y c = x + y + c := by
  unfold sm cy M at *; split <;> omega

/-- The difference of two parts and a borrow, and the borrow. -/
def df (x y c : Nat) : Nat := (x + M - y - c) % M
def bo (x y c : Nat) : Nat := if x < y + c then 1 else 0
theorem bo_le (x y c : Nat) : bo x y c ≤ 1 := by unfold bo; split <;> omega
theorem df_lt (x y c : Nat) : df x y c < M := Nat.mod_lt _ (by decide)
theorem df_bo (x y c : Nat) (hx : x < M) (hy : y < M) (hc : c ≤ 1) : df x y c + y + c = x + M * bo x y c := by
  unfold df bo M at *; split <;> omega

end Go.Proofs.YtdlanihbpbfbcaaDoor
