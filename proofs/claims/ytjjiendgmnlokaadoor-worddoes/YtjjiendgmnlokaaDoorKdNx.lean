/- Plain facts: numbers of 256 bits shifted up and down, told by their parts; how many bits they have. No program is named here. -/
import Derived.Test.YtjjiendgmnlokaaDoorKdNv
namespace Go.Proofs.YtjjiendgmnlokaaDoor
set_option linter.unusedVariables false

theorem two_split (r : Nat) (hr : r < 64) : 2 ^ r * 2 ^ (64 - r) = M := by
  rw [← Nat.pow_add, show r + (64 - r) = 64 by omega]; decide
theorem lo_eq (x r : Nat) (hr : r < 64) : x * 2 ^ r % M = 2 ^ r * (x % 2 ^ (64 - r)) := by
  rw [← two_split r hr, Nat.mul_comm x, Nat.mul_mod_mul_left]
theorem hi_lt (y r : Nat) (hy : y < M) (hr : r < 64) : y / 2 ^ (64 - r) < 2 ^ r := by
  refine Nat.div_lt_of_lt_mul ?_
  rw [Nat.mul_comm, two_split r hr]; exact hy
theorem hi_eq (x r : Nat) (hr : r < 64) : x * 2 ^ r / M = x / 2 ^ (64 - r) := by
  rw [← two_split r hr, Nat.mul_comm x, Nat.mul_div_mul_left _ _ (Nat.two_pow_pos r)]

theorem wrap_mul (x r : Nat) : IntKind.u64.wrap ((x : Int) * 2 ^ r) = ((x * 2 ^ r % M : Nat) : Int) := by
  rw [IntKind.wrap_u64]; simp [M]
theorem div_pow (x r : Nat) : (x : Int) / 2 ^ r = ((x / 2 ^ r : Nat) : Int) := by simp

theorem or_up (x y r : Nat) (hx : x < M) (hy : y < M) (hr : r < 64) :
    bits .or .u64 (IntKind.u64.wrap ((x : Int) * 2 ^ r)) ((y : Int) / 2 ^ (64 - r)) = ((x * 2 ^ r % M + y / 2 ^ (64 - r) : Nat) : Int) ∧ x * 2 ^ r % M + y / 2 ^ (64 - r) < M := by
  have h1 : x * 2 ^ r % M < M := Nat.mod_lt _ (by decide)
  have h2 : y / 2 ^ (64 - r) < M := Nat.lt_of_le_of_lt (Nat.div_le_self _ _) hy
  have e : x * 2 ^ r % M + y / 2 ^ (64 - r) = x * 2 ^ r % M ||| y / 2 ^ (64 - r) := by
    rw [lo_eq x r hr, Nat.two_pow_add_eq_or_of_lt (hi_lt y r hy hr)]
  refine ⟨by rw [wrap_mul, div_pow, bits_or _ _ h1 h2, e], ?_⟩
  rw [e]; exact Nat.or_lt_two_pow (n := 64) h1 h2
theorem or_down (x y r : Nat) (hx : x < M) (hy : y < M) (hr : r < 64) :
    bits .or .u64 ((x : Int) / 2 ^ r) (IntKind.u64.wrap ((y : Int) * 2 ^ (64 - r))) = ((x / 2 ^ r + 2 ^ (64 - r) * (y % 2 ^ r) : Nat) : Int) ∧ x / 2 ^ r + 2 ^ (64 - r) * (y % 2 ^ r) < M := by
  have e0 : y * 2 ^ (64 - r) % M = 2 ^ (64 - r) * (y % 2 ^ r) := by
    rw [← two_split r hr, Nat.mul_comm (2 ^ r), Nat.mul_comm y, Nat.mul_mod_mul_left]
  have h1 : y * 2 ^ (64 - r) % M < M := Nat.mod_lt _ (by decide)
  have h2 : x / 2 ^ r < M := Nat.lt_of_le_of_lt (Nat.div_le_self _ _) hx
  have h3 : x / 2 ^ r < 2 ^ (64 - r) := Nat.div_lt_of_lt_mul (by rw [two_split r hr]; exact hx)
  have e : x / 2 ^ r + 2 ^ (64 - r) * (y % 2 ^ r) = x / 2 ^ r ||| y * 2 ^ (64 - r) % M := by
    rw [e0, Nat.add_comm, Nat.two_pow_add_eq_or_of_lt h3, Nat.or_comm]
  refine ⟨by rw [wrap_mul, div_pow, bits_or _ _ h2 h1, e], ?_⟩
  rw [e]; exact Nat.or_lt_two_pow (n := 64) h2 h1

/-- A number times 2^r, r below 64, by its parts. -/
theorem shl_key (n r : Nat) (hn : n < W) (hr : r < 64) :
    n * 2 ^ r = mk (l0 n * 2 ^ r % M) (l1 n * 2 ^ r % M + l0 n / 2 ^ (64 - r)) (l2 n * 2 ^ r % M + l1 n / 2 ^ (64 - r)) (l3 n * 2 ^ r % M + l2 n / 2 ^ (64 - r)) + W * (l3 n / 2 ^ (64 - r)) := by
  have en := mk_parts n hn
  have d0 := Nat.div_add_mod (l0 n * 2 ^ r) M
  have d1 := Nat.div_add_mod (l1 n * 2 ^ r) M
  have d2 := Nat.div_add_mod (l2 n * 2 ^ r) M
  have d3 := Nat.div_add_mod (l3 n * 2 ^ r) M
  rw [hi_eq _ r hr] at d0 d1 d2 d3
  have ex : n * 2 ^ r = l0 n * 2 ^ r + M * (l1 n * 2 ^ r + M * (l2 n * 2 ^ r + M * (l3 n * 2 ^ r))) := by
    rw [← en, l0_mk _ _ _ _ (l0_lt n), l1_mk _ _ _ _ (l0_lt n) (l1_lt n), l2_mk _ _ _ _ (l0_lt n) (l1_lt n) (l2_lt n), l3_mk _ _ _ _ (l0_lt n) (l1_lt n) (l2_lt n) (l3_lt n)]
    unfold mk; grind
  rw [ex, W_eq]
  generalize l0 n * 2 ^ r = x0 at *; generalize l1 n * 2 ^ r = x1 at *; generalize l2 n * 2 ^ r = x2 at *; generalize l3 n * 2 ^ r = x3 at *
  generalize l0 n / 2 ^ (64 - r) = y0 at *; generalize l1 n / 2 ^ (64 - r) = y1 at *; generalize l2 n / 2 ^ (64 - r) = y2 at *; generalize l3 n / 2 ^ (64 - r) = y3 at *
  unfold mk M at *; omega

theorem shr_key (n r : Nat) (hn : n < W) (hr : r < 64) :
    n / 2 ^ r = mk (l0 n / 2 ^ r + 2 ^ (64 - r) * (l1 n % 2 ^ r)) (l1 n / 2 ^ r + 2 ^ (64 - r) * (l2 n % 2 ^ r)) (l2 n / 2 ^ r + 2 ^ (64 - r) * (l3 n % 2 ^ r)) (l3 n / 2 ^ r) := by
  have en := mk_parts n hn
  have hs := two_split r hr
  have hp : 0 < 2 ^ r := Nat.two_pow_pos r
  have d0 := Nat.div_add_mod (l0 n) (2 ^ r)
  have d1 := Nat.div_add_mod (l1 n) (2 ^ r)
  have d2 := Nat.div_add_mod (l2 n) (2 ^ r)
  have d3 := Nat.div_add_mod (l3 n) (2 ^ r)
  have s0 := Nat.mod_lt (l0 n) hp
  generalize l0 n % 2 ^ r = z0 at *; generalize l1 n % 2 ^ r = z1 at *; generalize l2 n % 2 ^ r = z2 at *; generalize l3 n % 2 ^ r = z3 at *
  generalize l0 n / 2 ^ r = y0 at *; generalize l1 n / 2 ^ r = y1 at *; generalize l2 n / 2 ^ r = y2 at *; generalize l3 n / 2 ^ r = y3 at *
  have key : n = z0 + 2 ^ r * mk (y0 + 2 ^ (64 - r) * z1) (y1 + 2 ^ (64 - r) * z2) (y2 + 2 ^ (64 - r) * z3) y3 := by
    rw [← en, ← d0, ← d1, ← d2, ← d3]
    unfold mk
    generalize 2 ^ r = p at *; generalize 2 ^ (64 - r) = q at *
    rw [← hs]; grind
  conv => lhs; rw [key]
  rw [Nat.add_mul_div_left _ _ hp, Nat.div_eq_of_lt s0, Nat.zero_add]

theorem mk_up (a b c d h : Nat) : (mk a b c d + W * h) * M = mk 0 a b c + W * (d + M * h) := by rw [W_eq]; unfold mk; grind
theorem mk_mod (a b c d h : Nat) (ha : a < M) (hb : b < M) (hc : c < M) (hd : d < M) : (mk a b c d + W * h) % W = mk a b c d := by
  rw [Nat.add_mul_mod_self_left, Nat.mod_eq_of_lt (mk_lt a b c d ha hb hc hd)]
theorem mk_down (a b c d : Nat) (ha : a < M) : mk a b c d / M = mk b c d 0 := by
  unfold mk; rw [mk_div _ _ ha]; simp
end Go.Proofs.YtjjiendgmnlokaaDoor
