/- Plain facts: sums, differences, comparisons and bits of numbers of 256 bits, told by their parts. No program is named here. -/
import Derived.Test.YtdlanihbpbfbcaaDoorNum
import Derived.Laws.Bits64b
import Derived.Laws.Bits64
import Derived.Lib.BitFns
namespace Go.Proofs.YtdlanihbpbfbcaaDoor

theorem of_mk (n a b c d : Nat) (h : n = mk a b c d) (ha : a < M) (hb : b < M) (hc : c < M) (hd : d < M) : l0 n = a ∧ l1 n = b ∧ l2 n = c ∧ l3 n = d := by
  subst h; exact ⟨l0_mk _ _ _ _ ha, l1_mk _ _ _ _ ha hb, l2_mk _ _ _ _ ha hb hc, l3_mk _ _ _ _ ha hb hc hd⟩

theorem add_parts (n m : Nat) (hn : n < W) (hm : m < W) :
    (l0 ((n + m) % W) = sm (l0 n) (l0 m) 0 ∧ l1 ((n + m) % W) = sm (l1 n) (l1 m) (cy (l0 n) (l0 m) 0) ∧
    l2 ((n + m) % W) = sm (l2 n) (l2 m) (cy (l1 n) (l1 m) (cy (l0 n) (l0 m) 0)) ∧
    l3 ((n + m) % W) = sm (l3 n) (l3 m) (cy (l2 n) (l2 m) (cy (l1 n) (l1 m) (cy (l0 n) (l0 m) 0)))) ∧
    ((0 < cy (l3 n) (l3 m) (cy (l2 n) (l2 m) (cy (l1 n) (l1 m) (cy (l0 n) (l0 m) 0)))) ↔ W ≤ n + m) := by
  have a0 := l0_lt n; have a1 := l1_lt n; have a2 := l2_lt n; have a3 := l3_lt n
  have b0 := l0_lt m; have b1 := l1_lt m; have b2 := l2_lt m; have b3 := l3_lt m
  have en := mk_parts n hn
  have em := mk_parts m hm
  generalize l0 n = x0 at *; generalize l1 n = x1 at *; generalize l2 n = x2 at *; generalize l3 n = x3 at *
  generalize l0 m = y0 at *; generalize l1 m = y1 at *; generalize l2 m = y2 at *; generalize l3 m = y3 at *
  have e0 := sm_cy x0 y0 0 a0 b0 (by omega)
  have c0 := cy_le x0 y0 0
  have s0 := sm_lt x0 y0 0
  generalize cy x0 y0 0 = k0 at *; generalize sm x0 y0 0 = t0 at *
  have e1 := sm_cy x1 y1 k0 a1 b1 c0
  have c1 := cy_le x1 y1 k0
  have s1 := sm_lt x1 y1 k0
  generalize cy x1 y1 k0 = k1 at *; generalize sm x1 y1 k0 = t1 at *
  have e2 := sm_cy x2 y2 k1 a2 b2 c1
  have c2 := cy_le x2 y2 k1
  have s2 := sm_lt x2 y2 k1
  generalize cy x2 y2 k1 = k2 at *; generalize sm x2 y2 k1 = t2 at *
  have e3 := sm_cy x3 y3 k2 a3 b3 c2
  have c3 := cy_le x3 y3 k2
  have s3 := sm_lt x3 y3 k2
  generalize cy x3 y3 k2 = k3 at *; generalize sm x3 y3 k2 = t3 at *
  have hlt := mk_lt t0 t1 t2 t3 s0 s1 s2 s3
  have key : n + m = mk t0 t1 t2 t3 + W * k3 := by
    rw [← en, ← em, W_eq]; unfold mk M at *; omega
  refine ⟨of_mk _ t0 t1 t2 t3 ?_ s0 s1 s2 s3, ?_⟩
  · rw [key, Nat.add_mul_mod_self_left, Nat.mod_eq_of_lt hlt]
  · rw [key]
    have hW : 0 < W := by decide
    constructor
    · intro h
      have : k3 = 1 := by omega
      subst this; omega
    · intro h
      rcases Nat.eq_zero_or_pos k3 with h0 | h0
      · subst h0; omega
      · exact h0

theorem sub_parts (n m : Nat) (hn : n < W) (hm : m < W) :
    (l0 ((n + W - m) % W) = df (l0 n) (l0 m) 0 ∧ l1 ((n + W - m) % W) = df (l1 n) (l1 m) (bo (l0 n) (l0 m) 0) ∧
    l2 ((n + W - m) % W) = df (l2 n) (l2 m) (bo (l1 n) (l1 m) (bo (l0 n) (l0 m) 0)) ∧
    l3 ((n + W - m) % W) = df (l3 n) (l3 m) (bo (l2 n) (l2 m) (bo (l1 n) (l1 m) (bo (l0 n) (l0 m) 0)))) ∧
    ((0 < bo (l3 n) (l3 m) (bo (l2 n) (l2 m) (bo (l1 n) (l1 m) (bo (l0 n) (l0 m) 0)))) ↔ n < m) := by
  have a0 := l0_lt n; have a1 := l1_lt n; have a2 := l2_lt n; have a3 := l3_lt n
  have b0 := l0_lt m; have b1 := l1_lt m; have b2 := l2_lt m; have b3 := l3_lt m
  have en := mk_parts n hn
  have em := mk_parts m hm
  generalize l0 n = x0 at *; generalize l1 n = x1 at *; generalize l2 n = x2 at *; generalize l3 n = x3 at *
  generalize l0 m = y0 at *; generalize l1 m = y1 at *; generalize l2 m = y2 at *; generalize l3 m = y3 at *
  have e0 := df_bo x0 y0 0 a0 b0 (by omega)
  have c0 := bo_le x0 y0 0
  have s0 := df_lt x0 y0 0
  generalize bo x0 y0 0 = k0 at *; generalize df x0 y0 0 = t0 at *
  have e1 := df_bo x1 y1 k0 a1 b1 c0
  have c1 := bo_le x1 y1 k0
  have s1 := df_lt x1 y1 k0
  generalize bo x1 y1 k0 = k1 at *; generalize df x1 y1 k0 = t1 at *
  have e2 := df_bo x2 y2 k1 a2 b2 c1
  have c2 := bo_le x2 y2 k1
  have s2 := df_lt x2 y2 k1
  generalize bo x2 y2 k1 = k2 at *; generalize df x2 y2 k1 = t2 at *
  have e3 := df_bo x3 y3 k2 a3 b3 c2
  have c3 := bo_le x3 y3 k2
  have s3 := df_lt x3 y3 k2
  generalize bo x3 y3 k2 = k3 at *; generalize df x3 y3 k2 = t3 at *
  have hlt := mk_lt t0 t1 t2 t3 s0 s1 s2 s3
  have key : mk t0 t1 t2 t3 + m = n + W * k3 := by
    rw [← en, ← em, W_eq]; unfold mk M at *; omega
  have hk : k3 = 0 ∨ k3 = 1 := by omega
  refine ⟨of_mk _ t0 t1 t2 t3 ?_ s0 s1 s2 s3, ?_⟩
  · rcases hk with h | h
    · subst h
      rw [show n + W - m = mk t0 t1 t2 t3 + W by omega, Nat.add_mod_right, Nat.mod_eq_of_lt hlt]
    · subst h
      rw [show n + W - m = mk t0 t1 t2 t3 by omega, Nat.mod_eq_of_lt hlt]
  · rcases hk with h | h <;> subst h <;> constructor <;> intro <;> omega

def cmpN (n m : Nat) : Int := if n < m then -1 else if m < n then 1 else 0

theorem M_pow : M = 2 ^ 64 := by decide
theorem MM_pow : M * M = 2 ^ 128 := by decide
theorem MMM_pow : M * M * M = 2 ^ 192 := by decide
theorem W_pow : W = 2 ^ 256 := by decide +kernel
theorem and_parts (n m : Nat) : l0 (n &&& m) = l0 n &&& l0 m ∧ l1 (n &&& m) = l1 n &&& l1 m ∧ l2 (n &&& m) = l2 n &&& l2 m ∧ l3 (n &&& m) = l3 n &&& l3 m := by
  unfold l0 l1 l2 l3; rw [MMM_pow, MM_pow, M_pow]; simp only [Nat.and_div_two_pow, Nat.and_mod_two_pow, and_self]
theorem or_parts (n m : Nat) : l0 (n ||| m) = l0 n ||| l0 m ∧ l1 (n ||| m) = l1 n ||| l1 m ∧ l2 (n ||| m) = l2 n ||| l2 m ∧ l3 (n ||| m) = l3 n ||| l3 m := by
  unfold l0 l1 l2 l3; rw [MMM_pow, MM_pow, M_pow]; simp only [Nat.or_div_two_pow, Nat.or_mod_two_pow, and_self]
theorem xor_parts (n m : Nat) : l0 (n ^^^ m) = l0 n ^^^ l0 m ∧ l1 (n ^^^ m) = l1 n ^^^ l1 m ∧ l2 (n ^^^ m) = l2 n ^^^ l2 m ∧ l3 (n ^^^ m) = l3 n ^^^ l3 m := by
  unfold l0 l1 l2 l3; rw [MMM_pow, MM_pow, M_pow]; simp only [Nat.xor_div_two_pow, Nat.xor_mod_two_pow, and_self]
theorem not_parts (n : Nat) (hn : n < W) : l0 (W - 1 - n) = M - 1 - l0 n ∧ l1 (W - 1 - n) = M - 1 - l1 n ∧ l2 (W - 1 - n) = M - 1 - l2 n ∧ l3 (W - 1 - n) = M - 1 - l3 n := by
  have a0 := l0_lt n; have a1 := l1_lt n; have a2 := l2_lt n; have a3 := l3_lt n
  have en := mk_parts n hn
  refine of_mk _ _ _ _ _ ?_ (by omega) (by omega) (by omega) (by omega)
  rw [W_eq] at *
  generalize l0 n = x0 at *; generalize l1 n = x1 at *; generalize l2 n = x2 at *; generalize l3 n = x3 at *
  subst en; unfold mk M at *; omega

theorem bits_and (a b : Nat) (ha : a < M) (hb : b < M) : bits .and .u64 (a : Int) (b : Int) = ((a &&& b : Nat) : Int) := bits_and_u64_nat a b ha hb
theorem bits_or (a b : Nat) (ha : a < M) (hb : b < M) : bits .or .u64 (a : Int) (b : Int) = ((a ||| b : Nat) : Int) := bits_or_u64_nat a b ha hb
theorem bits_xor (a b : Nat) (ha : a < M) (hb : b < M) : bits .xor .u64 (a : Int) (b : Int) = ((a ^^^ b : Nat) : Int) := bits_xor_u64_nat a b ha hb
theorem ones_xor (a : Nat) (ha : a < M) : (M - 1) ^^^ a = M - 1 - a := by
  rw [M_pow] at *
  refine Nat.eq_of_testBit_eq fun i => ?_
  rw [Nat.testBit_xor, Nat.testBit_two_pow_sub_one, show 2 ^ 64 - 1 - a = 2 ^ 64 - (a + 1) by omega, Nat.testBit_two_pow_sub_succ ha]
  by_cases h : i < 64
  · simp [h]
  · have : a.testBit i = false := Nat.testBit_lt_two_pow (Nat.lt_of_lt_of_le ha (Nat.pow_le_pow_right (by decide) (by omega)))
    simp [h, this]
theorem bits_not (a : Nat) (ha : a < M) : bits .xor .u64 IntKind.u64.max (a : Int) = ((M - 1 - a : Nat) : Int) := by
  have h := bits_xor (M - 1) a (by decide) ha
  rw [ones_xor a ha] at h
  exact h
theorem wrap_not (a : Nat) (ha : a < M) : IntKind.u64.wrap (18446744073709551615 - (a : Int)) = ((M - 1 - a : Nat) : Int) := by
  rw [IntKind.wrap_u64]; unfold M at *; omega
end Go.Proofs.YtdlanihbpbfbcaaDoor
