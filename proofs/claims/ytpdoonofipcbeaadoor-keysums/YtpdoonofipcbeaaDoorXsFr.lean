/- Contracts of bits and powers. -/
import Derived.Test.YtpdoonofipcbeaaDoorXsFl
import Derived.Test.YtpdoonofipcbeaaDoorXsFo
import Derived.WalkSmall
namespace Go.Proofs.YtpdoonofipcbeaaDoor
open Go.RowKit Go.Sort
set_option linter.unusedVariables false
set_option maxRecDepth 100000 in
theorem bit_raw0 (a0 a1 a2 a3 i r : Nat) (hi : (i : Int) < 256) (hq : (i : Int) / 64 = 0) (hr : (i : Int) % 64 = (r : Int)) (hr1 : (r : Int) < 64) (z : Bool) (hz : (bits .and .u64 ((a0 : Int) / 2 ^ r) 1 == 1) = z) (w : World) :
    Calls Tryd.prog 71 #[U4 a0 a1 a2 a3, .int .i64 (i : Int)] w fun e w' => e = .returned (.bool z) ∧ Below w.heap.size w w' := by
  go_enter Tryd.func71, Tryd.ntmps71
  go_wp2
  go_ret
  exact ⟨rfl, bel_alloc (Below.refl _ _) _⟩
set_option maxRecDepth 100000 in
theorem bit_raw1 (a0 a1 a2 a3 i r : Nat) (hi : (i : Int) < 256) (hq : (i : Int) / 64 = 1) (hr : (i : Int) % 64 = (r : Int)) (hr1 : (r : Int) < 64) (z : Bool) (hz : (bits .and .u64 ((a1 : Int) / 2 ^ r) 1 == 1) = z) (w : World) :
    Calls Tryd.prog 71 #[U4 a0 a1 a2 a3, .int .i64 (i : Int)] w fun e w' => e = .returned (.bool z) ∧ Below w.heap.size w w' := by
  go_enter Tryd.func71, Tryd.ntmps71
  go_wp2
  go_ret
  exact ⟨rfl, bel_alloc (Below.refl _ _) _⟩
set_option maxRecDepth 100000 in
theorem bit_raw2 (a0 a1 a2 a3 i r : Nat) (hi : (i : Int) < 256) (hq : (i : Int) / 64 = 2) (hr : (i : Int) % 64 = (r : Int)) (hr1 : (r : Int) < 64) (z : Bool) (hz : (bits .and .u64 ((a2 : Int) / 2 ^ r) 1 == 1) = z) (w : World) :
    Calls Tryd.prog 71 #[U4 a0 a1 a2 a3, .int .i64 (i : Int)] w fun e w' => e = .returned (.bool z) ∧ Below w.heap.size w w' := by
  go_enter Tryd.func71, Tryd.ntmps71
  go_wp2
  go_ret
  exact ⟨rfl, bel_alloc (Below.refl _ _) _⟩
set_option maxRecDepth 100000 in
theorem bit_raw3 (a0 a1 a2 a3 i r : Nat) (hi : (i : Int) < 256) (hq : (i : Int) / 64 = 3) (hr : (i : Int) % 64 = (r : Int)) (hr1 : (r : Int) < 64) (z : Bool) (hz : (bits .and .u64 ((a3 : Int) / 2 ^ r) 1 == 1) = z) (w : World) :
    Calls Tryd.prog 71 #[U4 a0 a1 a2 a3, .int .i64 (i : Int)] w fun e w' => e = .returned (.bool z) ∧ Below w.heap.size w w' := by
  go_enter Tryd.func71, Tryd.ntmps71
  go_wp2
  go_ret
  exact ⟨rfl, bel_alloc (Below.refl _ _) _⟩
theorem and_bit (x r : Nat) (hx : x < M) : (bits .and .u64 ((x : Int) / 2 ^ r) 1 == 1) = x.testBit r := by
  have e1 : ((x : Int) / 2 ^ r) = ((x / 2 ^ r : Nat) : Int) := by simp
  have e2 := bits_and (x / 2 ^ r) 1 (Nat.lt_of_le_of_lt (Nat.div_le_self _ _) hx) (by decide)
  rw [e1, show (1 : Int) = ((1 : Nat) : Int) from rfl, e2, Nat.and_one_is_mod, Nat.testBit_eq_decide_div_mod_eq, Bool.eq_iff_iff]
  simp only [beq_iff_eq, decide_eq_true_eq]
  omega
theorem tb_part (e q r : Nat) (hr : r < 64) : (e / 2 ^ (64 * q) % M).testBit r = e.testBit (64 * q + r) := by
  rw [M_pow, Nat.testBit_mod_two_pow, Nat.testBit_div_two_pow, Nat.add_comm r]
  simp [hr]
theorem pbit_any (e i : Nat) (hi : i < 256) : Does 71 #[U e, .int .i64 (i : Int)] (.bool (e.testBit i)) := by
  have hr : i % 64 < 64 := Nat.mod_lt _ (by decide)
  have key : ∀ q, i / 64 = q → e.testBit i = (e / 2 ^ (64 * q) % M).testBit (i % 64) := fun q hq => by
    rw [tb_part e q _ hr]; congr 1; omega
  have hq : i / 64 = 0 ∨ i / 64 = 1 ∨ i / 64 = 2 ∨ i / 64 = 3 := by omega
  rcases hq with h | h | h | h
  · have k := key 0 h
    have e1 : e / 2 ^ (64 * 0) % M = l0 e := by unfold l0; rw [Nat.mul_zero, Nat.pow_zero, Nat.div_one]
    rw [e1] at k
    exact fun w => bit_raw0 _ _ _ _ i (i % 64) (by omega) (by omega) (by omega) (by omega) _ (by rw [and_bit _ _ (l0_lt e), k]) w
  · have k := key 1 h
    have e1 : e / 2 ^ (64 * 1) % M = l1 e := by unfold l1; rw [M_pow]
    rw [e1] at k
    exact fun w => bit_raw1 _ _ _ _ i (i % 64) (by omega) (by omega) (by omega) (by omega) _ (by rw [and_bit _ _ (l1_lt e), k]) w
  · have k := key 2 h
    have e1 : e / 2 ^ (64 * 2) % M = l2 e := by unfold l2; rw [MM_pow]
    rw [e1] at k
    exact fun w => bit_raw2 _ _ _ _ i (i % 64) (by omega) (by omega) (by omega) (by omega) _ (by rw [and_bit _ _ (l2_lt e), k]) w
  · have k := key 3 h
    have e1 : e / 2 ^ (64 * 3) % M = l3 e := by unfold l3; rw [MMM_pow]
    rw [e1] at k
    exact fun w => bit_raw3 _ _ _ _ i (i % 64) (by omega) (by omega) (by omega) (by omega) _ (by rw [and_bit _ _ (l3_lt e), k]) w
theorem bitLen_lt : ∀ (k x : Nat), x < 2 ^ k → k ≤ 64 → x < 2 ^ Lib.bitLen x
  | 0, x, h, _ => by
    have : x = 0 := by simpa using h
    subst this; decide
  | k + 1, x, h, hk => by
    by_cases h0 : x = 0
    · subst h0; decide
    · have h64 : x < 2 ^ 64 := Nat.lt_of_lt_of_le h (Nat.pow_le_pow_right (by decide) hk)
      rw [Lib.bitLen_half x h0 h64, Nat.pow_add]
      have h2 : x / 2 < 2 ^ k := by rw [Nat.pow_succ] at h; omega
      have := bitLen_lt k (x / 2) h2 (by omega)
      omega
theorem bitsN_lt (n : Nat) (hn : n < W) : n < 2 ^ bitsN n := by
  have hM : M = 2 ^ 64 := by decide
  have key : ∀ x d : Nat, 0 < d → x = n / d → x < M → n < 2 ^ Lib.bitLen x * d := by
    intro x d hd hx hlt
    rw [hM] at hlt
    have := bitLen_lt 64 x hlt (by decide)
    generalize 2 ^ Lib.bitLen x = p at *
    rw [hx] at this
    exact (Nat.div_lt_iff_lt_mul hd).1 this
  have e3 : l3 n = n / (M * M * M) := by
    unfold l3
    exact Nat.mod_eq_of_lt (Nat.div_lt_of_lt_mul (by rw [← W_eq]; exact hn))
  have p1 : ∀ b, 2 ^ (64 + b) = 2 ^ b * M := fun b => by have := pow_q 1 b; rw [Nat.mul_one, Nat.pow_one] at this; exact this
  have p2 : ∀ b, 2 ^ (128 + b) = 2 ^ b * (M * M) := fun b => by have := pow_q 2 b; rw [show M ^ 2 = M * M from by decide +kernel] at this; exact this
  have p3 : ∀ b, 2 ^ (192 + b) = 2 ^ b * (M * M * M) := fun b => by have := pow_q 3 b; rw [show M ^ 3 = M * M * M from by decide +kernel] at this; exact this
  unfold bitsN bits4
  by_cases h3 : l3 n = 0
  · rw [if_pos h3]
    have z3 : n < M * M * M := by
      rw [e3] at h3
      exact (Nat.div_eq_zero_iff_lt (by decide)).1 h3
    have e2 : l2 n = n / (M * M) := by
      unfold l2
      exact Nat.mod_eq_of_lt (Nat.div_lt_of_lt_mul z3)
    by_cases h2 : l2 n = 0
    · rw [if_pos h2]
      have z2 : n < M * M := by
        rw [e2] at h2
        exact (Nat.div_eq_zero_iff_lt (by decide)).1 h2
      have e1 : l1 n = n / M := by
        unfold l1
        exact Nat.mod_eq_of_lt (Nat.div_lt_of_lt_mul z2)
      by_cases h1 : l1 n = 0
      · rw [if_pos h1]
        have z1 : n < M := by
          rw [e1] at h1
          exact (Nat.div_eq_zero_iff_lt (by decide)).1 h1
        have e0 : l0 n = n := by unfold l0; exact Nat.mod_eq_of_lt z1
        by_cases h0 : l0 n = 0
        · rw [if_pos h0, ← e0, h0]; decide
        · rw [if_neg h0, e0]
          have := key n 1 (by decide) (by rw [Nat.div_one]) z1
          rwa [Nat.mul_one] at this
      · rw [if_neg h1, p1]
        exact key _ _ (by decide) e1 (l1_lt n)
    · rw [if_neg h2, p2]
      exact key _ _ (by decide) e2 (l2_lt n)
  · rw [if_neg h3, p3]
    exact key _ _ (by decide) e3 (l3_lt n)
theorem mod_succ_bit (e i : Nat) : e % 2 ^ (i + 1) = e % 2 ^ i + (if e.testBit i then 2 ^ i else 0) := by
  rw [Nat.mod_pow_succ, Nat.testBit_eq_decide_div_mod_eq]
  have h2 := Nat.mod_lt (e / 2 ^ i) (show 0 < 2 by decide)
  by_cases h : e / 2 ^ i % 2 = 1
  · rw [h]; simp
  · rw [show e / 2 ^ i % 2 = 0 by omega]; simp
/-- The number, squared i times. -/
def sqA (a : Nat) : Nat → Nat
  | 0 => a
  | j + 1 => a ^ 2 ^ (j + 1) % Pp
theorem sqA_mod (a i : Nat) : sqA a i % Pp = a ^ 2 ^ i % Pp := by
  cases i with
  | zero => show a % Pp = a ^ 2 ^ 0 % Pp; rw [Nat.pow_zero, Nat.pow_one]
  | succ j => exact Nat.mod_mod _ _
theorem sqA_lt (a i : Nat) (ha : a < W) : sqA a i < W := by
  cases i with
  | zero => exact ha
  | succ j => exact Nat.lt_trans (Nat.mod_lt _ Pp_pos) Pp_lt
theorem pw_lt (x : Nat) : x % Pp < W := Nat.lt_trans (Nat.mod_lt _ Pp_pos) Pp_lt
theorem one_mod : 1 % Pp = 1 := by decide +kernel
theorem power_any (a e : Nat) (ha : a < W) (he : e < W) : Does 84 #[U a, U e] (U (a ^ e % Pp)) := by
  have hn : e < 2 ^ bitsN e := bitsN_lt e he
  have hN : bitsN e ≤ 256 := bitsN_le e 256 (by rw [← W_pow]; exact he)
  have h := power_raw (sqA a) (fun i => a ^ (e % 2 ^ i) % Pp) (fun i => e.testBit i) e (bitsN e) hN
    (by
      show Does 31 #[(.int .u64 1)] (U (a ^ (e % 2 ^ 0) % Pp))
      rw [Nat.pow_zero, Nat.mod_one, Nat.pow_zero, one_mod]
      exact fun w => of_any 1 (by decide) w)
    (fun w => bits_any e w) (fun i hi => pbit_any e i (by omega))
    (fun i => by
      have k := product_any (sqA a i) (sqA a i) (sqA_lt a i ha) (sqA_lt a i ha)
      rw [Nat.mul_mod, sqA_mod, ← Nat.mul_mod, ← Nat.pow_add, show 2 ^ i + 2 ^ i = 2 ^ (i + 1) by rw [Nat.pow_succ]; omega] at k
      exact k)
    (fun i hi hb => by
      have k := product_any (a ^ (e % 2 ^ i) % Pp) (sqA a i) (pw_lt _) (sqA_lt a i ha)
      have hb' : e.testBit i = true := hb
      have e1 := mod_succ_bit e i
      rw [if_pos hb'] at e1
      rw [Nat.mul_mod, Nat.mod_mod, sqA_mod, ← Nat.mul_mod, ← Nat.pow_add, ← e1] at k
      exact k)
    (fun i hi hb => by
      have hb' : ¬ e.testBit i = true := by rw [hb]; decide
      have e1 := mod_succ_bit e i
      rw [if_neg hb'] at e1
      show a ^ (e % 2 ^ (i + 1)) % Pp = a ^ (e % 2 ^ i) % Pp
      rw [e1]
      simp only [Nat.add_zero])
  rw [Nat.mod_eq_of_lt hn] at h
  exact h
theorem sub2 : subW Pp 2 = Pp - 2 := by decide +kernel
theorem inverse_any' (a : Nat) (ha : a < W) : Does 66 #[U a] (U (a ^ (Pp - 2) % Pp)) := by
  have c3 : Does 82 #[U Pp, U 2] (.tuple #[U (subW Pp 2), .bool (unW Pp 2)]) := fun w => sub_any Pp 2 Pp_lt (by decide +kernel) w
  rw [sub2] at c3
  exact fun w => inverse_raw a prime_any (fun w => of_any 2 (by decide) w) c3 (power_any a (Pp - 2) ha (Nat.lt_of_le_of_lt (Nat.sub_le _ _) Pp_lt)) w
end Go.Proofs.YtpdoonofipcbeaaDoor
