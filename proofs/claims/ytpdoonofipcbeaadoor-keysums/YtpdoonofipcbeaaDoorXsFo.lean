/- Contracts of the document's numbers by the prime, told by numbers. -/
import Derived.Test.YtpdoonofipcbeaaDoorXsFn
import Derived.Test.YtpdoonofipcbeaaDoorXsFd
import Derived.Test.YtpdoonofipcbeaaDoorXsFb
namespace Go.Proofs.YtpdoonofipcbeaaDoor
open Go.RowKit Go.Sort
set_option linter.unusedVariables false
theorem U_Pp : (.agg #[.int .u64 18446744069414583343, .int .u64 18446744073709551615, .int .u64 18446744073709551615, .int .u64 18446744073709551615] : Value) = U Pp := by
  have h0 : l0 Pp = 18446744069414583343 := by decide +kernel
  have h1 : l1 Pp = 18446744073709551615 := by decide +kernel
  have h2 : l2 Pp = 18446744073709551615 := by decide +kernel
  have h3 : l3 Pp = 18446744073709551615 := by decide +kernel
  unfold U U4
  rw [h0, h1, h2, h3]
  rfl
theorem prime_any : Does 83 #[] (U Pp) := by rw [← U_Pp]; exact fun w => prime_raw w
theorem rprime_any : Does 35 #[] (U Pp) := by rw [← U_Pp]; exact fun w => rprime_raw w
theorem rplus_any (a b : Nat) (ha : a < Pp) (hb : b < Pp) : Does 58 #[U a, U b] (U ((a + b) % Pp)) := by
  have hP := W_P
  have hg : Gp < Pp := by decide +kernel
  have c1 : Does 22 #[U a, U b] (.tuple #[U (addW a b), .bool (ovW a b)]) := fun w => radd_any a b (by omega) (by omega) w
  have c3 : Does 19 #[U (addW a b), U Pp] (.tuple #[U (subW (addW a b) Pp), .bool (unW (addW a b) Pp)]) := fun w => rsub_any _ _ (addW_lt _ _) Pp_lt w
  by_cases ho : W ≤ a + b
  · have e1 : ovW a b = true := decide_eq_true ho
    rw [e1] at c1
    have e2 : subW (addW a b) Pp = (a + b) % Pp := by
      unfold subW addW
      rw [Nat.mod_eq_sub_mod ho, Nat.mod_eq_of_lt (by omega : a + b - W < W), Nat.mod_eq_of_lt (by omega), Nat.mod_eq_sub_mod (by omega : a + b ≥ Pp), Nat.mod_eq_of_lt (by omega)]
      omega
    rw [e2] at c3
    exact fun w => rplus_ov a b c1 rprime_any c3 w
  · have e1 : ovW a b = false := decide_eq_false ho
    rw [e1] at c1
    have e0 : addW a b = a + b := Nat.mod_eq_of_lt (by omega)
    rw [e0] at c1 c3
    by_cases hu : a + b < Pp
    · rw [show unW (a + b) Pp = true from decide_eq_true hu] at c3
      rw [Nat.mod_eq_of_lt hu]
      exact fun w => rplus_un a b c1 rprime_any c3 w
    · rw [show unW (a + b) Pp = false from decide_eq_false hu] at c3
      have e2 : subW (a + b) Pp = (a + b) % Pp := by
        unfold subW
        rw [show a + b + W - Pp = (a + b - Pp) + W by omega, Nat.add_mod_right, Nat.mod_eq_of_lt (by omega), Nat.mod_eq_sub_mod (by omega : a + b ≥ Pp), Nat.mod_eq_of_lt (by omega)]
      rw [e2] at c3
      exact fun w => rplus_no a b c1 rprime_any c3 w
theorem rminus_any (a b : Nat) (ha : a < Pp) (hb : b < Pp) : Does 43 #[U a, U b] (U ((a + (Pp - b)) % Pp)) := by
  have hP := W_P
  have c1 : Does 19 #[U a, U b] (.tuple #[U (subW a b), .bool (unW a b)]) := fun w => rsub_any a b (by omega) (by omega) w
  have c3 : Does 22 #[U (subW a b), U Pp] (.tuple #[U (addW (subW a b) Pp), .bool (ovW (subW a b) Pp)]) := fun w => radd_any _ _ (subW_lt _ _) Pp_lt w
  have h := rminus_raw a b c1 (fun _ => rprime_any) (fun _ => c3)
  have e : (cond (unW a b) (U (addW (subW a b) Pp)) (U (subW a b)) : Value) = U ((a + (Pp - b)) % Pp) := by
    by_cases hu : a < b
    · rw [show unW a b = true from decide_eq_true hu]
      refine congrArg U ?_
      unfold addW subW
      rw [Nat.mod_eq_of_lt (by omega : a + W - b < W), Nat.mod_eq_of_lt (by omega : a + (Pp - b) < Pp), Nat.mod_eq_sub_mod (by omega), Nat.mod_eq_of_lt (by omega)]
      omega
    · rw [show unW a b = false from decide_eq_false hu]
      refine congrArg U ?_
      unfold subW
      rw [show a + W - b = (a - b) + W by omega, Nat.add_mod_right, Nat.mod_eq_of_lt (by omega), show a + (Pp - b) = (a - b) + Pp by omega, Nat.add_mod_right, Nat.mod_eq_of_lt (by omega)]
  rw [e] at h
  exact h
theorem mul_x (x y : Nat) (hx : x < M) (hy : y < M) : Does 57 #[B x, B y] (.tuple #[B (x * y / M), B (x * y % M)]) := fun w =>
  (mul64_any x y hx hy w).mono (by rintro e w' ⟨rfl, rfl⟩; exact ⟨rfl, Below.refl _ _⟩)
theorem rstep_ex {x a d : Nat} (hx : x < M) (ha : a < M) (hd : d < M) : ∃ hi lo s1 c1 t1 c2 u1 u2 : Nat, Does 57 #[B x, B Gp] (.tuple #[B hi, B lo]) ∧ XDoes 44 #[B a, B lo, B 0] (.tuple #[B s1, B c1]) ∧ XDoes 44 #[B s1, B d, B 0] (.tuple #[B t1, B c2]) ∧
    IntKind.u64.wrap ((hi : Int) + (c1 : Int)) = (u1 : Int) ∧ IntKind.u64.wrap ((u1 : Int) + (c2 : Int)) = (u2 : Int) ∧ M * u2 + t1 = x * Gp + a + d ∧ u2 < M ∧ t1 < M := by
  have hb := hs_lt hx Gp_lt ha hd
  have hq : x * Gp / M < M := Nat.div_lt_of_lt_mul (Nat.mul_lt_mul'' hx Gp_lt)
  have ed := Nat.div_add_mod (x * Gp) M
  have hl : x * Gp % M < M := Nat.mod_lt _ (by decide)
  have e1 := sm_cy a (x * Gp % M) 0 ha hl (by omega)
  have e2 := sm_cy (sm a (x * Gp % M) 0) d 0 (sm_lt _ _ _) hd (by omega)
  have k1 := cy_le a (x * Gp % M) 0
  have k2 := cy_le (sm a (x * Gp % M) 0) d 0
  have l2 := sm_lt (sm a (x * Gp % M) 0) d 0
  have m1 := mul_x x Gp hx Gp_lt
  have m2 := add_x a (x * Gp % M) 0 ha hl (by omega)
  have m3 := add_x (sm a (x * Gp % M) 0) d 0 (sm_lt _ _ _) hd (by omega)
  unfold hs at hb
  generalize x * Gp / M = hi at *
  generalize x * Gp % M = lo at *
  generalize sm a lo 0 = s1 at *
  generalize cy a lo 0 = c1 at *
  generalize sm s1 d 0 = t1 at *
  generalize cy s1 d 0 = c2 at *
  have hsum : M * (hi + c1 + c2) + t1 = x * Gp + a + d := by rw [Nat.mul_add, Nat.mul_add]; omega
  have hlt : hi + c1 + c2 < M := by
    rw [← hsum, Nat.mul_add_div (by decide), Nat.div_eq_of_lt l2, Nat.add_zero] at hb
    exact hb
  refine ⟨hi, lo, s1, c1, t1, c2, hi + c1, hi + c1 + c2, m1, m2, m3, ?_, ?_, hsum, hlt, l2⟩
  · rw [IntKind.wrap_u64]; unfold M at hlt; omega
  · rw [IntKind.wrap_u64]; unfold M at hlt; omega
theorem rtimes_any (a b : Nat) (ha : a < W) (hb : b < W) : Does 36 #[U a, U b] (U (a * b % Pp)) := by
  have hP := W_P
  have hW : Does 56 #[U a, U b] (.tuple #[U (a * b / W), U (a * b % W)]) := fun w => rwide_any a b ha hb w
  have hh : a * b / W < W := Nat.div_lt_of_lt_mul (Nat.mul_lt_mul'' ha hb)
  have hl : a * b % W < W := Nat.mod_lt _ W_pos
  have ed := Nat.div_add_mod (a * b) W
  generalize a * b / W = hi at *
  generalize a * b % W = lo at *
  have z : (0 : Nat) < M := by decide
  obtain ⟨m0, n0, s0, c0, t0, d0, u0, v0, p0, q0, r0, w0, x0, e0, y0, z0⟩ := rstep_ex (l0_lt hi) (l0_lt lo) z
  obtain ⟨m1, n1, s1, c1, t1, d1, u1, v1, p1, q1, r1, w1, x1, e1, y1, z1⟩ := rstep_ex (l1_lt hi) (l1_lt lo) y0
  obtain ⟨m2, n2, s2, c2, t2, d2, u2, v2, p2, q2, r2, w2, x2, e2, y2, z2⟩ := rstep_ex (l2_lt hi) (l2_lt lo) y1
  obtain ⟨m3, n3, s3, c3, t3, d3, u3, v3, p3, q3, r3, w3, x3, e3, y3, z3⟩ := rstep_ex (l3_lt hi) (l3_lt lo) y2
  have e := stp4 e0 e1 e2 e3
  rw [W4] at e
  have eh := mk_parts hi hh
  have el := mk_parts lo hl
  have hfst : mk t0 t1 t2 t3 + W * v3 = lo + Gp * hi := by
    have e' : mk t0 t1 t2 t3 + W * v3 = mk (l0 lo) (l1 lo) (l2 lo) (l3 lo) + Gp * mk (l0 hi) (l1 hi) (l2 hi) (l3 hi) := e
    rwa [eh, el] at e'
  have hk3 : v3 ≤ Gp := by
    have h9 : Gp * hi ≤ Gp * W := Nat.mul_le_mul_left _ (Nat.le_of_lt hh)
    have h10 : W * v3 < W * (Gp + 1) := by rw [Nat.mul_add, Nat.mul_one, Nat.mul_comm W Gp]; omega
    have := Nat.lt_of_mul_lt_mul_left h10
    omega
  have hkG : v3 * Gp ≤ Gp * Gp := Nat.mul_le_mul_right _ hk3
  have hGG := GG_lt
  have lt4 := mk_lt t0 t1 t2 t3 z0 z1 z2 z3
  have m4 := mul_x v3 Gp y3 Gp_lt
  have ev := Nat.div_add_mod (v3 * Gp) M
  have hvd : v3 * Gp / M < M := Nat.div_lt_of_lt_mul (Nat.mul_lt_mul'' y3 Gp_lt)
  have hvm : v3 * Gp % M < M := Nat.mod_lt _ z
  have eU1 := U_mk t0 t1 t2 t3 z0 z1 z2 z3
  have eU2 := U_mk (v3 * Gp % M) (v3 * Gp / M) 0 0 hvm hvd z z
  have em2 : mk (v3 * Gp % M) (v3 * Gp / M) 0 0 = v3 * Gp := by unfold mk; rw [Nat.mul_zero, Nat.add_zero, Nat.mul_zero, Nat.add_zero]; omega
  rw [em2] at eU2
  have hXlt : mk t0 t1 t2 t3 + v3 * Gp < 2 * Pp := by omega
  have hmod : (mk t0 t1 t2 t3 + v3 * Gp) % Pp = a * b % Pp := by
    have k1 : (mk t0 t1 t2 t3 + v3 * Gp) + Pp * v3 = lo + Gp * hi := by
      rw [← hfst, W_P, Nat.add_mul, Nat.mul_comm v3 Gp]; omega
    have k2 : a * b = (lo + Gp * hi) + Pp * hi := by
      rw [← ed, W_P, Nat.add_mul]; omega
    rw [k2, Nat.add_mul_mod_self_left, ← k1, Nat.add_mul_mod_self_left]
  rw [← hmod]
  generalize hX : mk t0 t1 t2 t3 = tt at *
  have a1 : Does 22 #[U tt, U (v3 * Gp)] (.tuple #[U (addW tt (v3 * Gp)), .bool (ovW tt (v3 * Gp))]) := fun w => radd_any _ _ lt4 (by omega) w
  rw [eU1, eU2] at a1
  have a2 : Does 22 #[U (addW tt (v3 * Gp)), U Gp] (.tuple #[U (addW (addW tt (v3 * Gp)) Gp), .bool (ovW (addW tt (v3 * Gp)) Gp)]) := fun w => radd_any _ _ (addW_lt _ _) (Nat.lt_trans Gp_lt (by decide +kernel)) w
  have a3 : Does 19 #[U (addW (addW tt (v3 * Gp)) Gp), U Pp] (.tuple #[U (subW (addW (addW tt (v3 * Gp)) Gp) Pp), .bool (unW (addW (addW tt (v3 * Gp)) Gp) Pp)]) := fun w => rsub_any _ _ (addW_lt _ _) Pp_lt w
  have a4 : Does 19 #[U (addW tt (v3 * Gp)), U Pp] (.tuple #[U (subW (addW tt (v3 * Gp)) Pp), .bool (unW (addW tt (v3 * Gp)) Pp)]) := fun w => rsub_any _ _ (addW_lt _ _) Pp_lt w
  have h := rtimes_raw a b hW p0 q0 r0 w0 x0 p1 q1 r1 w1 x1 p2 q2 r2 w2 x2 p3 q3 r3 w3 x3 m4 a1 (fun _ => a2) (fun _ => rprime_any) (fun _ => a3) (fun _ => rprime_any) (fun _ => a4)
  have ee : (cond (ovW tt (v3 * Gp)) (cond (unW (addW (addW tt (v3 * Gp)) Gp) Pp) (U (addW (addW tt (v3 * Gp)) Gp)) (U (subW (addW (addW tt (v3 * Gp)) Gp) Pp))) (cond (unW (addW tt (v3 * Gp)) Pp) (U (addW tt (v3 * Gp))) (U (subW (addW tt (v3 * Gp)) Pp))) : Value) = U ((tt + v3 * Gp) % Pp) := by
    by_cases ho : W ≤ tt + v3 * Gp
    · have e1 : addW tt (v3 * Gp) = tt + v3 * Gp - W := by unfold addW; rw [Nat.mod_eq_sub_mod ho, Nat.mod_eq_of_lt (by omega)]
      have e2 : addW (addW tt (v3 * Gp)) Gp = tt + v3 * Gp - Pp := by rw [e1]; unfold addW; rw [Nat.mod_eq_of_lt (by omega)]; omega
      rw [show ovW tt (v3 * Gp) = true from decide_eq_true ho, e2, show unW (tt + v3 * Gp - Pp) Pp = true from decide_eq_true (by omega)]
      show U _ = U _
      rw [Nat.mod_eq_sub_mod (by omega : tt + v3 * Gp ≥ Pp), Nat.mod_eq_of_lt (by omega)]
    · have e1 : addW tt (v3 * Gp) = tt + v3 * Gp := Nat.mod_eq_of_lt (by omega)
      rw [show ovW tt (v3 * Gp) = false from decide_eq_false ho, e1]
      by_cases hu : tt + v3 * Gp < Pp
      · rw [show unW (tt + v3 * Gp) Pp = true from decide_eq_true hu]
        show U _ = U _
        rw [Nat.mod_eq_of_lt hu]
      · rw [show unW (tt + v3 * Gp) Pp = false from decide_eq_false hu]
        refine congrArg U ?_
        unfold subW
        rw [show tt + v3 * Gp + W - Pp = (tt + v3 * Gp - Pp) + W by omega, Nat.add_mod_right, Nat.mod_eq_of_lt (by omega), Nat.mod_eq_sub_mod (by omega : tt + v3 * Gp ≥ Pp), Nat.mod_eq_of_lt (by omega)]
  rw [ee] at h
  exact h
end Go.Proofs.YtpdoonofipcbeaaDoor
