/- The program's and the document's points, told by the group of the curve's points. The document's sums of points, told by the group; which numbers are points. Which numbers are points, points of an X, the numbers of the chapter. -/
import Derived.Test.YtpdoonofipcbeaaDoorXsFq
import Derived.Test.YtpdoonofipcbeaaDoorXsFr
import Derived.Test.YtpdoonofipcbeaaDoorXsFe
import Derived.Test.YtpdoonofipcbeaaDoorXsMF
import Derived.Test.YtpdoonofipcbeaaDoorXsBu
import Derived.Test.YtpdoonofipcbeaaDoorXsMD
import Derived.Test.YtpdoonofipcbeaaDoorXsEp
namespace Go.Proofs.YtpdoonofipcbeaaDoor
open Go.RowKit Go.Sort
set_option linter.unusedVariables false
theorem val_cf' [NeZero Pp] (n : Nat) : (cf n).val = n % Pp := by unfold cf; simp [Fin.ofNat]
theorem pn_ne : Pp ≠ 0 := by decide +kernel
def pX : Pt → Nat
  | none => 0
  | some (x, _) => x.val
def pY : Pt → Nat
  | none => 0
  | some (_, y) => y.val
def pN : Pt → Bool
  | none => true
  | some _ => false
theorem vP_eq (P : Pt) : vP P = A9 (pX P) (pY P) (pN P) := by cases P <;> rfl
theorem pX_lt (P : Pt) : pX P < W := by
  cases P with
  | none => exact Nat.lt_of_le_of_lt (Nat.zero_le _) Pp_lt
  | some p => exact fw p.1
theorem pY_lt (P : Pt) : pY P < W := by
  cases P with
  | none => exact Nat.lt_of_le_of_lt (Nat.zero_le _) Pp_lt
  | some p => exact fw p.2
theorem wrap_n (n : Nat) (hn : n ≤ 256) : IntKind.i64.wrap ((n : Int) - 1) = (n : Int) - 1 := by
  unfold IntKind.wrap
  simp [IntKind.bits, IntKind.signed]
  omega
theorem bv_bt (e i : Nat) : (((e / 2 ^ i % 2 : Nat) : Int) == 1) = e.testBit i := by
  rw [Nat.testBit_eq_decide_div_mod_eq, Bool.eq_iff_iff]
  simp only [beq_iff_eq, decide_eq_true_eq]
  omega
theorem div_odd (e i : Nat) (h : e / 2 ^ i % 2 = 1) : e / 2 ^ i = e / 2 ^ (i + 1) + e / 2 ^ (i + 1) + 1 := by rw [Nat.pow_succ, ← Nat.div_div_eq_div_mul]; omega
theorem div_even (e i : Nat) (h : ¬ e / 2 ^ i % 2 = 1) : e / 2 ^ i = e / 2 ^ (i + 1) + e / 2 ^ (i + 1) := by rw [Nat.pow_succ, ← Nat.div_div_eq_div_mul]; omega
theorem sq_mul (q a : Nat) : q % Pp * (q % Pp) % Pp * a % Pp = q * q * a % Pp := by rw [← Nat.mul_mod, Nat.mod_mul_mod]
theorem rpow_any (a e : Nat) (ha : a < W) (he : e < W) : Does 64 #[U a, U e] (U (a ^ e % Pp)) := by
  have hn : e < 2 ^ bitsN e := bitsN_lt e he
  have hN : bitsN e ≤ 256 := bitsN_le e 256 (by rw [← W_pow]; exact he)
  have h := rpower_raw (fun i => e.testBit i) (fun i => e / 2 ^ i % 2) e (bitsN e) hN (wrap_n _ hN) (fun w => rbits_any e w) (fun i hi => fun w => bit_any e i (by omega) w) (bv_bt e) a
    (fun j => a ^ (e / 2 ^ j) % Pp) (fun i => a ^ (e / 2 ^ (i + 1)) % Pp * (a ^ (e / 2 ^ (i + 1)) % Pp) % Pp)
    (by show a ^ (e / 2 ^ bitsN e) % Pp = 1; rw [Nat.div_eq_of_lt hn, Nat.pow_zero, one_mod])
    (fun i hi => rtimes_any _ _ (pw_lt _) (pw_lt _))
    (fun i hi hb => by
      have k := rtimes_any (a ^ (e / 2 ^ (i + 1)) % Pp * (a ^ (e / 2 ^ (i + 1)) % Pp) % Pp) a (pw_lt _) ha
      have hb' : e.testBit i = true := hb
      rw [Nat.testBit_eq_decide_div_mod_eq, decide_eq_true_eq] at hb'
      have e2 : a ^ (e / 2 ^ (i + 1)) % Pp * (a ^ (e / 2 ^ (i + 1)) % Pp) % Pp * a % Pp = a ^ (e / 2 ^ i) % Pp := by
        rw [sq_mul, div_odd e i hb']
        generalize e / 2 ^ (i + 1) = m
        rw [Nat.pow_succ, Nat.pow_add]
      rw [e2] at k
      exact k)
    (fun i hi hb => by
      have hb' : ¬ e.testBit i = true := by rw [hb]; decide
      rw [Nat.testBit_eq_decide_div_mod_eq, decide_eq_true_eq] at hb'
      show a ^ (e / 2 ^ i) % Pp = a ^ (e / 2 ^ (i + 1)) % Pp * (a ^ (e / 2 ^ (i + 1)) % Pp) % Pp
      rw [div_even e i hb']
      generalize e / 2 ^ (i + 1) = m
      rw [Nat.pow_add, Nat.mul_mod])
  simp only [Nat.pow_zero, Nat.div_one] at h
  exact h
section
variable [NeZero Pp]
theorem hinv (z : Fin Pp) : Does 66 #[U z.val] (U (ivF z).val) := by
  have h := inverse_any' z.val (fw z)
  unfold ivF
  rw [val_cf']
  exact h
theorem pnt_any (a : T3p) : Does 47 #[vT a] (vP (nrm ivF a)) := point_any hinv a
/-- Doubles, in three numbers. -/
def dblT (t : T3p) : Nat → T3p
  | 0 => t
  | i + 1 => J3 (dblT t i) (dblT t i)
def accN (e : Nat) (t : T3p) (l : List Nat) : T3p := l.foldl (fun s x => if e.testBit x then J3 s (dblT t x) else s) nou
theorem accN_snoc (e : Nat) (t : T3p) (l : List Nat) (x : Nat) : accN e t (l ++ [x]) = if e.testBit x then J3 (accN e t l) (dblT t x) else accN e t l := by simp [accN]
theorem times_any (e : Nat) (he : e < W) (t : T3p) : Does 48 #[U e, vT t] (vT (accN e t (List.range (bitsN e)))) := by
  have hN : bitsN e ≤ 256 := bitsN_le e 256 (by rw [← W_pow]; exact he)
  have h := fun w => times_raw (fun i => (dblT t i).1.val) (fun i => (dblT t i).2.1.val) (fun i => (dblT t i).2.2.val) (bitsN e) e hN
    (fun l => (accN e t (l.map (·.1))).1.val) (fun l => (accN e t (l.map (·.1))).2.1.val) (fun l => (accN e t (l.map (·.1))).2.2.val) (fun i => e.testBit i)
    nought_any (fun w => bits_any e w) (fun i hi => pbit_any e i (by omega)) (fun i => joined_any (dblT t i) (dblT t i))
    (fun pre x hx => by
      have hx' : e.testBit x.1 = true := hx
      have k := joined_any (accN e t (pre.map (·.1))) (dblT t x.1)
      have e1 : J3 (accN e t (pre.map (·.1))) (dblT t x.1) = accN e t ((pre ++ [x]).map (·.1)) := by
        rw [List.map_append]
        exact ((accN_snoc e t _ x.1).trans (if_pos hx')).symm
      rw [e1] at k
      exact k)
    (fun pre x hx => by
      have hx' : ¬ e.testBit x.1 = true := by rw [hx]; decide
      have e1 : accN e t ((pre ++ [x]).map (·.1)) = accN e t (pre.map (·.1)) := by
        rw [List.map_append]
        exact (accN_snoc e t _ x.1).trans (if_neg hx')
      simp only [e1, and_self]) w
  simp only [allB_map] at h
  exact h
theorem dblT_ok {t : T3p} (h1 : onT t) (h2 : nzT t) : ∀ i, onT (dblT t i) ∧ nzT (dblT t i) ∧ nrm ivF (dblT t i) = mulP (2 ^ i) (nrm ivF t)
  | 0 => ⟨h1, h2, by
    obtain ⟨l, _, _, hp⟩ := of_nrm fc h1 h2
    exact (mulP_one hp).symm⟩
  | i + 1 => by
    obtain ⟨a, b, c⟩ := dblT_ok h1 h2 i
    obtain ⟨x, y, z⟩ := J3_ok a b a b
    obtain ⟨l, _, _, hp⟩ := of_nrm fc h1 h2
    refine ⟨x, y, ?_⟩
    show nrm ivF (J3 (dblT t i) (dblT t i)) = _
    rw [z, c, ← mulP_add hp, Nat.pow_succ, Nat.mul_two]
theorem accN_ok (e : Nat) {t : T3p} (h1 : onT t) (h2 : nzT t) : ∀ k, onT (accN e t (List.range k)) ∧ nzT (accN e t (List.range k)) ∧ nrm ivF (accN e t (List.range k)) = mulP (e % 2 ^ k) (nrm ivF t)
  | 0 => ⟨spr_on (P := none) trivial, spr_nz fc none, by
    rw [Nat.pow_zero, Nat.mod_one]
    exact nrm_spr fc none⟩
  | k + 1 => by
    obtain ⟨a, b, c⟩ := accN_ok e h1 h2 k
    obtain ⟨x, y, z⟩ := dblT_ok h1 h2 k
    obtain ⟨l, _, _, hp⟩ := of_nrm fc h1 h2
    rw [List.range_succ, accN_snoc, mod_succ_bit]
    by_cases hb : e.testBit k = true
    · rw [if_pos hb, if_pos hb]
      obtain ⟨u, v, q⟩ := J3_ok a b x y
      refine ⟨u, v, ?_⟩
      rw [q, c, z, ← mulP_add hp]
    · rw [if_neg hb, if_neg hb]
      exact ⟨a, b, c⟩
/-- The program's sum of doubles of a point, and what point it is. -/
theorem timesP {P : Pt} (hP : onP P) (e : Nat) (he : e < W) : ∃ t, Does 48 #[U e, vT (spr P)] (vT t) ∧ onT t ∧ nzT t ∧ nrm ivF t = mulP e P := by
  obtain ⟨a, b, c⟩ := accN_ok e (spr_on hP) (spr_nz fc P) (bitsN e)
  refine ⟨_, times_any e he (spr P), a, b, ?_⟩
  rw [c, nrm_spr fc, Nat.mod_eq_of_lt (bitsN_lt e he)]
theorem mul_any {P : Pt} (hP : onP P) (e : Nat) (he : e < W) : Does 25 #[U e, vP P] (vP (mulP e P)) := by
  obtain ⟨t, h, _, _, hn⟩ := timesP hP e he
  have h1 := spread_any P
  have h3 := pnt_any t
  rw [hn] at h3
  rw [vP_eq] at h1
  rw [vP_eq] at h3
  rw [vP_eq, vP_eq]
  exact fun w => mul_pt_raw e (pX P) (pY P) (pN P) h1 h h3 w
end
end Go.Proofs.YtpdoonofipcbeaaDoor
namespace Go.Proofs.YtpdoonofipcbeaaDoor
open Go.RowKit Go.Sort
set_option linter.unusedVariables false
section
variable [NeZero Pp]
theorem eqz (z : Fin Pp) (w : World) : (Op.equalIn 10000 24 (U z.val) (U 0)).run Tryd.prog w = .ok (decide (z = 0)) w := by
  have he := eq_any z 0 w
  rw [val_0] at he
  exact he
theorem vT_0 : vT ((0, 0, 0) : T3p) = A3 0 0 0 := by show A3 (0 : Fin Pp).val (0 : Fin Pp).val (0 : Fin Pp).val = _; rw [val_0]
theorem double_any (a : T3p) : Does 51 #[vT a] (vT (dblJ a)) := by
  obtain ⟨x, y, z⟩ := a
  by_cases hz : z = 0
  · have e : dblJ (x, y, z) = (0, 0, 0) := by unfold dblJ; simp only []; rw [if_pos hz]
    rw [e, vT_0]
    exact fun w => double_z _ _ _ (fun w => by rw [eqz, decide_eq_true hz]) w
  · by_cases hy : y = 0
    · have e : dblJ (x, y, z) = (0, 0, 0) := by unfold dblJ; simp only []; rw [if_neg hz, if_pos hy]
      rw [e, vT_0]
      exact fun w => double_y _ _ _ (fun w => by rw [eqz, decide_eq_false hz]) (fun w => by rw [eqz, decide_eq_true hy]) w
    · have e : dblJ (x, y, z) = (dX x y, dY x y, y * z + y * z) := by unfold dblJ; simp only []; rw [if_neg hz, if_neg hy]
      rw [e]
      exact fun w => double_raw _ _ _ (fun w => by rw [eqz, decide_eq_false hz]) (fun w => by rw [eqz, decide_eq_false hy]) (rfm_any x x) (rfm_any y y) (rfm_any _ _) (rfm_any x _) (rfa_any _ _) (rfa_any _ _) (rfa_any _ _) (rfa_any _ _) (rfm_any _ _) (rfa_any _ _) (rfs_any _ _)
        (rfa_any _ _) (rfa_any _ _) (rfa_any _ _) (rfs_any _ _) (rfm_any _ _) (rfs_any _ _) (rfm_any y z) (rfa_any _ _) w
theorem join_any (a : T3p) (Q : Pt) : Does 46 #[vT a, vP Q] (vT (joinJ a Q)) := by
  obtain ⟨x, y, z⟩ := a
  cases Q with
  | none => exact fun w => join_none x.val y.val z.val 0 0 w
  | some q =>
    obtain ⟨u, v⟩ := q
    have h := fun w => join_raw x.val y.val z.val u.val v.val (eqz z) (fun _ => rfm_any z z) (fun _ => rfm_any u _) (fun _ => rfm_any _ z) (fun _ => rfm_any v _) (fun _ => rfs_any _ x) (fun _ => rfs_any _ y) (fun _ => eqz _) (fun _ _ => eqz _) (fun _ _ _ => double_any (x, y, z))
      (fun _ _ => rfm_any _ _) (fun _ _ => rfm_any _ _) (fun _ _ => rfm_any x _) (fun _ _ => rfm_any _ _) (fun _ _ => rfs_any _ _) (fun _ _ => rfa_any _ _) (fun _ _ => rfs_any _ _) (fun _ _ => rfs_any _ _) (fun _ _ => rfm_any _ _) (fun _ _ => rfm_any y _) (fun _ _ => rfs_any _ _) (fun _ _ => rfm_any z _) w
    have e : vT (joinJ (x, y, z) (some (u, v))) = (cond (decide (z = 0)) (A3 u.val v.val 1) (cond (decide (jH x z u = 0)) (cond (decide (jR y z v = 0)) (vT (dblJ (x, y, z))) (A3 0 0 0)) (A3 (jX x (jH x z u) (jR y z v)).val (jY x y (jH x z u) (jR y z v)).val (z * jH x z u).val))) := by
      unfold joinJ
      simp only []
      by_cases hz : z = 0
      · rw [if_pos hz, decide_eq_true hz]; show A3 u.val v.val (1 : Fin Pp).val = A3 u.val v.val 1; rw [val_1]
      · rw [if_neg hz, decide_eq_false hz]
        by_cases hH : jH x z u = 0
        · rw [if_pos hH, decide_eq_true hH]
          by_cases hR : jR y z v = 0
          · rw [if_pos hR, decide_eq_true hR]; rfl
          · rw [if_neg hR, decide_eq_false hR]; exact vT_0
        · rw [if_neg hH, decide_eq_false hH]; rfl
    rw [e]
    exact h
theorem flat_any (a : T3p) : Does 45 #[vT a] (vP (flatJ a)) := by
  obtain ⟨x, y, z⟩ := a
  have hp : Does 64 #[U z.val, U (Pp - 2)] (U (ivF z).val) := by
    have k := rpow_any z.val (Pp - 2) (fw z) (Nat.lt_of_le_of_lt (Nat.sub_le _ _) Pp_lt)
    unfold ivF
    rw [val_cf']
    exact k
  have hs : Does 19 #[U Pp, U 2] (.tuple #[U (Pp - 2), .bool (unW Pp 2)]) := by
    have k : Does 19 #[U Pp, U 2] (.tuple #[U (subW Pp 2), .bool (unW Pp 2)]) := fun w => rsub_any Pp 2 Pp_lt (by decide +kernel) w
    rw [sub2] at k
    exact k
  have h := fun w => flat_raw x.val y.val z.val (eqz z) (fun _ => rprime_any) (fun _ => hs) (fun _ => hp) (fun _ => rfm_any (ivF z) (ivF z)) (fun _ => rfm_any x _) (fun _ => rfm_any _ (ivF z)) (fun _ => rfm_any y _) w
  have e : vP (flatJ (x, y, z)) = (cond (decide (z = 0)) (A9 0 0 true) (A9 (x * (ivF z * ivF z)).val (y * (ivF z * ivF z * ivF z)).val false)) := by
    unfold flatJ
    simp only []
    by_cases hz : z = 0
    · rw [if_pos hz, decide_eq_true hz]; rfl
    · rw [if_neg hz, decide_eq_false hz]; rfl
  rw [e]
  exact h
theorem flat_0 : flatJ ((0, 0, 0) : T3p) = none := flat_none rfl
theorem raddP_any {P Q : Pt} (hP : onP P) (hQ : onP Q) : Does 24 #[vP P, vP Q] (vP (padd ivF P Q)) := by
  have h1 := join_any (0, 0, 0) P
  have h2 := join_any (joinJ (0, 0, 0) P) Q
  have h3 := flat_any (joinJ (joinJ (0, 0, 0) P) Q)
  have o1 : flatJ (joinJ (0, 0, 0) P) = P := by rw [join_ok (by rw [flat_0]; trivial) hP, flat_0, padd_none fc hP]
  rw [join_ok (by rw [o1]; exact hP) hQ, o1, vP_eq] at h3
  rw [vT_0, vP_eq] at h1
  rw [vP_eq] at h2
  rw [vP_eq, vP_eq, vP_eq]
  exact fun w => radd_pt_raw _ _ _ _ _ _ h1 h2 h3 w
end
end Go.Proofs.YtpdoonofipcbeaaDoor
namespace Go.Proofs.YtpdoonofipcbeaaDoor
open Go.RowKit Go.Sort
set_option linter.unusedVariables false
theorem cmp_neg (a b : Nat) : decide (cmpN a b < 0) = decide (a < b) := by
  unfold cmpN
  by_cases h1 : a < b
  · simp [h1]
  · by_cases h2 : b < a
    · simp [h1, h2]
    · simp [h1, h2]
theorem cmp_neg_iff (a b : Nat) : cmpN a b < 0 ↔ a < b := by
  have h := cmp_neg a b
  exact decide_eq_decide.1 h
theorem W2 : (2 : Nat) < W := by decide +kernel
theorem W1 : (1 : Nat) < W := by decide +kernel
theorem U_On : (.agg #[.int .u64 13822214165235122497, .int .u64 13451932020343611451, .int .u64 18446744073709551614, .int .u64 18446744073709551615] : Value) = U On := by
  have h0 : l0 On = 13822214165235122497 := by decide +kernel
  have h1 : l1 On = 13451932020343611451 := by decide +kernel
  have h2 : l2 On = 18446744073709551614 := by decide +kernel
  have h3 : l3 On = 18446744073709551615 := by decide +kernel
  unfold U U4
  rw [h0, h1, h2, h3]
  rfl
theorem On_W : On < W := by decide +kernel
theorem order_any : Does 33 #[] (U On) := by rw [← U_On]; exact fun w => order_raw w
theorem rorder_any : Does 20 #[] (U On) := by rw [← U_On]; exact fun w => rorder_raw w
theorem Gx_lt : Gx < Pp := by decide +kernel
theorem Gy_lt : Gy < Pp := by decide +kernel
abbrev GV : Value := .agg #[.int .u64 6481385041966929816, .int .u64 188021827762530521, .int .u64 6170039885052185351, .int .u64 8772561819708210092, .int .u64 11261198710074299576, .int .u64 18237243440184513561, .int .u64 6747795201694173352, .int .u64 5204712524664259685, .bool false]
theorem GV_eq : GV = A9 Gx Gy false := by
  have h0 : l0 Gx = 6481385041966929816 := by decide +kernel
  have h1 : l1 Gx = 188021827762530521 := by decide +kernel
  have h2 : l2 Gx = 6170039885052185351 := by decide +kernel
  have h3 : l3 Gx = 8772561819708210092 := by decide +kernel
  have k0 : l0 Gy = 11261198710074299576 := by decide +kernel
  have k1 : l1 Gy = 18237243440184513561 := by decide +kernel
  have k2 : l2 Gy = 6747795201694173352 := by decide +kernel
  have k3 : l3 Gy = 5204712524664259685 := by decide +kernel
  unfold GV A9 P9
  rw [h0, h1, h2, h3, k0, k1, k2, k3]
  rfl
section
variable [NeZero Pp]
end
end Go.Proofs.YtpdoonofipcbeaaDoor
