/- The program's and the document's points, told by the group of the curve's points. Which numbers are points, points of an X, the numbers of the chapter. -/
import Derived.Test.YtpdoonofipcbeaaDoorXdFq
import Derived.Test.YtpdoonofipcbeaaDoorXdFr
import Derived.Test.YtpdoonofipcbeaaDoorXdBa
import Derived.Test.YtpdoonofipcbeaaDoorXdQc
import Derived.Test.YtpdoonofipcbeaaDoorXdEq
import Derived.WalkSmall
import Derived.Deep.Cut
import Derived.Deep.Light
import Derived.Test.YtpdoonofipcbeaaDoorXdMF
import Derived.Test.YtpdoonofipcbeaaDoorXdWt
import Derived.Test.YtpdoonofipcbeaaDoorXdOl
import Derived.Test.YtpdoonofipcbeaaDoorXdMB
import Derived.BigQuiet
import Derived.Test.YtpdoonofipcbeaaDoorXdCs
import Derived.Test.YtpdoonofipcbeaaDoorXdMD
import Derived.Test.YtpdoonofipcbeaaDoorXdEp
namespace Go.Proofs.YtpdoonofipcbeaaDoor
open Go.RowKit Go.Sort
set_option linter.unusedVariables false
theorem val_cf' [NeZero Pp] (n : Nat) : (cf n).val = n % Pp := by unfold cf; simp [Fin.ofNat]
theorem pn_ne : Pp ≠ 0 := by decide +kernel
def pX : Pt → Nat
  | none => 0
  | some (x, _) => x.val
def pY : Pt → Nat
  | none => 0
  | some (_, y) => y.val
def pN : Pt → Bool
  | none => true
  | some _ => false
theorem vP_eq (P : Pt) : vP P = A9 (pX P) (pY P) (pN P) := by cases P <;> rfl
theorem pX_lt (P : Pt) : pX P < W := by
  cases P with
  | none => exact Nat.lt_of_le_of_lt (Nat.zero_le _) Pp_lt
  | some p => exact fw p.1
theorem pY_lt (P : Pt) : pY P < W := by
  cases P with
  | none => exact Nat.lt_of_le_of_lt (Nat.zero_le _) Pp_lt
  | some p => exact fw p.2
theorem eqP_any (P Q : Pt) (w : World) : (Op.equalIn 10000 26 (vP P) (vP Q)).run Tryd.prog w = .ok (decide (P = Q)) w := by
  rw [vP_eq P, vP_eq Q, run_eq9 _ _ _ _ _ _ (pX_lt P) (pY_lt P) (pX_lt Q) (pY_lt Q)]
  congr 1
  rw [Bool.eq_iff_iff]
  simp only [Bool.and_eq_true, beq_iff_eq, decide_eq_true_eq]
  constructor
  · rintro ⟨h1, h2, h3⟩
    cases P with
    | none => cases Q with
      | none => rfl
      | some q => cases h3
    | some p => cases Q with
      | none => cases h3
      | some q =>
        have e1 : p.1 = q.1 := Fin.ext h1
        have e2 : p.2 = q.2 := Fin.ext h2
        rw [Prod.ext e1 e2]
  · rintro rfl; exact ⟨rfl, rfl, rfl⟩
section
variable [NeZero Pp]
theorem hinv (z : Fin Pp) : Does 66 #[U z.val] (U (ivF z).val) := by
  have h := inverse_any' z.val (fw z)
  unfold ivF
  rw [val_cf']
  exact h
theorem pnt_any (a : T3p) : Does 47 #[vT a] (vP (nrm ivF a)) := point_any hinv a
/-- Doubles, in three numbers. -/
def dblT (t : T3p) : Nat → T3p
  | 0 => t
  | i + 1 => J3 (dblT t i) (dblT t i)
def accN (e : Nat) (t : T3p) (l : List Nat) : T3p := l.foldl (fun s x => if e.testBit x then J3 s (dblT t x) else s) nou
theorem accN_snoc (e : Nat) (t : T3p) (l : List Nat) (x : Nat) : accN e t (l ++ [x]) = if e.testBit x then J3 (accN e t l) (dblT t x) else accN e t l := by simp [accN]
theorem times_any (e : Nat) (he : e < W) (t : T3p) : Does 48 #[U e, vT t] (vT (accN e t (List.range (bitsN e)))) := by
  have hN : bitsN e ≤ 256 := bitsN_le e 256 (by rw [← W_pow]; exact he)
  have h := fun w => times_raw (fun i => (dblT t i).1.val) (fun i => (dblT t i).2.1.val) (fun i => (dblT t i).2.2.val) (bitsN e) e hN
    (fun l => (accN e t (l.map (·.1))).1.val) (fun l => (accN e t (l.map (·.1))).2.1.val) (fun l => (accN e t (l.map (·.1))).2.2.val) (fun i => e.testBit i)
    nought_any (fun w => bits_any e w) (fun i hi => pbit_any e i (by omega)) (fun i => joined_any (dblT t i) (dblT t i))
    (fun pre x hx => by
      have hx' : e.testBit x.1 = true := hx
      have k := joined_any (accN e t (pre.map (·.1))) (dblT t x.1)
      have e1 : J3 (accN e t (pre.map (·.1))) (dblT t x.1) = accN e t ((pre ++ [x]).map (·.1)) := by
        rw [List.map_append]
        exact ((accN_snoc e t _ x.1).trans (if_pos hx')).symm
      rw [e1] at k
      exact k)
    (fun pre x hx => by
      have hx' : ¬ e.testBit x.1 = true := by rw [hx]; decide
      have e1 : accN e t ((pre ++ [x]).map (·.1)) = accN e t (pre.map (·.1)) := by
        rw [List.map_append]
        exact (accN_snoc e t _ x.1).trans (if_neg hx')
      simp only [e1, and_self]) w
  simp only [allB_map] at h
  exact h
theorem dblT_ok {t : T3p} (h1 : onT t) (h2 : nzT t) : ∀ i, onT (dblT t i) ∧ nzT (dblT t i) ∧ nrm ivF (dblT t i) = mulP (2 ^ i) (nrm ivF t)
  | 0 => ⟨h1, h2, by
    obtain ⟨l, _, _, hp⟩ := of_nrm fc h1 h2
    exact (mulP_one hp).symm⟩
  | i + 1 => by
    obtain ⟨a, b, c⟩ := dblT_ok h1 h2 i
    obtain ⟨x, y, z⟩ := J3_ok a b a b
    obtain ⟨l, _, _, hp⟩ := of_nrm fc h1 h2
    refine ⟨x, y, ?_⟩
    show nrm ivF (J3 (dblT t i) (dblT t i)) = _
    rw [z, c, ← mulP_add hp, Nat.pow_succ, Nat.mul_two]
theorem accN_ok (e : Nat) {t : T3p} (h1 : onT t) (h2 : nzT t) : ∀ k, onT (accN e t (List.range k)) ∧ nzT (accN e t (List.range k)) ∧ nrm ivF (accN e t (List.range k)) = mulP (e % 2 ^ k) (nrm ivF t)
  | 0 => ⟨spr_on (P := none) trivial, spr_nz fc none, by
    rw [Nat.pow_zero, Nat.mod_one]
    exact nrm_spr fc none⟩
  | k + 1 => by
    obtain ⟨a, b, c⟩ := accN_ok e h1 h2 k
    obtain ⟨x, y, z⟩ := dblT_ok h1 h2 k
    obtain ⟨l, _, _, hp⟩ := of_nrm fc h1 h2
    rw [List.range_succ, accN_snoc, mod_succ_bit]
    by_cases hb : e.testBit k = true
    · rw [if_pos hb, if_pos hb]
      obtain ⟨u, v, q⟩ := J3_ok a b x y
      refine ⟨u, v, ?_⟩
      rw [q, c, z, ← mulP_add hp]
    · rw [if_neg hb, if_neg hb]
      exact ⟨a, b, c⟩
/-- The program's sum of doubles of a point, and what point it is. -/
theorem timesP {P : Pt} (hP : onP P) (e : Nat) (he : e < W) : ∃ t, Does 48 #[U e, vT (spr P)] (vT t) ∧ onT t ∧ nzT t ∧ nrm ivF t = mulP e P := by
  obtain ⟨a, b, c⟩ := accN_ok e (spr_on hP) (spr_nz fc P) (bitsN e)
  refine ⟨_, times_any e he (spr P), a, b, ?_⟩
  rw [c, nrm_spr fc, Nat.mod_eq_of_lt (bitsN_lt e he)]
theorem mul_any {P : Pt} (hP : onP P) (e : Nat) (he : e < W) : Does 25 #[U e, vP P] (vP (mulP e P)) := by
  obtain ⟨t, h, _, _, hn⟩ := timesP hP e he
  have h1 := spread_any P
  have h3 := pnt_any t
  rw [hn] at h3
  rw [vP_eq] at h1
  rw [vP_eq] at h3
  rw [vP_eq, vP_eq]
  exact fun w => mul_pt_raw e (pX P) (pY P) (pN P) h1 h h3 w
end
end Go.Proofs.YtpdoonofipcbeaaDoor
namespace Go.Proofs.YtpdoonofipcbeaaDoor
open Go.RowKit Go.Sort
set_option linter.unusedVariables false
theorem cmp_neg (a b : Nat) : decide (cmpN a b < 0) = decide (a < b) := by
  unfold cmpN
  by_cases h1 : a < b
  · simp [h1]
  · by_cases h2 : b < a
    · simp [h1, h2]
    · simp [h1, h2]
theorem cmp_neg_iff (a b : Nat) : cmpN a b < 0 ↔ a < b := by
  have h := cmp_neg a b
  exact decide_eq_decide.1 h
theorem W2 : (2 : Nat) < W := by decide +kernel
theorem W1 : (1 : Nat) < W := by decide +kernel
theorem zero_lt_W : (0 : Nat) < W := by decide +kernel
theorem U_On : (.agg #[.int .u64 13822214165235122497, .int .u64 13451932020343611451, .int .u64 18446744073709551614, .int .u64 18446744073709551615] : Value) = U On := by
  have h0 : l0 On = 13822214165235122497 := by decide +kernel
  have h1 : l1 On = 13451932020343611451 := by decide +kernel
  have h2 : l2 On = 18446744073709551614 := by decide +kernel
  have h3 : l3 On = 18446744073709551615 := by decide +kernel
  unfold U U4
  rw [h0, h1, h2, h3]
  rfl
theorem On_W : On < W := by decide +kernel
theorem order_any : Does 33 #[] (U On) := by rw [← U_On]; exact fun w => order_raw w
theorem rorder_any : Does 20 #[] (U On) := by rw [← U_On]; exact fun w => rorder_raw w
theorem Gx_lt : Gx < Pp := by decide +kernel
theorem Gy_lt : Gy < Pp := by decide +kernel
abbrev GV : Value := .agg #[.int .u64 6481385041966929816, .int .u64 188021827762530521, .int .u64 6170039885052185351, .int .u64 8772561819708210092, .int .u64 11261198710074299576, .int .u64 18237243440184513561, .int .u64 6747795201694173352, .int .u64 5204712524664259685, .bool false]
theorem GV_eq : GV = A9 Gx Gy false := by
  have h0 : l0 Gx = 6481385041966929816 := by decide +kernel
  have h1 : l1 Gx = 188021827762530521 := by decide +kernel
  have h2 : l2 Gx = 6170039885052185351 := by decide +kernel
  have h3 : l3 Gx = 8772561819708210092 := by decide +kernel
  have k0 : l0 Gy = 11261198710074299576 := by decide +kernel
  have k1 : l1 Gy = 18237243440184513561 := by decide +kernel
  have k2 : l2 Gy = 6747795201694173352 := by decide +kernel
  have k3 : l3 Gy = 5204712524664259685 := by decide +kernel
  unfold GV A9 P9
  rw [h0, h1, h2, h3, k0, k1, k2, k3]
  rfl
section
variable [NeZero Pp]
theorem rneg_any (P : Pt) : Does 21 #[vP P] (vP (pneg P)) := by
  cases P with
  | none => exact fun w => rneg_none 0 0 w
  | some p =>
    obtain ⟨x, y⟩ := p
    have h0 := rfs_any (0 : Fin Pp) y
    rw [val_0, show (0 : Fin Pp) - y = - y by grind] at h0
    exact fun w => rneg_some x.val y.val h0 w
theorem rside_any (x : Fin Pp) : Does 37 #[U x.val] (U (x * x * x + 7).val) := by
  have e7 : (7 : Fin Pp).val = 7 := by rw [← cf_seven]; exact val_cf (Nat.lt_trans (by decide) Pp_big)
  have h := rfa_any (x * x * x) 7
  rw [e7] at h
  exact fun w => rside_raw x.val (rfm_any x x) (rfm_any _ x) h w
/-- Whether numbers are a point on the curve. -/
def onF (x y : Fin Pp) : Bool := decide (y * y = x * x * x + 7)
def onB (x y : Nat) (n : Bool) : Bool := if n = true then (decide (x = 0) && decide (y = 0)) else if h : x < Pp then (if k : y < Pp then onF ⟨x, h⟩ ⟨y, k⟩ else false) else false
theorem ron_any (x y : Nat) (n : Bool) (hx : x < W) (hy : y < W) : Does 15 #[A9 x y n] (.bool (onB x y n)) := by
  cases n with
  | true =>
    have e : onB x y true = (decide (x = 0) && decide (y = 0)) := rfl
    rw [e]
    by_cases h : x = 0
    · rw [decide_eq_true h, Bool.true_and]
      exact fun w => ron_nxy x y (fun w => by rw [run_eqU _ _ hx zero_lt_W, decide_eq_true h]) (fun w => run_eqU _ _ hy zero_lt_W w) w
    · rw [decide_eq_false h, Bool.false_and]
      exact fun w => ron_nx x y (fun w => by rw [run_eqU _ _ hx zero_lt_W, decide_eq_false h]) w
  | false =>
    have e : onB x y false = if h : x < Pp then (if k : y < Pp then onF ⟨x, h⟩ ⟨y, k⟩ else false) else false := rfl
    rw [e]
    have cx : Does 23 #[U x, U Pp] (.int .i64 (cmpN x Pp)) := fun w => rcmp_any x Pp hx Pp_lt w
    have cy : Does 23 #[U y, U Pp] (.int .i64 (cmpN y Pp)) := fun w => rcmp_any y Pp hy Pp_lt w
    by_cases h : x < Pp
    · rw [dif_pos h]
      by_cases k : y < Pp
      · rw [dif_pos k]
        exact fun w => ron_xy x y rprime_any cx ((cmp_neg_iff _ _).2 h) cy ((cmp_neg_iff _ _).2 k) (rfm_any ⟨y, k⟩ ⟨y, k⟩) (rside_any ⟨x, h⟩) (fun w => eq_any _ _ w) w
      · rw [dif_neg k]
        exact fun w => ron_y x y rprime_any cx ((cmp_neg_iff _ _).2 h) cy (fun e => k ((cmp_neg_iff _ _).1 e)) w
    · rw [dif_neg h]
      exact fun w => ron_x x y rprime_any cx (fun e => h ((cmp_neg_iff _ _).1 e)) w
theorem onB_of {P : Pt} (hP : onP P) : onB (pX P) (pY P) (pN P) = true := by
  cases P with
  | none => rfl
  | some p =>
    obtain ⟨x, y⟩ := p
    show (if h : x.val < Pp then (if k : y.val < Pp then onF ⟨x.val, h⟩ ⟨y.val, k⟩ else false) else false) = true
    rw [dif_pos x.isLt, dif_pos y.isLt]
    exact decide_eq_true hP
end
end Go.Proofs.YtpdoonofipcbeaaDoor
