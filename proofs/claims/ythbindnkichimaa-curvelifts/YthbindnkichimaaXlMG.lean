/- The program's and the document's points, told by the group of the curve's points. The document's sums of points, told by the group; which numbers are points. Which numbers are points, points of an X, the numbers of the chapter. Contracts of both bases and of awake. -/
import Derived.Test.YthbindnkichimaaXlFq
import Derived.Test.YthbindnkichimaaXlFr
import Derived.Test.YthbindnkichimaaXlMC
import Derived.WalkSmall
import Derived.Deep.Light
import Derived.Test.YthbindnkichimaaXlQc
import Derived.Test.YthbindnkichimaaXlEq
import Derived.Deep.Cut
import Derived.Test.YthbindnkichimaaXlBa
import Derived.Test.YthbindnkichimaaXlMF
import Derived.Test.YthbindnkichimaaXlWt
import Derived.Test.YthbindnkichimaaXlOl
import Derived.Test.YthbindnkichimaaXlMB
import Derived.BigQuiet
import Derived.Test.YthbindnkichimaaXlCs
import Derived.Test.YthbindnkichimaaXlMD
import Derived.Test.YthbindnkichimaaXlEp
import Derived.Test.YthbindnkichimaaXlGa
namespace Go.Proofs.Ythbindnkichimaa
open Go.RowKit Go.Sort
set_option linter.unusedVariables false
theorem val_cf' [NeZero Pp] (n : Nat) : (cf n).val = n % Pp := by unfold cf; simp [Fin.ofNat]
theorem pn_ne : Pp ≠ 0 := by decide +kernel
def pX : Pt → Nat
  | none => 0
  | some (x, _) => x.val
def pY : Pt → Nat
  | none => 0
  | some (_, y) => y.val
def pN : Pt → Bool
  | none => true
  | some _ => false
theorem vP_eq (P : Pt) : vP P = A9 (pX P) (pY P) (pN P) := by cases P <;> rfl
theorem pX_lt (P : Pt) : pX P < W := by
  cases P with
  | none => exact Nat.lt_of_le_of_lt (Nat.zero_le _) Pp_lt
  | some p => exact fw p.1
theorem pY_lt (P : Pt) : pY P < W := by
  cases P with
  | none => exact Nat.lt_of_le_of_lt (Nat.zero_le _) Pp_lt
  | some p => exact fw p.2
section
variable [NeZero Pp]
theorem hinv (z : Fin Pp) : Does 64 #[U z.val] (U (ivF z).val) := by
  have h := inverse_any' z.val (fw z)
  unfold ivF
  rw [val_cf']
  exact h
theorem pnt_any (a : T3p) : Does 41 #[vT a] (vP (nrm ivF a)) := point_any hinv a
theorem addP_any (P Q : Pt) : Does 21 #[vP P, vP Q] (vP (padd ivF P Q)) := add_any_pt hinv P Q
/-- Doubles, in three numbers. -/
def dblT (t : T3p) : Nat → T3p
  | 0 => t
  | i + 1 => J3 (dblT t i) (dblT t i)
def accN (e : Nat) (t : T3p) (l : List Nat) : T3p := l.foldl (fun s x => if e.testBit x then J3 s (dblT t x) else s) nou
theorem accN_snoc (e : Nat) (t : T3p) (l : List Nat) (x : Nat) : accN e t (l ++ [x]) = if e.testBit x then J3 (accN e t l) (dblT t x) else accN e t l := by simp [accN]
theorem times_any (e : Nat) (he : e < W) (t : T3p) : Does 46 #[U e, vT t] (vT (accN e t (List.range (bitsN e)))) := by
  have hN : bitsN e ≤ 256 := bitsN_le e 256 (by rw [← W_pow]; exact he)
  have h := fun w => times_raw (fun i => (dblT t i).1.val) (fun i => (dblT t i).2.1.val) (fun i => (dblT t i).2.2.val) (bitsN e) e hN
    (fun l => (accN e t (l.map (·.1))).1.val) (fun l => (accN e t (l.map (·.1))).2.1.val) (fun l => (accN e t (l.map (·.1))).2.2.val) (fun i => e.testBit i)
    nought_any (fun w => bits_any e w) (fun i hi => pbit_any e i (by omega)) (fun i => joined_any (dblT t i) (dblT t i))
    (fun pre x hx => by
      have hx' : e.testBit x.1 = true := hx
      have k := joined_any (accN e t (pre.map (·.1))) (dblT t x.1)
      have e1 : J3 (accN e t (pre.map (·.1))) (dblT t x.1) = accN e t ((pre ++ [x]).map (·.1)) := by
        rw [List.map_append]
        exact ((accN_snoc e t _ x.1).trans (if_pos hx')).symm
      rw [e1] at k
      exact k)
    (fun pre x hx => by
      have hx' : ¬ e.testBit x.1 = true := by rw [hx]; decide
      have e1 : accN e t ((pre ++ [x]).map (·.1)) = accN e t (pre.map (·.1)) := by
        rw [List.map_append]
        exact (accN_snoc e t _ x.1).trans (if_neg hx')
      simp only [e1, and_self]) w
  simp only [allB_map] at h
  exact h
theorem dblT_ok {t : T3p} (h1 : onT t) (h2 : nzT t) : ∀ i, onT (dblT t i) ∧ nzT (dblT t i) ∧ nrm ivF (dblT t i) = mulP (2 ^ i) (nrm ivF t)
  | 0 => ⟨h1, h2, by
    obtain ⟨l, _, _, hp⟩ := of_nrm fc h1 h2
    exact (mulP_one hp).symm⟩
  | i + 1 => by
    obtain ⟨a, b, c⟩ := dblT_ok h1 h2 i
    obtain ⟨x, y, z⟩ := J3_ok a b a b
    obtain ⟨l, _, _, hp⟩ := of_nrm fc h1 h2
    refine ⟨x, y, ?_⟩
    show nrm ivF (J3 (dblT t i) (dblT t i)) = _
    rw [z, c, ← mulP_add hp, Nat.pow_succ, Nat.mul_two]
theorem accN_ok (e : Nat) {t : T3p} (h1 : onT t) (h2 : nzT t) : ∀ k, onT (accN e t (List.range k)) ∧ nzT (accN e t (List.range k)) ∧ nrm ivF (accN e t (List.range k)) = mulP (e % 2 ^ k) (nrm ivF t)
  | 0 => ⟨spr_on (P := none) trivial, spr_nz fc none, by
    rw [Nat.pow_zero, Nat.mod_one]
    exact nrm_spr fc none⟩
  | k + 1 => by
    obtain ⟨a, b, c⟩ := accN_ok e h1 h2 k
    obtain ⟨x, y, z⟩ := dblT_ok h1 h2 k
    obtain ⟨l, _, _, hp⟩ := of_nrm fc h1 h2
    rw [List.range_succ, accN_snoc, mod_succ_bit]
    by_cases hb : e.testBit k = true
    · rw [if_pos hb, if_pos hb]
      obtain ⟨u, v, q⟩ := J3_ok a b x y
      refine ⟨u, v, ?_⟩
      rw [q, c, z, ← mulP_add hp]
    · rw [if_neg hb, if_neg hb]
      exact ⟨a, b, c⟩
/-- The program's sum of doubles of a point, and what point it is. -/
theorem timesP {P : Pt} (hP : onP P) (e : Nat) (he : e < W) : ∃ t, Does 46 #[U e, vT (spr P)] (vT t) ∧ onT t ∧ nzT t ∧ nrm ivF t = mulP e P := by
  obtain ⟨a, b, c⟩ := accN_ok e (spr_on hP) (spr_nz fc P) (bitsN e)
  refine ⟨_, times_any e he (spr P), a, b, ?_⟩
  rw [c, nrm_spr fc, Nat.mod_eq_of_lt (bitsN_lt e he)]
theorem mul_any {P : Pt} (hP : onP P) (e : Nat) (he : e < W) : Does 23 #[U e, vP P] (vP (mulP e P)) := by
  obtain ⟨t, h, _, _, hn⟩ := timesP hP e he
  have h1 := spread_any P
  have h3 := pnt_any t
  rw [hn] at h3
  rw [vP_eq] at h1
  rw [vP_eq] at h3
  rw [vP_eq, vP_eq]
  exact fun w => mul_pt_raw e (pX P) (pY P) (pN P) h1 h h3 w
end
end Go.Proofs.Ythbindnkichimaa
namespace Go.Proofs.Ythbindnkichimaa
open Go.RowKit Go.Sort
set_option linter.unusedVariables false
section
variable [NeZero Pp]
theorem eqz (z : Fin Pp) (w : World) : (Op.equalIn 10000 24 (U z.val) (U 0)).run Try.prog w = .ok (decide (z = 0)) w := by
  have he := eq_any z 0 w
  rw [val_0] at he
  exact he
end
end Go.Proofs.Ythbindnkichimaa
namespace Go.Proofs.Ythbindnkichimaa
open Go.RowKit Go.Sort
set_option linter.unusedVariables false
theorem cmp_neg (a b : Nat) : decide (cmpN a b < 0) = decide (a < b) := by
  unfold cmpN
  by_cases h1 : a < b
  · simp [h1]
  · by_cases h2 : b < a
    · simp [h1, h2]
    · simp [h1, h2]
theorem cmp_neg_iff (a b : Nat) : cmpN a b < 0 ↔ a < b := by
  have h := cmp_neg a b
  exact decide_eq_decide.1 h
theorem W2 : (2 : Nat) < W := by decide +kernel
theorem W1 : (1 : Nat) < W := by decide +kernel
theorem add1 : addW Pp 1 = Pp + 1 := by decide +kernel
theorem Pp1_lt : Pp + 1 < W := by decide +kernel
def Kr : Nat := (Pp + 1) / 4
theorem Kr_eq : shrW (Pp + 1) 2 = Kr := by decide +kernel
theorem Kr4 : Kr + Kr + (Kr + Kr) = (Pp - 1) + 2 := by decide +kernel
theorem Kr_lt : Kr < W := by decide +kernel
theorem zero_lt_W : (0 : Nat) < W := by decide +kernel
theorem below_any (x : Nat) (hx : x < W) : Does 27 #[U x] (.bool (decide (x < Pp))) := by
  have h := fun w => below_raw x prime_any (fun w => cmp_any x Pp hx Pp_lt w) w
  rw [cmp_neg] at h
  exact h
theorem l0_odd (x : Nat) : l0 x % 2 = x % 2 := by
  unfold l0
  exact Nat.mod_mod_of_dvd x ⟨M / 2, by decide +kernel⟩
theorem odd_bits (x : Nat) : bits .and .u64 ((l0 x : Nat) : Int) (1 : Int) = ((x % 2 : Nat) : Int) := by
  rw [show (1 : Int) = ((1 : Nat) : Int) from rfl, bits_and _ 1 (l0_lt x) (by decide), Nat.and_one_is_mod, l0_odd]
theorem odd_eq (x : Nat) : (((x % 2 : Nat) : Int) == 1) = decide (x % 2 = 1) := by
  rw [Bool.eq_iff_iff]; simp only [beq_iff_eq, decide_eq_true_eq]; omega
theorem isOdd_any (x : Nat) : Does 30 #[U x] (.bool (decide (x % 2 = 1))) := fun w => isOdd_raw x (odd_bits x) (odd_eq x) w
theorem Gx_lt : Gx < Pp := by decide +kernel
theorem Gy_lt : Gy < Pp := by decide +kernel
theorem Hx_lt : Hx < Pp := by decide +kernel
theorem Hy_lt : Hy < Pp := by decide +kernel
abbrev GV : Value := .agg #[.int .u64 6481385041966929816, .int .u64 188021827762530521, .int .u64 6170039885052185351, .int .u64 8772561819708210092, .int .u64 11261198710074299576, .int .u64 18237243440184513561, .int .u64 6747795201694173352, .int .u64 5204712524664259685, .bool false]
theorem GV_eq : GV = A9 Gx Gy false := by
  have h0 : l0 Gx = 6481385041966929816 := by decide +kernel
  have h1 : l1 Gx = 188021827762530521 := by decide +kernel
  have h2 : l2 Gx = 6170039885052185351 := by decide +kernel
  have h3 : l3 Gx = 8772561819708210092 := by decide +kernel
  have k0 : l0 Gy = 11261198710074299576 := by decide +kernel
  have k1 : l1 Gy = 18237243440184513561 := by decide +kernel
  have k2 : l2 Gy = 6747795201694173352 := by decide +kernel
  have k3 : l3 Gy = 5204712524664259685 := by decide +kernel
  unfold GV A9 P9
  rw [h0, h1, h2, h3, k0, k1, k2, k3]
  rfl
theorem add_1 : Does 51 #[U Pp, U 1] (.tuple #[U (Pp + 1), .bool (ovW Pp 1)]) := by
  have h : Does 51 #[U Pp, U 1] (.tuple #[U (addW Pp 1), .bool (ovW Pp 1)]) := fun w => Go.Proofs.Ythbindnkichimaa.add_any Pp 1 Pp_lt W1 w
  rw [add1] at h
  exact h
theorem shr_2 : Does 54 #[U (Pp + 1), .int .u64 2] (U Kr) := by
  have h : Does 54 #[U (Pp + 1), B 2] (U (shrW (Pp + 1) 2)) := fun w => shr_any (Pp + 1) 2 Pp1_lt w
  rw [Kr_eq] at h
  exact h
theorem of_1 : Does 52 #[.int .u64 1] (U 1) := fun w => of_any 1 (by decide) w
section
variable [NeZero Pp]
theorem rside_any (x : Fin Pp) : Does 35 #[U x.val] (U (x * x * x + 7).val) := by
  have e7 : (7 : Fin Pp).val = 7 := by rw [← cf_seven]; exact val_cf (Nat.lt_trans (by decide) Pp_big)
  have h := rfa_any (x * x * x) 7
  rw [e7] at h
  exact fun w => rside_raw x.val (rfm_any x x) (rfm_any _ x) h w
/-- Whether numbers are a point on the curve. -/
def onF (x y : Fin Pp) : Bool := decide (y * y = x * x * x + 7)
def onB (x y : Nat) (n : Bool) : Bool := if n = true then (decide (x = 0) && decide (y = 0)) else if h : x < Pp then (if k : y < Pp then onF ⟨x, h⟩ ⟨y, k⟩ else false) else false
theorem ron_any (x y : Nat) (n : Bool) (hx : x < W) (hy : y < W) : Does 11 #[A9 x y n] (.bool (onB x y n)) := by
  cases n with
  | true =>
    have e : onB x y true = (decide (x = 0) && decide (y = 0)) := rfl
    rw [e]
    by_cases h : x = 0
    · rw [decide_eq_true h, Bool.true_and]
      exact fun w => ron_nxy x y (fun w => by rw [run_eqU _ _ hx zero_lt_W, decide_eq_true h]) (fun w => run_eqU _ _ hy zero_lt_W w) w
    · rw [decide_eq_false h, Bool.false_and]
      exact fun w => ron_nx x y (fun w => by rw [run_eqU _ _ hx zero_lt_W, decide_eq_false h]) w
  | false =>
    have e : onB x y false = if h : x < Pp then (if k : y < Pp then onF ⟨x, h⟩ ⟨y, k⟩ else false) else false := rfl
    rw [e]
    have cx : Does 32 #[U x, U Pp] (.int .i64 (cmpN x Pp)) := fun w => rcmp_any x Pp hx Pp_lt w
    have cy : Does 32 #[U y, U Pp] (.int .i64 (cmpN y Pp)) := fun w => rcmp_any y Pp hy Pp_lt w
    by_cases h : x < Pp
    · rw [dif_pos h]
      by_cases k : y < Pp
      · rw [dif_pos k]
        exact fun w => ron_xy x y rprime_any cx ((cmp_neg_iff _ _).2 h) cy ((cmp_neg_iff _ _).2 k) (rfm_any ⟨y, k⟩ ⟨y, k⟩) (rside_any ⟨x, h⟩) (fun w => eq_any _ _ w) w
      · rw [dif_neg k]
        exact fun w => ron_y x y rprime_any cx ((cmp_neg_iff _ _).2 h) cy (fun e => k ((cmp_neg_iff _ _).1 e)) w
    · rw [dif_neg h]
      exact fun w => ron_x x y rprime_any cx (fun e => h ((cmp_neg_iff _ _).1 e)) w
/-- Numbers that are a point on the curve are one. -/
theorem onB_pt {x y : Nat} {n : Bool} (h : onB x y n = true) : ∃ P, onP P ∧ A9 x y n = vP P ∧ pX P = x ∧ pY P = y ∧ pN P = n := by
  cases n with
  | true =>
    have e : (decide (x = 0) && decide (y = 0)) = true := h
    simp only [Bool.and_eq_true, decide_eq_true_eq] at e
    obtain ⟨rfl, rfl⟩ := e
    exact ⟨none, trivial, rfl, rfl, rfl, rfl⟩
  | false =>
    have e : (if h : x < Pp then (if k : y < Pp then onF ⟨x, h⟩ ⟨y, k⟩ else false) else false) = true := h
    by_cases hx : x < Pp
    · rw [dif_pos hx] at e
      by_cases hy : y < Pp
      · rw [dif_pos hy] at e
        refine ⟨some (⟨x, hx⟩, ⟨y, hy⟩), ?_, rfl, rfl, rfl, rfl⟩
        unfold onF at e
        exact (of_decide_eq_true e : (⟨y, hy⟩ : Fin Pp) * ⟨y, hy⟩ = (⟨x, hx⟩ : Fin Pp) * ⟨x, hx⟩ * ⟨x, hx⟩ + 7)
      · rw [dif_neg hy] at e; cases e
    · rw [dif_neg hx] at e; cases e
theorem onB_of {P : Pt} (hP : onP P) : onB (pX P) (pY P) (pN P) = true := by
  cases P with
  | none => rfl
  | some p =>
    obtain ⟨x, y⟩ := p
    show (if h : x.val < Pp then (if k : y.val < Pp then onF ⟨x.val, h⟩ ⟨y.val, k⟩ else false) else false) = true
    rw [dif_pos x.isLt, dif_pos y.isLt]
    exact decide_eq_true hP
/-- A root, if there is one. -/
def rootF (s : Fin Pp) : Fin Pp := cf (s.val ^ Kr)
theorem power_root (s : Fin Pp) : Does 53 #[U s.val, U Kr] (U (rootF s).val) := by
  have h := power_any s.val Kr (fw s) Kr_lt
  unfold rootF
  rw [val_cf']
  exact h
theorem root_any (s : Fin Pp) : Does 28 #[U s.val] (.tuple #[U (if rootF s * rootF s = s then (rootF s).val else 0), .bool (decide (rootF s * rootF s = s))]) := by
  by_cases h : rootF s * rootF s = s
  · rw [if_pos h, decide_eq_true h]
    exact fun w => root_yes s.val prime_any of_1 add_1 shr_2 (power_root s) (fm_any _ _) (fun w => by rw [eq_any, decide_eq_true h]) w
  · rw [if_neg h, decide_eq_false h]
    exact fun w => root_no s.val prime_any of_1 add_1 shr_2 (power_root s) (fm_any _ _) (fun w => by rw [eq_any, decide_eq_false h]) w
/-- The Y of an X, odd or even. -/
def liftF (x : Fin Pp) (odd : Bool) : Fin Pp := if decide ((rootF (x * x * x + 7)).val % 2 = 1) = odd then rootF (x * x * x + 7) else - rootF (x * x * x + 7)
def isR (x : Nat) : Bool := if h : x < Pp then decide (rootF ((⟨x, h⟩ : Fin Pp) * ⟨x, h⟩ * ⟨x, h⟩ + 7) * rootF ((⟨x, h⟩ : Fin Pp) * ⟨x, h⟩ * ⟨x, h⟩ + 7) = (⟨x, h⟩ : Fin Pp) * ⟨x, h⟩ * ⟨x, h⟩ + 7) else false
def liftX (x : Nat) : Nat := if isR x = true then x else 0
def liftY (x : Nat) (odd : Bool) : Nat := if isR x = true then (if h : x < Pp then (liftF ⟨x, h⟩ odd).val else 0) else 0
theorem neg0 (y : Fin Pp) : Does 31 #[U 0, U y.val] (U (- y).val) := by
  have h0 := fs_any (0 : Fin Pp) y
  rw [val_0, show (0 : Fin Pp) - y = - y by grind] at h0
  exact h0
theorem lift_any (x : Nat) (odd : Bool) (hx : x < W) : Does 8 #[U x, .bool odd] (.tuple #[A9 (liftX x) (liftY x odd) false, .bool (isR x)]) := by
  have bx := below_any x hx
  by_cases h : x < Pp
  · rw [decide_eq_true h] at bx
    have hr := root_any ((⟨x, h⟩ : Fin Pp) * ⟨x, h⟩ * ⟨x, h⟩ + 7)
    have hs := right_any ⟨x, h⟩
    by_cases k : rootF ((⟨x, h⟩ : Fin Pp) * ⟨x, h⟩ * ⟨x, h⟩ + 7) * rootF ((⟨x, h⟩ : Fin Pp) * ⟨x, h⟩ * ⟨x, h⟩ + 7) = (⟨x, h⟩ : Fin Pp) * ⟨x, h⟩ * ⟨x, h⟩ + 7
    · have e : isR x = true := by unfold isR; rw [dif_pos h, decide_eq_true k]
      rw [if_pos k, decide_eq_true k] at hr
      have e1 : liftX x = x := by unfold liftX; rw [if_pos e]
      have e2 : liftY x odd = (liftF ⟨x, h⟩ odd).val := by unfold liftY; rw [if_pos e, dif_pos h]
      rw [e, e1, e2]
      unfold liftF
      by_cases ho : decide ((rootF ((⟨x, h⟩ : Fin Pp) * ⟨x, h⟩ * ⟨x, h⟩ + 7)).val % 2 = 1) = odd
      · rw [if_pos ho]
        exact fun w => lift_as x odd bx hs hr (isOdd_any _) ho w
      · rw [if_neg ho]
        exact fun w => lift_neg x odd bx hs hr (isOdd_any _) ho (neg0 _) w
    · have e : isR x = false := by unfold isR; rw [dif_pos h, decide_eq_false k]
      rw [if_neg k, decide_eq_false k] at hr
      have e1 : liftX x = 0 := by unfold liftX; rw [e]; rfl
      have e2 : liftY x odd = 0 := by unfold liftY; rw [e]; rfl
      rw [e, e1, e2]
      exact fun w => lift_none x odd bx hs hr w
  · rw [decide_eq_false h] at bx
    have e : isR x = false := by unfold isR; rw [dif_neg h]
    have e1 : liftX x = 0 := by unfold liftX; rw [e]; rfl
    have e2 : liftY x odd = 0 := by unfold liftY; rw [e]; rfl
    rw [e, e1, e2]
    exact fun w => lift_high x odd bx w
/-- A square's root is told. -/
theorem root_sq (y : Fin Pp) : rootF (y * y) * rootF (y * y) = y * y := by
  have e0 : (y * y).val % Pp = y.val * y.val % Pp := by rw [Fin.val_mul, Nat.mod_mod]
  have e1 : rootF (y * y) = cf (y.val ^ (Kr + Kr)) := by
    unfold rootF
    refine cf_of_mod ?_
    rw [Nat.pow_mod, e0, ← Nat.pow_mod, ← Nat.pow_two, ← Nat.pow_mul, Nat.two_mul]
  rw [e1, ← cf_mul, ← Nat.pow_add, Kr4, Nat.pow_add]
  by_cases hy : y = 0
  · rw [hy, val_0, show (0 : Nat) ^ (Pp - 1) = 0 from Nat.zero_pow (by have := Pp_big; omega), Nat.zero_mul, cf_zero, m_z]
  · rw [cf_mul, ← cf_mod (y.val ^ (Pp - 1)), Pp_fermat (val_nd hy), cf_one, Nat.pow_two, cf_mul, cf_val]
    exact Fin.one_mul _
theorem lift_on {x : Nat} {odd : Bool} (h : isR x = true) : ∃ hx : x < Pp, liftX x = x ∧ liftY x odd = (liftF ⟨x, hx⟩ odd).val ∧ onP (some (⟨x, hx⟩, liftF ⟨x, hx⟩ odd)) := by
  have hx : x < Pp := by
    refine Decidable.byContradiction fun k => ?_
    unfold isR at h; rw [dif_neg k] at h; cases h
  refine ⟨hx, by unfold liftX; rw [if_pos h], by unfold liftY; rw [if_pos h, dif_pos hx], ?_⟩
  have k := h
  unfold isR at k
  rw [dif_pos hx] at k
  have k2 := of_decide_eq_true k
  show liftF ⟨x, hx⟩ odd * liftF ⟨x, hx⟩ odd = (⟨x, hx⟩ : Fin Pp) * ⟨x, hx⟩ * ⟨x, hx⟩ + 7
  unfold liftF
  split
  · exact k2
  · generalize rootF ((⟨x, hx⟩ : Fin Pp) * ⟨x, hx⟩ * ⟨x, hx⟩ + 7) = r at *
    rw [← k2]
    grind
theorem lift_odd (x : Fin Pp) (odd : Bool) (h : liftF x odd ≠ 0) : decide ((liftF x odd).val % 2 = 1) = odd := by
  unfold liftF at *
  by_cases k : decide ((rootF (x * x * x + 7)).val % 2 = 1) = odd
  · rw [if_pos k]; exact k
  · rw [if_neg k] at h ⊢
    have hr : rootF (x * x * x + 7) ≠ 0 := fun e => h (by rw [e]; exact n_z)
    rw [odd_neg hr]
    generalize (rootF (x * x * x + 7)).val = m at *
    have : m % 2 = 0 ∨ m % 2 = 1 := by omega
    rcases this with e | e <;> cases odd <;> simp_all
theorem lift_back {x y : Fin Pp} (h : y * y = x * x * x + 7) : isR x.val = true ∧ liftF x (decide (y.val % 2 = 1)) = y := by
  have k := root_sq y
  rw [h] at k
  have e : isR x.val = true := by
    unfold isR
    rw [dif_pos x.isLt]
    exact decide_eq_true k
  refine ⟨e, ?_⟩
  have hy := y_nz fc h
  rcases sq_eq (k.trans h.symm) with r | r
  · unfold liftF
    rw [r, if_pos rfl]
  · unfold liftF
    rw [r, odd_neg hy, if_neg, show - - y = y by grind]
    have : y.val % 2 = 0 ∨ y.val % 2 = 1 := by omega
    rcases this with e | e <;> simp [e]
end
end Go.Proofs.Ythbindnkichimaa
namespace Go.Proofs.Ythbindnkichimaa
open Go.RowKit Go.Sort
set_option linter.unusedVariables false
set_option maxRecDepth 100000 in
theorem base_raw (w : World) : Calls Try.prog 16 #[] w fun e w' => e = .returned GV ∧ Below w.heap.size w w' := by
  go_enter Try.func16, Try.ntmps16
  go_wp2
  exact bodyPost_ret (v := GV) (resA (p := 0) (ty := 26) rfl (g := w.heap.size) rfl (HasRow.last rfl) Try.underlying26 rfl (by kernel_rfl)) rfl ⟨rfl, bel_alloc (Below.refl _ _) _⟩
theorem base_any : Does 16 #[] (A9 Gx Gy false) := by rw [← GV_eq]; exact fun w => base_raw w
theorem U_small (n : Nat) (h : n < M) : U n = .agg #[B n, .int .u64 0, .int .u64 0, .int .u64 0] := by
  have h0 : l0 n = n := by unfold l0; exact Nat.mod_eq_of_lt h
  have h1 : l1 n = 0 := by unfold l1; rw [Nat.div_eq_of_lt h]; rfl
  have h2 : l2 n = 0 := by unfold l2; rw [Nat.div_eq_of_lt (Nat.lt_of_lt_of_le h (by decide +kernel))]; rfl
  have h3 : l3 n = 0 := by unfold l3; rw [Nat.div_eq_of_lt (Nat.lt_of_lt_of_le h (by decide +kernel))]; rfl
  unfold U U4
  rw [h0, h1, h2, h3]
  rfl
theorem H_top : ((l3 Hx : Nat) : Int) / 4294967296 = 3322183572 := by decide +kernel
/-- What is the same is told to be. -/
theorem eq9_same (x y : Nat) (n : Bool) (hx : x < W) (hy : y < W) (w : World) : (Op.equalIn 10000 26 (A9 x y n) (A9 x y n)).run Try.prog w = .ok true w := by
  rw [run_eq9 _ _ _ _ _ _ hx hy hx hy]; simp
theorem eqP_same (P : Pt) (w : World) : (Op.equalIn 10000 26 (A9 (pX P) (pY P) (pN P)) (A9 (pX P) (pY P) (pN P))).run Try.prog w = .ok true w := eq9_same _ _ _ (pX_lt P) (pY_lt P) w
section
variable [NeZero Pp]
theorem vG : vP Gp' = A9 Gx Gy false := by show A9 (cf Gx).val (cf Gy).val false = _; rw [val_cf Gx_lt, val_cf Gy_lt]
theorem awake_any : Does 18 #[] (.bool true) := by
  have hM := mul_any G_on 2 W2
  rw [G_two, vG, U_small 2 (by decide)] at hM
  have eH : vP (some (cf Hx, cf Hy)) = A9 Hx Hy false := by show A9 (cf Hx).val (cf Hy).val false = _; rw [val_cf Hx_lt, val_cf Hy_lt]
  rw [eH] at hM
  have hN := neg_any Gp'
  have hA := addP_any Gp' (pneg Gp')
  rw [padd_neg fc G_on] at hA
  rw [vG, vP_eq (pneg Gp')] at hN hA
  exact fun w => awake_raw Gx Gy Hx Hy _ _ false _ base_any hM hN hA H_top w
end
end Go.Proofs.Ythbindnkichimaa
