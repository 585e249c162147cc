/- The program's and the document's points, told by the group of the curve's points. Which numbers are points, points of an X, the numbers of the chapter. Contracts of both bases and of awake. -/
import Derived.Test.YthbindnkichimaaXsFq
import Derived.Test.YthbindnkichimaaXsFr
import Derived.Test.YthbindnkichimaaXsMC
import Derived.WalkSmall
import Derived.Deep.Light
import Derived.Test.YthbindnkichimaaXsQc
import Derived.Test.YthbindnkichimaaXsEq
import Derived.Deep.Cut
import Derived.Test.YthbindnkichimaaXsBa
import Derived.Test.YthbindnkichimaaXsMF
import Derived.Test.YthbindnkichimaaXsWt
import Derived.Test.YthbindnkichimaaXsOl
import Derived.Test.YthbindnkichimaaXsMB
import Derived.BigQuiet
import Derived.Test.YthbindnkichimaaXsCs
import Derived.Test.YthbindnkichimaaXsMD
import Derived.Test.YthbindnkichimaaXsEp
import Derived.Test.YthbindnkichimaaXsGa
namespace Go.Proofs.Ythbindnkichimaa
open Go.RowKit Go.Sort
set_option linter.unusedVariables false
theorem val_cf' [NeZero Pp] (n : Nat) : (cf n).val = n % Pp := by unfold cf; simp [Fin.ofNat]
theorem pn_ne : Pp ≠ 0 := by decide +kernel
def pX : Pt → Nat
  | none => 0
  | some (x, _) => x.val
def pY : Pt → Nat
  | none => 0
  | some (_, y) => y.val
def pN : Pt → Bool
  | none => true
  | some _ => false
theorem vP_eq (P : Pt) : vP P = A9 (pX P) (pY P) (pN P) := by cases P <;> rfl
theorem pX_lt (P : Pt) : pX P < W := by
  cases P with
  | none => exact Nat.lt_of_le_of_lt (Nat.zero_le _) Pp_lt
  | some p => exact fw p.1
theorem pY_lt (P : Pt) : pY P < W := by
  cases P with
  | none => exact Nat.lt_of_le_of_lt (Nat.zero_le _) Pp_lt
  | some p => exact fw p.2
section
variable [NeZero Pp]
theorem hinv (z : Fin Pp) : Does 64 #[U z.val] (U (ivF z).val) := by
  have h := inverse_any' z.val (fw z)
  unfold ivF
  rw [val_cf']
  exact h
theorem pnt_any (a : T3p) : Does 41 #[vT a] (vP (nrm ivF a)) := point_any hinv a
theorem addP_any (P Q : Pt) : Does 21 #[vP P, vP Q] (vP (padd ivF P Q)) := add_any_pt hinv P Q
/-- Doubles, in three numbers. -/
def dblT (t : T3p) : Nat → T3p
  | 0 => t
  | i + 1 => J3 (dblT t i) (dblT t i)
def accN (e : Nat) (t : T3p) (l : List Nat) : T3p := l.foldl (fun s x => if e.testBit x then J3 s (dblT t x) else s) nou
theorem accN_snoc (e : Nat) (t : T3p) (l : List Nat) (x : Nat) : accN e t (l ++ [x]) = if e.testBit x then J3 (accN e t l) (dblT t x) else accN e t l := by simp [accN]
theorem times_any (e : Nat) (he : e < W) (t : T3p) : Does 46 #[U e, vT t] (vT (accN e t (List.range (bitsN e)))) := by
  have hN : bitsN e ≤ 256 := bitsN_le e 256 (by rw [← W_pow]; exact he)
  have h := fun w => times_raw (fun i => (dblT t i).1.val) (fun i => (dblT t i).2.1.val) (fun i => (dblT t i).2.2.val) (bitsN e) e hN
    (fun l => (accN e t (l.map (·.1))).1.val) (fun l => (accN e t (l.map (·.1))).2.1.val) (fun l => (accN e t (l.map (·.1))).2.2.val) (fun i => e.testBit i)
    nought_any (fun w => bits_any e w) (fun i hi => pbit_any e i (by omega)) (fun i => joined_any (dblT t i) (dblT t i))
    (fun pre x hx => by
      have hx' : e.testBit x.1 = true := hx
      have k := joined_any (accN e t (pre.map (·.1))) (dblT t x.1)
      have e1 : J3 (accN e t (pre.map (·.1))) (dblT t x.1) = accN e t ((pre ++ [x]).map (·.1)) := by
        rw [List.map_append]
        exact ((accN_snoc e t _ x.1).trans (if_pos hx')).symm
      rw [e1] at k
      exact k)
    (fun pre x hx => by
      have hx' : ¬ e.testBit x.1 = true := by rw [hx]; decide
      have e1 : accN e t ((pre ++ [x]).map (·.1)) = accN e t (pre.map (·.1)) := by
        rw [List.map_append]
        exact (accN_snoc e t _ x.1).trans (if_neg hx')
      simp only [e1, and_self]) w
  simp only [allB_map] at h
  exact h
theorem dblT_ok {t : T3p} (h1 : onT t) (h2 : nzT t) : ∀ i, onT (dblT t i) ∧ nzT (dblT t i) ∧ nrm ivF (dblT t i) = mulP (2 ^ i) (nrm ivF t)
  | 0 => ⟨h1, h2, by
    obtain ⟨l, _, _, hp⟩ := of_nrm fc h1 h2
    exact (mulP_one hp).symm⟩
  | i + 1 => by
    obtain ⟨a, b, c⟩ := dblT_ok h1 h2 i
    obtain ⟨x, y, z⟩ := J3_ok a b a b
    obtain ⟨l, _, _, hp⟩ := of_nrm fc h1 h2
    refine ⟨x, y, ?_⟩
    show nrm ivF (J3 (dblT t i) (dblT t i)) = _
    rw [z, c, ← mulP_add hp, Nat.pow_succ, Nat.mul_two]
theorem accN_ok (e : Nat) {t : T3p} (h1 : onT t) (h2 : nzT t) : ∀ k, onT (accN e t (List.range k)) ∧ nzT (accN e t (List.range k)) ∧ nrm ivF (accN e t (List.range k)) = mulP (e % 2 ^ k) (nrm ivF t)
  | 0 => ⟨spr_on (P := none) trivial, spr_nz fc none, by
    rw [Nat.pow_zero, Nat.mod_one]
    exact nrm_spr fc none⟩
  | k + 1 => by
    obtain ⟨a, b, c⟩ := accN_ok e h1 h2 k
    obtain ⟨x, y, z⟩ := dblT_ok h1 h2 k
    obtain ⟨l, _, _, hp⟩ := of_nrm fc h1 h2
    rw [List.range_succ, accN_snoc, mod_succ_bit]
    by_cases hb : e.testBit k = true
    · rw [if_pos hb, if_pos hb]
      obtain ⟨u, v, q⟩ := J3_ok a b x y
      refine ⟨u, v, ?_⟩
      rw [q, c, z, ← mulP_add hp]
    · rw [if_neg hb, if_neg hb]
      exact ⟨a, b, c⟩
/-- The program's sum of doubles of a point, and what point it is. -/
theorem timesP {P : Pt} (hP : onP P) (e : Nat) (he : e < W) : ∃ t, Does 46 #[U e, vT (spr P)] (vT t) ∧ onT t ∧ nzT t ∧ nrm ivF t = mulP e P := by
  obtain ⟨a, b, c⟩ := accN_ok e (spr_on hP) (spr_nz fc P) (bitsN e)
  refine ⟨_, times_any e he (spr P), a, b, ?_⟩
  rw [c, nrm_spr fc, Nat.mod_eq_of_lt (bitsN_lt e he)]
theorem mul_any {P : Pt} (hP : onP P) (e : Nat) (he : e < W) : Does 23 #[U e, vP P] (vP (mulP e P)) := by
  obtain ⟨t, h, _, _, hn⟩ := timesP hP e he
  have h1 := spread_any P
  have h3 := pnt_any t
  rw [hn] at h3
  rw [vP_eq] at h1
  rw [vP_eq] at h3
  rw [vP_eq, vP_eq]
  exact fun w => mul_pt_raw e (pX P) (pY P) (pN P) h1 h h3 w
theorem sum_any {P Q : Pt} (hP : onP P) (hQ : onP Q) (e l : Nat) (he : e < W) (hl : l < W) : Does 25 #[U e, vP P, U l, vP Q] (vP (padd ivF (mulP e P) (mulP l Q))) := by
  obtain ⟨t, h, a1, a2, hn⟩ := timesP hP e he
  obtain ⟨s, k, b1, b2, kn⟩ := timesP hQ l hl
  obtain ⟨_, _, j⟩ := J3_ok a1 a2 b1 b2
  have h1 := spread_any P
  have k1 := spread_any Q
  have h3 := joined_any t s
  have h4 := pnt_any (J3 t s)
  rw [j, hn, kn, vP_eq] at h4
  rw [vP_eq] at h1 k1
  rw [vP_eq, vP_eq, vP_eq]
  exact fun w => sum_pt_raw e (pX P) (pY P) l (pX Q) (pY Q) (pN P) (pN Q) h1 h k1 k h3 h4 w
end
end Go.Proofs.Ythbindnkichimaa
namespace Go.Proofs.Ythbindnkichimaa
open Go.RowKit Go.Sort
set_option linter.unusedVariables false
theorem cmp_neg (a b : Nat) : decide (cmpN a b < 0) = decide (a < b) := by
  unfold cmpN
  by_cases h1 : a < b
  · simp [h1]
  · by_cases h2 : b < a
    · simp [h1, h2]
    · simp [h1, h2]
theorem cmp_neg_iff (a b : Nat) : cmpN a b < 0 ↔ a < b := by
  have h := cmp_neg a b
  exact decide_eq_decide.1 h
theorem W2 : (2 : Nat) < W := by decide +kernel
theorem W1 : (1 : Nat) < W := by decide +kernel
theorem zero_lt_W : (0 : Nat) < W := by decide +kernel
theorem U_On : (.agg #[.int .u64 13822214165235122497, .int .u64 13451932020343611451, .int .u64 18446744073709551614, .int .u64 18446744073709551615] : Value) = U On := by
  have h0 : l0 On = 13822214165235122497 := by decide +kernel
  have h1 : l1 On = 13451932020343611451 := by decide +kernel
  have h2 : l2 On = 18446744073709551614 := by decide +kernel
  have h3 : l3 On = 18446744073709551615 := by decide +kernel
  unfold U U4
  rw [h0, h1, h2, h3]
  rfl
theorem On_W : On < W := by decide +kernel
theorem order_any : Does 14 #[] (U On) := by rw [← U_On]; exact fun w => order_raw w
theorem Gx_lt : Gx < Pp := by decide +kernel
theorem Gy_lt : Gy < Pp := by decide +kernel
theorem Hx_lt : Hx < Pp := by decide +kernel
theorem Hy_lt : Hy < Pp := by decide +kernel
abbrev GV : Value := .agg #[.int .u64 6481385041966929816, .int .u64 188021827762530521, .int .u64 6170039885052185351, .int .u64 8772561819708210092, .int .u64 11261198710074299576, .int .u64 18237243440184513561, .int .u64 6747795201694173352, .int .u64 5204712524664259685, .bool false]
theorem GV_eq : GV = A9 Gx Gy false := by
  have h0 : l0 Gx = 6481385041966929816 := by decide +kernel
  have h1 : l1 Gx = 188021827762530521 := by decide +kernel
  have h2 : l2 Gx = 6170039885052185351 := by decide +kernel
  have h3 : l3 Gx = 8772561819708210092 := by decide +kernel
  have k0 : l0 Gy = 11261198710074299576 := by decide +kernel
  have k1 : l1 Gy = 18237243440184513561 := by decide +kernel
  have k2 : l2 Gy = 6747795201694173352 := by decide +kernel
  have k3 : l3 Gy = 5204712524664259685 := by decide +kernel
  unfold GV A9 P9
  rw [h0, h1, h2, h3, k0, k1, k2, k3]
  rfl
section
variable [NeZero Pp]
theorem rside_any (x : Fin Pp) : Does 35 #[U x.val] (U (x * x * x + 7).val) := by
  have e7 : (7 : Fin Pp).val = 7 := by rw [← cf_seven]; exact val_cf (Nat.lt_trans (by decide) Pp_big)
  have h := rfa_any (x * x * x) 7
  rw [e7] at h
  exact fun w => rside_raw x.val (rfm_any x x) (rfm_any _ x) h w
/-- Whether numbers are a point on the curve. -/
def onF (x y : Fin Pp) : Bool := decide (y * y = x * x * x + 7)
def onB (x y : Nat) (n : Bool) : Bool := if n = true then (decide (x = 0) && decide (y = 0)) else if h : x < Pp then (if k : y < Pp then onF ⟨x, h⟩ ⟨y, k⟩ else false) else false
theorem ron_any (x y : Nat) (n : Bool) (hx : x < W) (hy : y < W) : Does 11 #[A9 x y n] (.bool (onB x y n)) := by
  cases n with
  | true =>
    have e : onB x y true = (decide (x = 0) && decide (y = 0)) := rfl
    rw [e]
    by_cases h : x = 0
    · rw [decide_eq_true h, Bool.true_and]
      exact fun w => ron_nxy x y (fun w => by rw [run_eqU _ _ hx zero_lt_W, decide_eq_true h]) (fun w => run_eqU _ _ hy zero_lt_W w) w
    · rw [decide_eq_false h, Bool.false_and]
      exact fun w => ron_nx x y (fun w => by rw [run_eqU _ _ hx zero_lt_W, decide_eq_false h]) w
  | false =>
    have e : onB x y false = if h : x < Pp then (if k : y < Pp then onF ⟨x, h⟩ ⟨y, k⟩ else false) else false := rfl
    rw [e]
    have cx : Does 32 #[U x, U Pp] (.int .i64 (cmpN x Pp)) := fun w => rcmp_any x Pp hx Pp_lt w
    have cy : Does 32 #[U y, U Pp] (.int .i64 (cmpN y Pp)) := fun w => rcmp_any y Pp hy Pp_lt w
    by_cases h : x < Pp
    · rw [dif_pos h]
      by_cases k : y < Pp
      · rw [dif_pos k]
        exact fun w => ron_xy x y rprime_any cx ((cmp_neg_iff _ _).2 h) cy ((cmp_neg_iff _ _).2 k) (rfm_any ⟨y, k⟩ ⟨y, k⟩) (rside_any ⟨x, h⟩) (fun w => eq_any _ _ w) w
      · rw [dif_neg k]
        exact fun w => ron_y x y rprime_any cx ((cmp_neg_iff _ _).2 h) cy (fun e => k ((cmp_neg_iff _ _).1 e)) w
    · rw [dif_neg h]
      exact fun w => ron_x x y rprime_any cx (fun e => h ((cmp_neg_iff _ _).1 e)) w
/-- Numbers that are a point on the curve are one. -/
theorem onB_pt {x y : Nat} {n : Bool} (h : onB x y n = true) : ∃ P, onP P ∧ A9 x y n = vP P ∧ pX P = x ∧ pY P = y ∧ pN P = n := by
  cases n with
  | true =>
    have e : (decide (x = 0) && decide (y = 0)) = true := h
    simp only [Bool.and_eq_true, decide_eq_true_eq] at e
    obtain ⟨rfl, rfl⟩ := e
    exact ⟨none, trivial, rfl, rfl, rfl, rfl⟩
  | false =>
    have e : (if h : x < Pp then (if k : y < Pp then onF ⟨x, h⟩ ⟨y, k⟩ else false) else false) = true := h
    by_cases hx : x < Pp
    · rw [dif_pos hx] at e
      by_cases hy : y < Pp
      · rw [dif_pos hy] at e
        refine ⟨some (⟨x, hx⟩, ⟨y, hy⟩), ?_, rfl, rfl, rfl, rfl⟩
        unfold onF at e
        exact (of_decide_eq_true e : (⟨y, hy⟩ : Fin Pp) * ⟨y, hy⟩ = (⟨x, hx⟩ : Fin Pp) * ⟨x, hx⟩ * ⟨x, hx⟩ + 7)
      · rw [dif_neg hy] at e; cases e
    · rw [dif_neg hx] at e; cases e
end
end Go.Proofs.Ythbindnkichimaa
namespace Go.Proofs.Ythbindnkichimaa
open Go.RowKit Go.Sort
set_option linter.unusedVariables false
set_option maxRecDepth 100000 in
theorem base_raw (w : World) : Calls Try.prog 16 #[] w fun e w' => e = .returned GV ∧ Below w.heap.size w w' := by
  go_enter Try.func16, Try.ntmps16
  go_wp2
  exact bodyPost_ret (v := GV) (resA (p := 0) (ty := 26) rfl (g := w.heap.size) rfl (HasRow.last rfl) Try.underlying26 rfl (by kernel_rfl)) rfl ⟨rfl, bel_alloc (Below.refl _ _) _⟩
theorem base_any : Does 16 #[] (A9 Gx Gy false) := by rw [← GV_eq]; exact fun w => base_raw w
theorem U_small (n : Nat) (h : n < M) : U n = .agg #[B n, .int .u64 0, .int .u64 0, .int .u64 0] := by
  have h0 : l0 n = n := by unfold l0; exact Nat.mod_eq_of_lt h
  have h1 : l1 n = 0 := by unfold l1; rw [Nat.div_eq_of_lt h]; rfl
  have h2 : l2 n = 0 := by unfold l2; rw [Nat.div_eq_of_lt (Nat.lt_of_lt_of_le h (by decide +kernel))]; rfl
  have h3 : l3 n = 0 := by unfold l3; rw [Nat.div_eq_of_lt (Nat.lt_of_lt_of_le h (by decide +kernel))]; rfl
  unfold U U4
  rw [h0, h1, h2, h3]
  rfl
theorem H_top : ((l3 Hx : Nat) : Int) / 4294967296 = 3322183572 := by decide +kernel
theorem M_W : M < W := by decide +kernel
/-- What is the same is told to be. -/
theorem eq9_same (x y : Nat) (n : Bool) (hx : x < W) (hy : y < W) (w : World) : (Op.equalIn 10000 26 (A9 x y n) (A9 x y n)).run Try.prog w = .ok true w := by
  rw [run_eq9 _ _ _ _ _ _ hx hy hx hy]; simp
theorem eqP_same (P : Pt) (w : World) : (Op.equalIn 10000 26 (A9 (pX P) (pY P) (pN P)) (A9 (pX P) (pY P) (pN P))).run Try.prog w = .ok true w := eq9_same _ _ _ (pX_lt P) (pY_lt P) w
section
variable [NeZero Pp]
theorem vG : vP Gp' = A9 Gx Gy false := by show A9 (cf Gx).val (cf Gy).val false = _; rw [val_cf Gx_lt, val_cf Gy_lt]
theorem awake_any : Does 18 #[] (.bool true) := by
  have hM := mul_any G_on 2 W2
  rw [G_two, vG, U_small 2 (by decide)] at hM
  have eH : vP (some (cf Hx, cf Hy)) = A9 Hx Hy false := by show A9 (cf Hx).val (cf Hy).val false = _; rw [val_cf Hx_lt, val_cf Hy_lt]
  rw [eH] at hM
  have hN := neg_any Gp'
  have hA := addP_any Gp' (pneg Gp')
  rw [padd_neg fc G_on] at hA
  rw [vG, vP_eq (pneg Gp')] at hN hA
  exact fun w => awake_raw Gx Gy Hx Hy _ _ false _ base_any hM hN hA H_top w
end
end Go.Proofs.Ythbindnkichimaa
