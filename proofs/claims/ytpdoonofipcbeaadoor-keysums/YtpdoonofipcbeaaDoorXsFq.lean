/- Contracts of sums of points, told by the numbers by the prime. -/
import Derived.Test.YtpdoonofipcbeaaDoorXsFo
import Derived.Test.YtpdoonofipcbeaaDoorXsMD
namespace Go.Proofs.YtpdoonofipcbeaaDoor
open Go.RowKit Go.Sort
set_option linter.unusedVariables false
theorem fl (a : Fin Pp) : a.val < Pp := a.isLt
theorem fw (a : Fin Pp) : a.val < W := Nat.lt_trans a.isLt Pp_lt
theorem val_sub (a b : Fin Pp) : (a - b).val = (a.val + (Pp - b.val)) % Pp := by rw [Fin.sub_def]; simp [Nat.add_comm]
/-- A point, as a value. -/
abbrev vP : Pt → Value
  | none => A9 0 0 true
  | some (x, y) => A9 x.val y.val false
theorem none_any : Does 65 #[] (vP none) := fun w => none_raw w
theorem fm_any (a b : Fin Pp) : Does 67 #[U a.val, U b.val] (U (a * b).val) := by rw [Fin.val_mul]; exact product_any _ _ (fw a) (fw b)
theorem fa_any (a b : Fin Pp) : Does 89 #[U a.val, U b.val] (U (a + b).val) := by rw [Fin.val_add]; exact plus_any _ _ (fl a) (fl b)
theorem fs_any (a b : Fin Pp) : Does 90 #[U a.val, U b.val] (U (a - b).val) := by rw [val_sub]; exact less_any _ _ (fl a) (fl b)
theorem rfm_any (a b : Fin Pp) : Does 36 #[U a.val, U b.val] (U (a * b).val) := by rw [Fin.val_mul]; exact rtimes_any _ _ (fw a) (fw b)
theorem rfa_any (a b : Fin Pp) : Does 58 #[U a.val, U b.val] (U (a + b).val) := by rw [Fin.val_add]; exact rplus_any _ _ (fl a) (fl b)
theorem rfs_any (a b : Fin Pp) : Does 43 #[U a.val, U b.val] (U (a - b).val) := by rw [val_sub]; exact rminus_any _ _ (fl a) (fl b)
theorem eq_any (a b : Fin Pp) (w : World) : (Op.equalIn 10000 24 (U a.val) (U b.val)).run Tryd.prog w = .ok (decide (a = b)) w := by
  rw [run_eqU _ _ (fw a) (fw b)]
  congr 1
  exact decide_eq_decide.2 ⟨fun h => Fin.ext h, fun h => congrArg _ h⟩
theorem crossed_any (a b c d e : Fin Pp) : Does 88 #[U a.val, U b.val, U c.val, U d.val, U e.val] (U ((a + b) * (c + d) - e).val) := fun w => crossed_raw _ _ _ _ _ (fa_any a b) (fa_any c d) (fm_any _ _) (fs_any _ e) w
section
variable [NeZero Pp]
theorem val_cf {n : Nat} (h : n < Pp) : (cf n).val = n := by unfold cf; simp [Fin.ofNat, Nat.mod_eq_of_lt h]
theorem val_0 : (0 : Fin Pp).val = 0 := by rw [← cf_zero]; exact val_cf Pp_pos
theorem val_1 : (1 : Fin Pp).val = 1 := by rw [← cf_one]; exact val_cf (Nat.lt_trans (by decide) Pp_big)
theorem of_any' (k : Nat) (hk : k < 1000) : Does 31 #[.int .u64 (k : Int)] (U (cf k).val) := by
  rw [val_cf (Nat.lt_trans hk Pp_big)]
  exact fun w => of_any k (Nat.lt_trans hk (by decide)) w
/-- Three numbers by the prime, as a value. -/
abbrev vT (a : T3p) : Value := A3 a.1.val a.2.1.val a.2.2.val
theorem g_xy (a b c d : Fin Pp) : (a + b) * (c + d) - (a * c + b * d) = a * d + c * b := by grind
theorem g_3 (a : Fin Pp) : a + (a + a) = 3 * a := by grind
theorem joined_any (a b : T3p) : Does 72 #[vT a, vT b] (vT (J3 a b)) := by
  obtain ⟨x1, y1, z1⟩ := a
  obtain ⟨x2, y2, z2⟩ := b
  have h := fun w => joined_raw x1.val y1.val z1.val x2.val y2.val z2.val (fm_any x1 x2) (fm_any y1 y2) (fm_any z1 z2) (fa_any _ _) (crossed_any x1 y1 x2 y2 _) (fa_any _ _) (crossed_any y1 z1 y2 z2 _) (fa_any _ _) (crossed_any x1 z1 x2 z2 _)
    (fa_any _ _) (fa_any _ _) (of_any' 21 (by decide)) (fm_any _ _) (fm_any _ _) (fa_any _ _) (fs_any _ _) (fm_any _ _) (fm_any _ _) (fs_any _ _) (fm_any _ _) (fm_any _ _) (fa_any _ _) (fm_any _ _) (fm_any _ _) (fa_any _ _) w
  simp only [g_xy, g_3, show cf 21 = (21 : Fin Pp) from rfl] at h
  exact h
theorem nought_any : Does 68 #[] (vT nou) := by
  show Does 68 #[] (A3 (0 : Fin Pp).val (1 : Fin Pp).val (0 : Fin Pp).val)
  rw [val_0]
  have h := fun w => nought_raw (of_any' 1 (by decide)) w
  rw [cf_one] at h
  exact h
theorem spread_any (P : Pt) : Does 49 #[vP P] (vT (spr P)) := by
  cases P with
  | none =>
    have h := nought_any
    show Does 49 #[A9 0 0 true] (vT nou)
    have e : vT nou = A3 0 1 0 := by show A3 (0 : Fin Pp).val (1 : Fin Pp).val (0 : Fin Pp).val = _; rw [val_0, val_1]
    rw [e] at h ⊢
    exact fun w => spread_none 0 0 h w
  | some p =>
    obtain ⟨x, y⟩ := p
    have h := fun w => spread_some x.val y.val (of_any' 1 (by decide)) w
    rw [cf_one] at h
    exact h
theorem point_any (hinv : ∀ z : Fin Pp, Does 66 #[U z.val] (U (ivF z).val)) (a : T3p) : Does 47 #[vT a] (vP (nrm ivF a)) := by
  obtain ⟨x, y, z⟩ := a
  have he := fun w => eq_any z 0 w
  rw [val_0] at he
  unfold nrm
  simp only []
  by_cases hz : z = 0
  · rw [if_pos hz]
    exact fun w => point_none _ _ _ (fun w => by rw [he, decide_eq_true hz]) none_any w
  · rw [if_neg hz]
    exact fun w => point_some _ _ _ (fun w => by rw [he, decide_eq_false hz]) (hinv z) (fm_any x _) (fm_any y _) w
end
end Go.Proofs.YtpdoonofipcbeaaDoor
