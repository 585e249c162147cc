/- Where one can jump, told by the code's bytes; a whole code ahead of another one; no program. -/
import Derived.Test.YtoceebhnhccfdaaDoorKm
namespace Go.Proofs.YtoceebhnhccfdaaDoor
open Go.RowKit Go.Sort Go.Shelf
set_option linter.unusedVariables false
set_option maxRecDepth 100000
def dsR : Nat → List UInt8 → List Bool
  | 0, _ => []
  | _ + 1, [] => []
  | f + 1, b :: r => decide (b = 91) :: (List.replicate (min (ownN b.toNat) r.length) false ++ dsR f (r.drop (min (ownN b.toNat) r.length)))
theorem dsR_fuel : ∀ (f g : Nat) (l : List UInt8), l.length ≤ f → l.length ≤ g → dsR f l = dsR g l
  | 0, g, l, h, _ => by
    obtain rfl : l = [] := List.length_eq_zero_iff.1 (by omega)
    cases g <;> rfl
  | f + 1, 0, l, _, h => by
    obtain rfl : l = [] := List.length_eq_zero_iff.1 (by omega)
    rfl
  | f + 1, g + 1, [], _, _ => rfl
  | f + 1, g + 1, b :: r, h1, h2 => by
    simp only [dsR]
    rw [dsR_fuel f g _ (by rw [List.length_drop]; simp only [List.length_cons] at h1; omega) (by rw [List.length_drop]; simp only [List.length_cons] at h2; omega)]
theorem ds_fold : ∀ (f p : Nat) (l : List UInt8) (pre : List Bool), l.length ≤ f → pre.length = p → (pcF f p l).foldl dsS (pre ++ List.replicate l.length false) = pre ++ dsR f l
  | 0, p, l, pre, h, _ => by
    obtain rfl : l = [] := List.length_eq_zero_iff.1 (by omega)
    rfl
  | f + 1, p, [], pre, _, _ => rfl
  | f + 1, p, b :: r, pre, h, hp => by
    simp only [pcF, dsR, List.foldl_cons]
    have hk : min (ownN b.toNat) r.length ≤ r.length := Nat.min_le_right _ _
    generalize min (ownN b.toNat) r.length = k at *
    have hl : (r.drop k).length = r.length - k := List.length_drop
    have e : dsS (pre ++ List.replicate (b :: r).length false) (p, b :: r.take k) = (pre ++ (decide (b = 91) :: List.replicate k false)) ++ List.replicate (r.drop k).length false := by
      have hr : List.replicate r.length false = List.replicate k false ++ List.replicate (r.length - k) false := by rw [List.replicate_append_replicate]; congr 1; omega
      simp only [dsS, List.head?_cons, Option.some.injEq, List.length_cons, List.replicate_succ]
      rw [List.set_append_right p _ (by omega), show p - pre.length = 0 by omega, List.set_cons_zero, hl, hr]
      simp
    rw [e, ds_fold f (p + 1 + k) (r.drop k) _ (by rw [hl]; simp only [List.length_cons] at h; omega) (by simp; omega)]
    simp
theorem dsN_eq (c : List UInt8) : dsN c = dsR c.length c := by
  have := ds_fold c.length 0 c [] (Nat.le_refl _) rfl
  simpa [dsN, pc] using this
theorem dsR_true : ∀ (f : Nat) (l : List UInt8) (i : Nat), (dsR f l)[i]? = some true → l[i]? = some 91
  | 0, l, i, h => by simp [dsR] at h
  | f + 1, [], i, h => by simp [dsR] at h
  | f + 1, b :: r, 0, h => by
    simp only [dsR, List.getElem?_cons_zero, Option.some.injEq, decide_eq_true_eq] at h
    simp [h]
  | f + 1, b :: r, i + 1, h => by
    simp only [dsR, List.getElem?_cons_succ] at h ⊢
    have hk : min (ownN b.toNat) r.length ≤ r.length := Nat.min_le_right _ _
    generalize min (ownN b.toNat) r.length = k at *
    rcases Nat.lt_or_ge i k with hi | hi
    · rw [List.getElem?_append_left (by simpa using hi), List.getElem?_replicate] at h
      simp [hi] at h
    · rw [List.getElem?_append_right (by simpa using hi), List.length_replicate] at h
      have := dsR_true f _ _ h
      rw [List.getElem?_drop, show k + (i - k) = i by omega] at this
      exact this
theorem ds_two (m : List UInt8) : dsN (0 :: 91 :: m) = false :: true :: dsN m := by
  rw [dsN_eq, dsN_eq]
  simp only [List.length_cons, dsR]
  have e0 : ownN 0 = 0 := by decide
  have e1 : ownN 91 = 0 := by decide
  simp [e0, dsR, e1]
/-- Whether a code's last operation has all its own bytes. -/
def wh : Nat → List UInt8 → Bool
  | 0, _ => true
  | _ + 1, [] => true
  | f + 1, b :: r => decide (ownN b.toNat ≤ r.length) && wh f (r.drop (ownN b.toNat))
theorem ds_app : ∀ (f : Nat) (a b : List UInt8), a.length ≤ f → wh f a = true → dsR (f + b.length) (a ++ b) = dsR f a ++ dsR b.length b
  | 0, a, b, h, _ => by
    obtain rfl : a = [] := List.length_eq_zero_iff.1 (by omega)
    simp [dsR]
  | f + 1, [], b, _, _ => by
    rw [List.nil_append, dsR_fuel _ b.length b (by omega) (Nat.le_refl _)]
    rfl
  | f + 1, x :: r, b, h, hw => by
    simp only [wh, Bool.and_eq_true, decide_eq_true_eq] at hw
    have e1 : min (ownN x.toNat) r.length = ownN x.toNat := by omega
    have e2 : min (ownN x.toNat) (r ++ b).length = ownN x.toNat := by rw [List.length_append]; omega
    rw [show f + 1 + b.length = f + b.length + 1 by omega, List.cons_append]
    simp only [dsR, e1, e2]
    rw [List.drop_append_of_le_length hw.1, ds_app f _ b (by rw [List.length_drop]; simp only [List.length_cons] at h; omega) hw.2]
    simp
theorem dsN_app (a b : List UInt8) (h : wh a.length a = true) : dsN (a ++ b) = dsN a ++ dsN b := by
  rw [dsN_eq, dsN_eq, dsN_eq, List.length_append]
  exact ds_app a.length a b (Nat.le_refl _) h
theorem pc_shift : ∀ (f p q : Nat) (l : List UInt8), (pcF f p l).flatMap lnP = (pcF f q l).flatMap lnP
  | 0, p, q, l => rfl
  | f + 1, p, q, [] => rfl
  | f + 1, p, q, b :: r => by
    simp only [pcF, List.flatMap_cons]
    rw [pc_shift f _ (q + 1 + min (ownN b.toNat) r.length)]
    rfl
theorem ls_app : ∀ (f : Nat) (p : Nat) (a b : List UInt8), a.length ≤ f → wh f a = true → (pcF (f + b.length) p (a ++ b)).flatMap lnP = (pcF f p a).flatMap lnP ++ (pcF b.length 0 b).flatMap lnP
  | 0, p, a, b, h, _ => by
    obtain rfl : a = [] := List.length_eq_zero_iff.1 (by omega)
    rw [Nat.zero_add, List.nil_append, pc_shift _ p 0]
    rfl
  | f + 1, p, [], b, _, _ => by
    rw [List.nil_append, pcF_fuel _ b.length p b (by omega) (Nat.le_refl _), pc_shift _ p 0]
    rfl
  | f + 1, p, x :: r, b, h, hw => by
    simp only [wh, Bool.and_eq_true, decide_eq_true_eq] at hw
    have e1 : min (ownN x.toNat) r.length = ownN x.toNat := by omega
    have e2 : min (ownN x.toNat) (r ++ b).length = ownN x.toNat := by rw [List.length_append]; omega
    rw [show f + 1 + b.length = f + b.length + 1 by omega, List.cons_append]
    simp only [pcF, e1, e2, List.flatMap_cons]
    rw [List.drop_append_of_le_length hw.1, List.take_append_of_le_length hw.1, ls_app f _ _ b (by rw [List.length_drop]; simp only [List.length_cons] at h; omega) hw.2, List.append_assoc]
theorem lsN_app (a b : List UInt8) (h : wh a.length a = true) : lsN (a ++ b) = lsN a ++ lsN b := by
  unfold lsN pc
  rw [List.length_append]
  exact ls_app a.length 0 a b (Nat.le_refl _) h
end Go.Proofs.YtoceebhnhccfdaaDoor
