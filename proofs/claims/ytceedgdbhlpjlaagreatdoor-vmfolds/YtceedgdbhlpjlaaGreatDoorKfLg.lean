/- Out of Lg. -/
import Derived.Test.YtceedgdbhlpjlaaGreatDoorKfLa1
import Derived.Test.YtceedgdbhlpjlaaGreatDoorKfDl
import Derived.Test.YtceedgdbhlpjlaaGreatDoorKfDm
import Derived.WalkMore
namespace Go.Proofs.YtceedgdbhlpjlaaGreatDoor
open Go.RowKit Go.Sort
set_option linter.unusedVariables false
/-- The rows of the long division. -/
structure LV (w w' : World) (d m q o : Nat → Nat) : Prop where
  dd : HasRow w' w.heap.size (ag .u64 16 d)
  mm : HasRow w' (w.heap.size + 1) (ag .u64 8 m)
  r4 : HasRow w' (w.heap.size + 1 + 1) (ag .u64 16 (fun _ => 0))
  r5 : HasRow w' (w.heap.size + 1 + 1 + 1) (ag .u64 8 (fun _ => 0))
  qq : HasRow w' (w.heap.size + 1 + 1 + 1 + 1) (ag .u64 16 q)
  oo : HasRow w' (w.heap.size + 1 + 1 + 1 + 1 + 1) (ag .u64 8 o)
  b : Below w.heap.size w w'
theorem LV.putQ {w w' : World} {d m q o : Nat → Nat} (h : LV w w' d m q o) (i x : Nat) : LV w (w'.setCell ⟨w.heap.size + 1 + 1 + 1 + 1, i, none⟩ (.int .u64 (x : Nat))) d m (upd q i x) o := by
  rw [h.qq.setCell, ag_set]
  exact ⟨h.dd.set_other _ (by omega), h.mm.set_other _ (by omega), h.r4.set_other _ (by omega), h.r5.set_other _ (by omega), h.qq.set_same _, h.oo.set_other _ (by omega), below_setRow h.b (by omega) _⟩
/-- What the division hands back. -/
structure LR (X V : Nat) (q o : Nat → Nat) : Prop where
  hq : ∀ i, i < 16 → q i < D
  ho : ∀ i, i < 8 → o i < D
  vq : vl q 0 16 = X / V
  vo : vl o 0 8 = if V = 0 then 0 else X % V
/-- The division by one digit, t digits still to come. -/
structure L1 (d q : Nat → Nat) (m t r : Nat) : Prop where
  hr : r < m
  hq : ∀ i, i < 16 → q i < D
  hv : vl d t (16 - t) = vl q t (16 - t) * m + r
theorem L1.start {d : Nat → Nat} {m : Nat} (h : 0 < m) : L1 d (fun _ => 0) m 16 0 := ⟨h, fun _ _ => D_pos, by simp [vl]⟩
theorem L1.step {d q : Nat → Nat} {m p r : Nat} (h : L1 d q m (p + 1) r) (hp : p < 16) (hm : m < D) (hd : d p < D) : L1 d (upd q p ((r * D + d p) / m)) m p ((r * D + d p) % m) where
  hr := Nat.mod_lt _ (Nat.lt_of_le_of_lt (Nat.zero_le _) h.hr)
  hq := upd_lt h.hq (by
    have h1 := h.hr
    rw [Nat.div_lt_iff_lt_mul (by omega)]
    have h2 : r * D + D ≤ m * D := by rw [← Nat.succ_mul]; exact Nat.mul_le_mul_right _ h1
    rw [Nat.mul_comm D m]
    omega)
  hv := by
    have hv := h.hv
    have e1 : vl d p (16 - p) = d p + D * vl d (p + 1) (16 - (p + 1)) := by rw [show 16 - p = (16 - (p + 1)) + 1 by omega, vl_low]
    have e2 : vl (upd q p ((r * D + d p) / m)) p (16 - p) = (r * D + d p) / m + D * vl q (p + 1) (16 - (p + 1)) := by
      rw [show 16 - p = (16 - (p + 1)) + 1 by omega, vl_low, upd_same, vl_upd_above q p _ (Nat.lt_succ_self p)]
    have hdm := Nat.div_add_mod (r * D + d p) m
    rw [e1, e2, hv, Nat.add_mul, Nat.mul_add, Nat.mul_assoc D]
    generalize (r * D + d p) / m = a at *
    generalize (r * D + d p) % m = c at *
    rw [Nat.mul_comm a m, Nat.mul_comm D r]
    omega
end Go.Proofs.YtceedgdbhlpjlaaGreatDoor
