/- The document's long division by nothing and by one digit. -/
import Derived.Test.YtbfgeinneglpdaaLa1
import Derived.Test.YtbfgeinneglpdaaDl
import Derived.Test.YtbfgeinneglpdaaDm
import Derived.WalkMore
namespace Go.Proofs.Ytbfgeinneglpdaa
open Go.RowKit Go.Sort
set_option linter.unusedVariables false
/-- The rows of the long division. -/
structure LV (w w' : World) (d m q o : Nat → Nat) : Prop where
  dd : HasRow w' w.heap.size (ag .u64 16 d)
  mm : HasRow w' (w.heap.size + 1) (ag .u64 8 m)
  r4 : HasRow w' (w.heap.size + 1 + 1) (ag .u64 16 (fun _ => 0))
  r5 : HasRow w' (w.heap.size + 1 + 1 + 1) (ag .u64 8 (fun _ => 0))
  qq : HasRow w' (w.heap.size + 1 + 1 + 1 + 1) (ag .u64 16 q)
  oo : HasRow w' (w.heap.size + 1 + 1 + 1 + 1 + 1) (ag .u64 8 o)
  b : Below w.heap.size w w'
theorem LV.putQ {w w' : World} {d m q o : Nat → Nat} (h : LV w w' d m q o) (i x : Nat) : LV w (w'.setCell ⟨w.heap.size + 1 + 1 + 1 + 1, i, none⟩ (.int .u64 (x : Nat))) d m (upd q i x) o := by
  rw [h.qq.setCell, ag_set]
  exact ⟨h.dd.set_other _ (by omega), h.mm.set_other _ (by omega), h.r4.set_other _ (by omega), h.r5.set_other _ (by omega), h.qq.set_same _, h.oo.set_other _ (by omega), below_setRow h.b (by omega) _⟩
theorem LV.putO {w w' : World} {d m q o : Nat → Nat} (h : LV w w' d m q o) (i x : Nat) : LV w (w'.setCell ⟨w.heap.size + 1 + 1 + 1 + 1 + 1, i, none⟩ (.int .u64 (x : Nat))) d m q (upd o i x) := by
  rw [h.oo.setCell, ag_set]
  exact ⟨h.dd.set_other _ (by omega), h.mm.set_other _ (by omega), h.r4.set_other _ (by omega), h.r5.set_other _ (by omega), h.qq.set_other _ (by omega), h.oo.set_same _, below_setRow h.b (by omega) _⟩
structure CL (w : World) (q o : Nat → Nat) (listed : Array Bool) (vs : Nat → Value) (w' : World) : Prop where
  b : Below w.heap.size w w'
  qq : HasRow w' (w.heap.size + 1 + 1 + 1 + 1) (ag .u64 16 q)
  oo : HasRow w' (w.heap.size + 1 + 1 + 1 + 1 + 1) (ag .u64 8 o)
  c0 : listed.getD 0 false = true → vs 0 = A16 q
  c1 : listed.getD 1 false = true → vs 1 = A8 o
  c2 : ∃ c, HasRow w' (w.heap.size + 1 + 1) c ∧ c.size = 16 ∧ (listed.getD 2 false = true → c = ag .u64 16 q)
  c3 : ∃ c, HasRow w' (w.heap.size + 1 + 1 + 1) c ∧ c.size = 8 ∧ (listed.getD 3 false = true → c = ag .u64 8 o)
/-- What the division hands back. -/
structure LR (X V : Nat) (q o : Nat → Nat) : Prop where
  hq : ∀ i, i < 16 → q i < D
  ho : ∀ i, i < 8 → o i < D
  vq : vl q 0 16 = X / V
  vo : vl o 0 8 = if V = 0 then 0 else X % V

theorem or_two {f1 f0 : Nat} (h1 : f1 < D) (h0 : f0 < D) : bits BinOp.or IntKind.u64 (IntKind.u64.wrap ((f1 : Int) * 4294967296)) (f0 : Int) = ((f1 * D + f0 : Nat) : Int) := by
  have e1 : IntKind.u64.wrap ((f1 : Int) * 4294967296) = ((f1 * D : Nat) : Int) := by simp only [IntKind.wrap_u64]; unfold D at *; omega
  have hM1 : f1 * D < M := by unfold D M at *; omega
  have hM0 : f0 < M := by unfold D M at *; omega
  rw [e1, bits_or (f1 * D) f0 hM1 hM0]
  have h0' : f0 < 2 ^ 32 := h0
  have e2 := Nat.two_pow_add_eq_or_of_lt h0' f1
  have eD : D = 2 ^ 32 := by decide
  have e : f1 * D ||| f0 = f1 * D + f0 := by rw [Nat.mul_comm, eD]; exact e2.symm
  rw [e]
theorem num_one {r x m : Nat} (hr : r < D) (hx : x < D) (hm : 0 < m) :
    r * D + x < M ∧ (bits BinOp.or IntKind.u64 (IntKind.u64.wrap ((r : Int) * 4294967296)) (x : Int)).tmod (m : Int) = (((r * D + x) % m : Nat) : Int)
    ∧ IntKind.u64.wrap ((bits BinOp.or IntKind.u64 (IntKind.u64.wrap ((r : Int) * 4294967296)) (x : Int)).tdiv (m : Int)) = (((r * D + x) / m : Nat) : Int) := by
  have hlt : r * D + x < M := by unfold D M at *; omega
  rw [or_two hr hx]
  refine ⟨hlt, rfl, ?_⟩
  have e : ((r * D + x : Nat) : Int).tdiv (m : Int) = (((r * D + x) / m : Nat) : Int) := rfl
  rw [e]
  have hq : (r * D + x) / m ≤ r * D + x := Nat.div_le_self _ _
  generalize (r * D + x) / m = q at *
  generalize r * D + x = y at *
  simp only [IntKind.wrap_u64]
  unfold M at hlt
  omega
/-- The division by one digit, t digits still to come. -/
structure L1 (d q : Nat → Nat) (m t r : Nat) : Prop where
  hr : r < m
  hq : ∀ i, i < 16 → q i < D
  hv : vl d t (16 - t) = vl q t (16 - t) * m + r
theorem L1.start {d : Nat → Nat} {m : Nat} (h : 0 < m) : L1 d (fun _ => 0) m 16 0 := ⟨h, fun _ _ => D_pos, by simp [vl]⟩
theorem L1.step {d q : Nat → Nat} {m p r : Nat} (h : L1 d q m (p + 1) r) (hp : p < 16) (hm : m < D) (hd : d p < D) : L1 d (upd q p ((r * D + d p) / m)) m p ((r * D + d p) % m) where
  hr := Nat.mod_lt _ (Nat.lt_of_le_of_lt (Nat.zero_le _) h.hr)
  hq := upd_lt h.hq (by
    have h1 := h.hr
    rw [Nat.div_lt_iff_lt_mul (by omega)]
    have h2 : r * D + D ≤ m * D := by rw [← Nat.succ_mul]; exact Nat.mul_le_mul_right _ h1
    rw [Nat.mul_comm D m]
    omega)
  hv := by
    have hv := h.hv
    have e1 : vl d p (16 - p) = d p + D * vl d (p + 1) (16 - (p + 1)) := by rw [show 16 - p = (16 - (p + 1)) + 1 by omega, vl_low]
    have e2 : vl (upd q p ((r * D + d p) / m)) p (16 - p) = (r * D + d p) / m + D * vl q (p + 1) (16 - (p + 1)) := by
      rw [show 16 - p = (16 - (p + 1)) + 1 by omega, vl_low, upd_same, vl_upd_above q p _ (Nat.lt_succ_self p)]
    have hdm := Nat.div_add_mod (r * D + d p) m
    rw [e1, e2, hv, Nat.add_mul, Nat.mul_add, Nat.mul_assoc D]
    generalize (r * D + d p) / m = a at *
    generalize (r * D + d p) % m = c at *
    rw [Nat.mul_comm a m, Nat.mul_comm D r]
    omega
theorem L1.end {d q : Nat → Nat} {m r : Nat} (h : L1 d q m 0 r) (hm : m < D) : LR (vl d 0 16) m q (upd (fun _ => 0) 0 r) where
  hq := h.hq
  ho i hi := by unfold upd; split; exact Nat.lt_trans h.hr hm; exact D_pos
  vq := by
    have hv : vl d 0 16 = vl q 0 16 * m + r := h.hv
    rw [hv, Nat.mul_comm, Nat.mul_add_div (by have := h.hr; omega), Nat.div_eq_of_lt h.hr, Nat.add_zero]
  vo := by
    have hv : vl d 0 16 = vl q 0 16 * m + r := h.hv
    have hr := h.hr
    rw [if_neg (by omega), hv, Nat.mul_comm, Nat.mul_add_mod, Nat.mod_eq_of_lt h.hr]
    rw [show (8 : Nat) = 7 + 1 from rfl, vl_low, upd_same, vl_of_zero (fun i hi => upd_other _ _ _ (by omega)), Nat.mul_zero, Nat.add_zero]

set_option maxRecDepth 100000 in
set_option maxHeartbeats 8000000 in
theorem long_zero (d m : Nat → Nat) (X : Nat)
    (ct : Hid (∀ w, Calls Try.prog 57 #[A8 m] w fun e w' => e = .returned (.int .i64 0) ∧ Below w.heap.size w w')) (w : World) :
    Calls Try.prog 50 #[A16 d, A8 m] w fun e w' =>
      (∃ q o, LR X 0 q o ∧ e = .returned (.tuple #[A16 q, A8 o])) ∧ Below w.heap.size w w' := by
  go_enter Try.func50, Try.ntmps50
  go_upto_region 3 with fail
  refine wp_region_lit ?_
  refine wpList_rload' rfl 51 (.tmp 3) rfl (w.heap.size + 1) rfl .u64 8 m (HasRow.old (HasRow.old (HasRow.old (HasRow.old (HasRow.last (by simp)))))) Try.underlying51 (by kernel_rfl) ?_
  go_wp2_with fail
  refine (ct.out _).mono ?_
  rintro e w1 ⟨rfl, hb1⟩
  have F1 : LV w w1 d m (fun _ => 0) (fun _ => 0) := ⟨(HasRow.old (HasRow.old (HasRow.old (HasRow.old (HasRow.old (HasRow.last rfl)))))).below hb1, (HasRow.old (HasRow.old (HasRow.old (HasRow.old (HasRow.last (by simp)))))).below hb1, (HasRow.old (HasRow.old (HasRow.old (HasRow.last (by simp))))).below hb1, (HasRow.old (HasRow.old (HasRow.last (by simp)))).below hb1, (HasRow.old (HasRow.last (by simp))).below hb1, (HasRow.last (by simp)).below hb1, bel_call (by (repeat (first | exact Below.refl _ _ | refine bel_alloc ?_ _))) hb1⟩
  have K1 : Hid _ := F1
  clear hb1
  clear F1
  go_wp2
  refine wp_region_vals2 (by kernel_rfl) (by kernel_rfl) (by kernel_rfl) (CL w (fun _ => 0) (fun _ => 0)) ?_ ?_ ?_
  · refine ⟨K1.out.b.drew, K1.out.qq, K1.out.oo, ?_, ?_, ⟨_, K1.out.r4, ag_size _ _ _, ?_⟩, ⟨_, K1.out.r5, ag_size _ _ _, ?_⟩⟩ <;> (intro h; simp [Array.getD] at h)
  · intro listed vs a' w' i o' hs ho hi hF cc
    have hi4 : i < 4 := by have := (Array.getElem?_eq_some_iff.1 ho).1; simpa using this
    have hcase : i = 0 ∨ i = 1 ∨ i = 2 ∨ i = 3 := by omega
    rcases hcase with rfl | rfl | rfl | rfl
    · simp at ho
      subst ho
      have T : ∀ j, j ≠ 0 → (listed.setIfInBounds 0 true).getD j false = true → listed.getD j false = true := fun j hj h => (done_set h).resolve_left hj
      exact wp_rowF 50 (.tmp 6) rfl (w.heap.size + 1 + 1 + 1 + 1) ((hF.old (by kernel_rfl)).trans rfl) cc.qq (ag_size _ _ _) Try.underlying50 (by kernel_rfl) ⟨_, rfl, ⟨cc.b, cc.qq, cc.oo, fun _ => rfl, fun h => cc.c1 (T 1 (by decide) h), by obtain ⟨c, h2, h3, h4⟩ := cc.c2; exact ⟨c, h2, h3, fun h => h4 (T 2 (by decide) h)⟩, by obtain ⟨c, h2, h3, h4⟩ := cc.c3; exact ⟨c, h2, h3, fun h => h4 (T 3 (by decide) h)⟩⟩⟩
    · simp at ho
      subst ho
      have T : ∀ j, j ≠ 1 → (listed.setIfInBounds 1 true).getD j false = true → listed.getD j false = true := fun j hj h => (done_set h).resolve_left hj
      exact wp_rowF 51 (.tmp 7) rfl (w.heap.size + 1 + 1 + 1 + 1 + 1) ((hF.old (by kernel_rfl)).trans rfl) cc.oo (ag_size _ _ _) Try.underlying51 (by kernel_rfl) ⟨_, rfl, ⟨cc.b, cc.qq, cc.oo, fun h => cc.c0 (T 0 (by decide) h), fun _ => rfl, by obtain ⟨c, h2, h3, h4⟩ := cc.c2; exact ⟨c, h2, h3, fun h => h4 (T 2 (by decide) h)⟩, by obtain ⟨c, h2, h3, h4⟩ := cc.c3; exact ⟨c, h2, h3, fun h => h4 (T 3 (by decide) h)⟩⟩⟩
    · simp at ho
      subst ho
      have T : ∀ j, j ≠ 2 → (listed.setIfInBounds 2 true).getD j false = true → listed.getD j false = true := fun j hj h => (done_set h).resolve_left hj
      have hv := (hF.new (t := 34) (i := 0) (by kernel_rfl) (by simp) (waits_done (i := 2) (j := 0) (by kernel_rfl) hi)).trans (cc.c0 (waits_done (i := 2) (j := 0) (by kernel_rfl) hi))
      obtain ⟨c, h2, h3, h4⟩ := cc.c2
      obtain ⟨c', k2, k3, k4⟩ := cc.c3
      exact wp_rowS 50 (.tmp 4) (.tmp 34) rfl (w.heap.size + 1 + 1) (c' := ag .u64 16 (fun _ => 0)) ((hF.old (by kernel_rfl)).trans rfl) hv h2 h3 (ag_size _ _ _) (ag_one _ _ _) (by kernel_rfl) ⟨_, rfl, ⟨below_setRow cc.b (by omega) _, cc.qq.set_other _ (by omega), cc.oo.set_other _ (by omega), fun h => cc.c0 (T 0 (by decide) h), fun h => cc.c1 (T 1 (by decide) h), ⟨_, h2.set_same _, ag_size _ _ _, fun _ => rfl⟩, ⟨c', k2.set_other _ (by omega), k3, fun h => k4 (T 3 (by decide) h)⟩⟩⟩
    · simp at ho
      subst ho
      have T : ∀ j, j ≠ 3 → (listed.setIfInBounds 3 true).getD j false = true → listed.getD j false = true := fun j hj h => (done_set h).resolve_left hj
      have hv := (hF.new (t := 35) (i := 1) (by kernel_rfl) (by simp) (waits_done (i := 3) (j := 1) (by kernel_rfl) hi)).trans (cc.c1 (waits_done (i := 3) (j := 1) (by kernel_rfl) hi))
      obtain ⟨c, h2, h3, h4⟩ := cc.c3
      obtain ⟨c', k2, k3, k4⟩ := cc.c2
      exact wp_rowS 51 (.tmp 5) (.tmp 35) rfl (w.heap.size + 1 + 1 + 1) (c' := ag .u64 8 (fun _ => 0)) ((hF.old (by kernel_rfl)).trans rfl) hv h2 h3 (ag_size _ _ _) (ag_one _ _ _) (by kernel_rfl) ⟨_, rfl, ⟨below_setRow cc.b (by omega) _, cc.qq.set_other _ (by omega), cc.oo.set_other _ (by omega), fun h => cc.c0 (T 0 (by decide) h), fun h => cc.c1 (T 1 (by decide) h), ⟨c', k2.set_other _ (by omega), k3, fun h => k4 (T 2 (by decide) h)⟩, ⟨_, h2.set_same _, ag_size _ _ _, fun _ => rfl⟩⟩⟩
  · intro listed vs a' w' hd hF cc
    obtain ⟨c, h2, h3, h4⟩ := cc.c2
    obtain ⟨c', k2, k3, k4⟩ := cc.c3
    have hx4 : a'.eval (.tmp 4) = .pointer (some ⟨w.heap.size + 1 + 1, 0, none⟩) := (hF.old (by kernel_rfl)).trans rfl
    have hx5 : a'.eval (.tmp 5) = .pointer (some ⟨w.heap.size + 1 + 1 + 1, 0, none⟩) := (hF.old (by kernel_rfl)).trans rfl
    have hr := results_cell2 (P := Try.prog) (fn := Try.f50) rfl a' w' hx4 hx5 h2 k2 h3 k3 Try.underlying50 (by kernel_rfl) Try.underlying51 (by kernel_rfl)
    rw [h4 (hd 2 (by simp)), k4 (hd 3 (by simp))] at hr
    have HR : Hid _ := hr
    have HB : Hid _ := cc.b
    have HD : Hid (a'.defers = []) := hF.1
    clear hr cc hF hx4 hx5 h2 h3 h4 k2 k3 k4
    go_wp2
    exact bodyPost_ret HR.out HD.out ⟨⟨(fun _ => 0), (fun _ => 0), ⟨fun _ _ => D_pos, fun _ _ => D_pos, by rw [vl_of_zero (fun _ _ => rfl), Nat.div_zero], by rw [vl_of_zero (fun _ _ => rfl), if_pos rfl]⟩, rfl⟩, HB.out⟩

set_option maxRecDepth 100000 in
set_option maxHeartbeats 8000000 in
theorem long_one (d m : Nat → Nat) (hm0 : 0 < m 0) (hm : m 0 < D) (hd : ∀ i, i < 16 → d i < D)
    (ct : Hid (∀ w, Calls Try.prog 57 #[A8 m] w fun e w' => e = .returned (.int .i64 1) ∧ Below w.heap.size w w')) (w : World) :
    Calls Try.prog 50 #[A16 d, A8 m] w fun e w' =>
      (∃ q o, LR (vl d 0 16) (m 0) q o ∧ e = .returned (.tuple #[A16 q, A8 o])) ∧ Below w.heap.size w w' := by
  have GD : Hid (0 < m 0 ∧ m 0 < D ∧ ∀ i, i < 16 → d i < D) := ⟨hm0, hm, hd⟩
  have hmz : ¬ ((m 0 : Nat) : Int) = 0 := by omega
  clear hm0 hm hd
  go_enter Try.func50, Try.ntmps50
  go_upto_region 3 with fail
  refine wp_region_lit ?_
  refine wpList_rload' rfl 51 (.tmp 3) rfl (w.heap.size + 1) rfl .u64 8 m (HasRow.old (HasRow.old (HasRow.old (HasRow.old (HasRow.last (by simp)))))) Try.underlying51 (by kernel_rfl) ?_
  go_wp2_with fail
  refine (ct.out _).mono ?_
  rintro e w1 ⟨rfl, hb1⟩
  have F1 : LV w w1 d m (fun _ => 0) (fun _ => 0) := ⟨(HasRow.old (HasRow.old (HasRow.old (HasRow.old (HasRow.old (HasRow.last rfl)))))).below hb1, (HasRow.old (HasRow.old (HasRow.old (HasRow.old (HasRow.last (by simp)))))).below hb1, (HasRow.old (HasRow.old (HasRow.old (HasRow.last (by simp))))).below hb1, (HasRow.old (HasRow.old (HasRow.last (by simp)))).below hb1, (HasRow.old (HasRow.last (by simp))).below hb1, (HasRow.last (by simp)).below hb1, bel_call (by (repeat (first | exact Below.refl _ _ | refine bel_alloc ?_ _))) hb1⟩
  have K1 : Hid _ := F1
  clear hb1
  clear F1
  go_wp2
  go_loopw [9, 10] (fun r i w' => ∃ (t rn : Nat) (q : Nat → Nat), t ≤ 16 ∧ i = .int .i64 ((t : Int) - 1) ∧ r = B rn ∧ LV w w' d m q (fun _ => 0) ∧ L1 d q (m 0) t rn) (fun _ i _ => (intOf i + 1).toNat)
  case atStart => exact ⟨16, 0, fun _ => 0, Nat.le_refl _, rfl, rfl, K1.out, L1.start GD.out.1⟩
  case round =>
    obtain ⟨t, rn, q, ht, rfl, rfl, hS, hL⟩ := hrel
    clear K1
    have KS : Hid _ := hS
    have KL : Hid _ := hL
    clear hL
    rcases t with _ | p
    · rw [show ((0 : Nat) : Int) - 1 = -1 by rfl]
      have hc := hS.oo.cell 0
      rw [ag_get, if_pos (by omega)] at hc
      have hz := hS.oo.frozen 0
      have hl := hS.oo.lt
      clear hS
      go_wp2
      have F2 := KS.out.putO 0 rn
      have K2 : Hid _ := F2
      generalize wr.setCell ⟨w.heap.size + 1 + 1 + 1 + 1 + 1, 0, none⟩ (.int .u64 (rn : Nat)) = w2 at *
      refine wp_region_vals2 (by kernel_rfl) (by kernel_rfl) (by kernel_rfl) (CL w q (upd (fun _ => 0) 0 rn)) ?_ ?_ ?_
      · refine ⟨F2.b.drew, F2.qq, F2.oo, ?_, ?_, ⟨_, F2.r4, ag_size _ _ _, ?_⟩, ⟨_, F2.r5, ag_size _ _ _, ?_⟩⟩ <;> (intro h; simp [Array.getD] at h)
      · intro listed vs a' w' i o' hs ho hi hF cc
        have hi4 : i < 4 := by have := (Array.getElem?_eq_some_iff.1 ho).1; simpa using this
        have hcase : i = 0 ∨ i = 1 ∨ i = 2 ∨ i = 3 := by omega
        rcases hcase with rfl | rfl | rfl | rfl
        · simp at ho
          subst ho
          have T : ∀ j, j ≠ 0 → (listed.setIfInBounds 0 true).getD j false = true → listed.getD j false = true := fun j hj h => (done_set h).resolve_left hj
          exact wp_rowF 50 (.tmp 6) rfl (w.heap.size + 1 + 1 + 1 + 1) ((hF.old (by kernel_rfl)).trans rfl) cc.qq (ag_size _ _ _) Try.underlying50 (by kernel_rfl) ⟨_, rfl, ⟨cc.b, cc.qq, cc.oo, fun _ => rfl, fun h => cc.c1 (T 1 (by decide) h), by obtain ⟨c, h2, h3, h4⟩ := cc.c2; exact ⟨c, h2, h3, fun h => h4 (T 2 (by decide) h)⟩, by obtain ⟨c, h2, h3, h4⟩ := cc.c3; exact ⟨c, h2, h3, fun h => h4 (T 3 (by decide) h)⟩⟩⟩
        · simp at ho
          subst ho
          have T : ∀ j, j ≠ 1 → (listed.setIfInBounds 1 true).getD j false = true → listed.getD j false = true := fun j hj h => (done_set h).resolve_left hj
          exact wp_rowF 51 (.tmp 7) rfl (w.heap.size + 1 + 1 + 1 + 1 + 1) ((hF.old (by kernel_rfl)).trans rfl) cc.oo (ag_size _ _ _) Try.underlying51 (by kernel_rfl) ⟨_, rfl, ⟨cc.b, cc.qq, cc.oo, fun h => cc.c0 (T 0 (by decide) h), fun _ => rfl, by obtain ⟨c, h2, h3, h4⟩ := cc.c2; exact ⟨c, h2, h3, fun h => h4 (T 2 (by decide) h)⟩, by obtain ⟨c, h2, h3, h4⟩ := cc.c3; exact ⟨c, h2, h3, fun h => h4 (T 3 (by decide) h)⟩⟩⟩
        · simp at ho
          subst ho
          have T : ∀ j, j ≠ 2 → (listed.setIfInBounds 2 true).getD j false = true → listed.getD j false = true := fun j hj h => (done_set h).resolve_left hj
          have hv := (hF.new (t := 60) (i := 0) (by kernel_rfl) (by simp) (waits_done (i := 2) (j := 0) (by kernel_rfl) hi)).trans (cc.c0 (waits_done (i := 2) (j := 0) (by kernel_rfl) hi))
          obtain ⟨c, h2, h3, h4⟩ := cc.c2
          obtain ⟨c', k2, k3, k4⟩ := cc.c3
          exact wp_rowS 50 (.tmp 4) (.tmp 60) rfl (w.heap.size + 1 + 1) (c' := ag .u64 16 q) ((hF.old (by kernel_rfl)).trans rfl) hv h2 h3 (ag_size _ _ _) (ag_one _ _ _) (by kernel_rfl) ⟨_, rfl, ⟨below_setRow cc.b (by omega) _, cc.qq.set_other _ (by omega), cc.oo.set_other _ (by omega), fun h => cc.c0 (T 0 (by decide) h), fun h => cc.c1 (T 1 (by decide) h), ⟨_, h2.set_same _, ag_size _ _ _, fun _ => rfl⟩, ⟨c', k2.set_other _ (by omega), k3, fun h => k4 (T 3 (by decide) h)⟩⟩⟩
        · simp at ho
          subst ho
          have T : ∀ j, j ≠ 3 → (listed.setIfInBounds 3 true).getD j false = true → listed.getD j false = true := fun j hj h => (done_set h).resolve_left hj
          have hv := (hF.new (t := 61) (i := 1) (by kernel_rfl) (by simp) (waits_done (i := 3) (j := 1) (by kernel_rfl) hi)).trans (cc.c1 (waits_done (i := 3) (j := 1) (by kernel_rfl) hi))
          obtain ⟨c, h2, h3, h4⟩ := cc.c3
          obtain ⟨c', k2, k3, k4⟩ := cc.c2
          exact wp_rowS 51 (.tmp 5) (.tmp 61) rfl (w.heap.size + 1 + 1 + 1) (c' := ag .u64 8 (upd (fun _ => 0) 0 rn)) ((hF.old (by kernel_rfl)).trans rfl) hv h2 h3 (ag_size _ _ _) (ag_one _ _ _) (by kernel_rfl) ⟨_, rfl, ⟨below_setRow cc.b (by omega) _, cc.qq.set_other _ (by omega), cc.oo.set_other _ (by omega), fun h => cc.c0 (T 0 (by decide) h), fun h => cc.c1 (T 1 (by decide) h), ⟨c', k2.set_other _ (by omega), k3, fun h => k4 (T 2 (by decide) h)⟩, ⟨_, h2.set_same _, ag_size _ _ _, fun _ => rfl⟩⟩⟩
      · intro listed vs a' w' hd hF cc
        obtain ⟨c, h2, h3, h4⟩ := cc.c2
        obtain ⟨c', k2, k3, k4⟩ := cc.c3
        have hx4 : a'.eval (.tmp 4) = .pointer (some ⟨w.heap.size + 1 + 1, 0, none⟩) := (hF.old (by kernel_rfl)).trans rfl
        have hx5 : a'.eval (.tmp 5) = .pointer (some ⟨w.heap.size + 1 + 1 + 1, 0, none⟩) := (hF.old (by kernel_rfl)).trans rfl
        have hr := results_cell2 (P := Try.prog) (fn := Try.f50) rfl a' w' hx4 hx5 h2 k2 h3 k3 Try.underlying50 (by kernel_rfl) Try.underlying51 (by kernel_rfl)
        rw [h4 (hd 2 (by simp)), k4 (hd 3 (by simp))] at hr
        have HR : Hid _ := hr
        have HB : Hid _ := cc.b
        have HD : Hid (a'.defers = []) := hF.1
        clear hr cc hF hx4 hx5 h2 h3 h4 k2 k3 k4
        go_wp2
        exact bodyPost_ret HR.out HD.out ⟨⟨q, (upd (fun _ => 0) 0 rn), KL.out.end GD.out.2.1, rfl⟩, HB.out⟩

    · rw [show ((p + 1 : Nat) : Int) - 1 = (p : Int) by omega]
      have hc1 := hS.dd.cell p
      rw [ag_get, if_pos (by omega)] at hc1
      have hc2 := hS.mm.cell 0
      rw [ag_get, if_pos (by omega)] at hc2
      have hc3 := hS.qq.cell p
      rw [ag_get, if_pos (by omega)] at hc3
      have hz := hS.qq.frozen p
      have hl := hS.qq.lt
      clear hS
      go_wp2
      go_roundw
      case rel =>
        obtain ⟨g1, g2, g3⟩ := GD.out
        have L := KL.out
        obtain ⟨n1, n2, n3⟩ := num_one (Nat.lt_trans L.hr g2) (g3 p (by omega)) g1
        refine ⟨p, _, _, by omega, rfl, ?_, ?_, L.step (by omega) g2 (g3 p (by omega))⟩
        · rw [n2]
        · rw [n3]
          exact KS.out.putQ p _
      case measure => simp [intOf]; try omega
end Go.Proofs.Ytbfgeinneglpdaa
