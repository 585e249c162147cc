import Derived.Test.YtbfgeinneglpdaaTk
import Derived.Test.YtbfgeinneglpdaaNx
import Derived.Test.YtbfgeinneglpdaaCa
namespace Go.Proofs.Ytbfgeinneglpdaa
open Go.RowKit
set_option linter.unusedVariables false
attribute [local go_sem] setCell_drewN

structure PK (f f' g : Nat → Nat) (k j c : Nat) : Prop where
  hc : c ≤ 1
  hf : ∀ i, i < 17 → f' i < D
  ho : ∀ i, i < k ∨ k + j ≤ i → f' i = f i
  hv : vl f' k j + c * D ^ j = vl f k j + vl g 0 j
theorem PK.start {f g : Nat → Nat} {k : Nat} (hf : ∀ i, i < 17 → f i < D) : PK f f g k 0 0 :=
  ⟨Nat.zero_le _, hf, fun _ _ => rfl, by simp [vl]⟩
theorem PK.step {f f' g : Nat → Nat} {k j c : Nat} (h : PK f f' g k j c) (hc' : (c + (f' (k + j) + g j)) / D ≤ 1) :
    PK f (upd f' (k + j) ((c + (f' (k + j) + g j)) % D)) g k (j + 1) ((c + (f' (k + j) + g j)) / D) where
  hc := hc'
  hf := upd_lt h.hf (Nat.mod_lt _ D_pos)
  ho i hi := by rw [upd_other _ _ _ (by omega)]; exact h.ho i (by omega)
  hv := by have := put_step h.hv; rw [h.ho (k + j) (by omega)]; exact this
structure PO (f f' g : Nat → Nat) (k n t : Nat) : Prop where
  hf : ∀ i, i < 17 → f' i < D
  ho : ∀ i, i < k ∨ k + n < i → f' i = f i
  hv : vl f' k (n + 1) + t * D ^ (n + 1) = vl f k (n + 1) + vl g 0 n
theorem PK.stop {f f' g : Nat → Nat} {k n c : Nat} (h : PK f f' g k n c) : PO f (upd f' (k + n) ((c + f' (k + n)) % D)) g k n ((c + f' (k + n)) / D) where
  hf := upd_lt h.hf (Nat.mod_lt _ D_pos)
  ho i hi := by rw [upd_other _ _ _ (by omega)]; exact h.ho i (by omega)
  hv := by have := put_end h.hv; rw [h.ho (k + n) (by omega)]; exact this

set_option maxRecDepth 100000 in
set_option maxHeartbeats 4000000 in
theorem put_raw (f g : Nat → Nat) (k n : Nat) (hn : n ≤ 8) (hk : k + n < 17) (hf : ∀ i, i < 17 → f i < D) (hg : ∀ i, i < 8 → g i < D) (w : World) :
    Calls Try.prog 63 #[L17 f, L8 g, .int .i64 (k : Int), .int .i64 (n : Int)] w fun e w' =>
      (∃ f' t, e = .returned (.tuple #[L17 f', .bool (decide (t ≠ 0))]) ∧ t ≤ 1 ∧ PO f f' g k n t) ∧ Below w.heap.size w w' := by
  have S : Hid (PK f f g k 0 0) := PK.start hf
  have G : Hid (∀ i, i < 8 → g i < D) := hg
  clear hf hg
  go_enter Try.func63, Try.ntmps63
  go_wp2
  go_loopw [10, 13] (fun c i w' => ∃ (j cn nq : Nat) (f' : Nat → Nat), j ≤ n ∧ i = .int .i64 (j : Int) ∧ c = B cn ∧ w' = (((w.alloc (Obj.cells (ag IntKind.u32 17 f') 69)).alloc (Obj.cells (ag IntKind.u32 8 g) 66)).alloc
      (Obj.cells z17 69)).drewN nq ∧ PK f f' g k j cn) (fun _ i _ => n - (intOf i).toNat)
  case atStart =>
    exact ⟨0, 0, 0, f, Nat.zero_le _, rfl, rfl, rfl, S.out⟩
  case round =>
    obtain ⟨j, cn, nq, f', hj, rfl, rfl, rfl, hT⟩ := hrel
    have HT : Hid _ := hT
    clear hT
    by_cases hlt : j < n
    · have hc1 : (ag .u32 17 f')[k + j]? = some (.int .u32 (f' (k + j) : Nat)) := by rw [ag_get, if_pos (by omega)]
      have hc2 : (ag .u32 8 g)[j]? = some (.int .u32 (g j : Nat)) := by rw [ag_get, if_pos (by omega)]
      go_wp2
      go_region
      go_wp2
      go_roundw
      case rel =>
        have T := HT.out
        obtain ⟨e1, e2⟩ := num_add3 T.hc (T.hf (k + j) (by omega)) (G.out j (by omega))
        refine ⟨j + 1, _, nq + 1, _, by omega, by go_num, ?_, ?_, T.step e2⟩
        · rw [e1, cast_div]
        · rw [e1, cast_mod, ag_set]; try rfl
      case measure => simp [intOf]; omega
    · have hjn : j = n := by omega
      subst hjn
      have hc1 : (ag .u32 17 f')[k + j]? = some (.int .u32 (f' (k + j) : Nat)) := by rw [ag_get, if_pos (by omega)]
      go_upto_region 11 with fail
      have T := HT.out
      obtain ⟨e4, e6⟩ := num_add2 T.hc (T.hf (k + j) (by omega))
      rw [e4, cast_mod, ag_set]
      have F : Hid _ := T.stop
      have E6 : Hid _ := e6
      clear e4 e6 T HT hc1 S
      generalize upd f' (k + j) ((cn + f' (k + j)) % D) = h at *
      generalize cn + f' (k + j) = y at *
      refine wp_region_lit ?_
      refine wpList_vload rfl 69 (.tmp 4) rfl w.heap.size rfl .u32 17 h (HasRow.drewN (HasRow.old (HasRow.old (HasRow.last rfl))) nq) Try.underlying69 (by kernel_rfl) ?_
      intro v hv
      have hsz := hv.size
      have hsc := run_storeCells_v (P := Try.prog) hv (g := w.heap.size + 1 + 1) 69 (by kernel_rfl) (StoreTo.drewN (StoreTo.last (w := (w.alloc (Obj.cells (ag IntKind.u32 17 h) 69)).alloc (Obj.cells (ag IntKind.u32 8 g) 66)) (c := z17) (t := 69) (by simp) (by rfl)) nq)
      clear hv
      go_wp2
      have hld := run_load_to (P := Try.prog) (k := .u32) (f := h) 69 Try.underlying69 (by kernel_rfl) (HasRow.drewN (HasRow.last (w := (w.alloc (Obj.cells (ag IntKind.u32 17 h) 69)).alloc (Obj.cells (ag IntKind.u32 8 g) 66)) (t := 69) (n := w.heap.size + 1 + 1) (by simp)) nq)
      refine bodyPost_ret (v := .tuple #[L17 h, .bool (decide (y / D ≠ 0))]) ?_ rfl ⟨⟨h, _, rfl, E6.out, F.out⟩, ?_⟩
      · rw [results_cell_tmp rfl]
        simp only [asAddr, Result.andThen]
        simp [hld, cast_div]
        try (rw [Bool.eq_iff_iff]; simp; unfold D; omega)
      · (repeat (first | exact Below.refl _ _ | apply Below.drew | apply below_drewN | refine bel_alloc ?_ _))
end Go.Proofs.Ytbfgeinneglpdaa
