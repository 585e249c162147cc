/- Contract of the document's Wide. -/
import Derived.Test.YtpdoonofipcbeaaDoorXsQa
import Derived.Test.YtpdoonofipcbeaaDoorXsMB
namespace Go.Proofs.YtpdoonofipcbeaaDoor
open Go.RowKit Go.Sort
set_option linter.unusedVariables false
attribute [local go_sem] setCell_drewN
abbrev A4 (X : Nat → Nat) : Value := .agg (ag .u64 4 X)
structure CR (w : World) (bo : Nat) (f : Nat → Nat) (listed : Array Bool) (vs : Nat → Value) (w' : World) : Prop where
  b : Below w.heap.size w w'
  o : HasRow w' bo (ag .u64 8 f)
  c0 : listed.getD 0 false = true → vs 0 = .pointer (some ⟨bo, 4, none⟩)
  c1 : listed.getD 1 false = true → vs 1 = B (f 4)
  c2 : listed.getD 2 false = true → vs 2 = .pointer (some ⟨bo, 5, none⟩)
  c3 : listed.getD 3 false = true → vs 3 = B (f 5)
  c4 : listed.getD 4 false = true → vs 4 = .pointer (some ⟨bo, 6, none⟩)
  c5 : listed.getD 5 false = true → vs 5 = B (f 6)
  c6 : listed.getD 6 false = true → vs 6 = .pointer (some ⟨bo, 7, none⟩)
  c7 : listed.getD 7 false = true → vs 7 = B (f 7)
  c8 : listed.getD 8 false = true → vs 8 = .agg #[B (f 4), B (f 5), B (f 6), B (f 7)]
  c9 : listed.getD 9 false = true → vs 9 = .pointer (some ⟨bo, 0, none⟩)
  c10 : listed.getD 10 false = true → vs 10 = B (f 0)
  c11 : listed.getD 11 false = true → vs 11 = .pointer (some ⟨bo, 1, none⟩)
  c12 : listed.getD 12 false = true → vs 12 = B (f 1)
  c13 : listed.getD 13 false = true → vs 13 = .pointer (some ⟨bo, 2, none⟩)
  c14 : listed.getD 14 false = true → vs 14 = B (f 2)
  c15 : listed.getD 15 false = true → vs 15 = .pointer (some ⟨bo, 3, none⟩)
  c16 : listed.getD 16 false = true → vs 16 = B (f 3)
  c17 : listed.getD 17 false = true → vs 17 = .agg #[B (f 0), B (f 1), B (f 2), B (f 3)]
  c18 : ∃ c, HasRow w' (w.heap.size + 1 + 1) c ∧ c.size = 4 ∧ (listed.getD 18 false = true → c = #[B (f 4), B (f 5), B (f 6), B (f 7)])
  c19 : ∃ c, HasRow w' (w.heap.size + 1 + 1 + 1) c ∧ c.size = 4 ∧ (listed.getD 19 false = true → c = #[B (f 0), B (f 1), B (f 2), B (f 3)])
theorem num_q {f c x y hi lo : Nat} (hf : f < M) (hc : c < M) (hx : x < M) (hy : y < M) (hlo : lo < M) (hp : M * hi + lo = x * y) :
    IntKind.u64.wrap (IntKind.u64.wrap ((hi : Int) + (cy lo c 0 : Nat)) + (cy f (sm lo c 0) 0 : Nat)) = ((hi + cy lo c 0 + cy f (sm lo c 0) 0 : Nat) : Int) ∧ hi + cy lo c 0 + cy f (sm lo c 0) 0 < M
    ∧ sm f (sm lo c 0) 0 + M * (hi + cy lo c 0 + cy f (sm lo c 0) 0) = f + c + x * y := by
  have s1 := sm_cy lo c 0 hlo hc (by omega)
  have s2 := sm_cy f (sm lo c 0) 0 hf (sm_lt _ _ _) (by omega)
  have b : x * y ≤ (M - 1) * (M - 1) := Nat.mul_le_mul (by omega) (by omega)
  have e : sm f (sm lo c 0) 0 + M * (hi + cy lo c 0 + cy f (sm lo c 0) 0) = f + c + x * y := by
    rw [Nat.mul_add, Nat.mul_add]
    omega
  have hlt : hi + cy lo c 0 + cy f (sm lo c 0) 0 < M := by
    have hM : (M - 1) * (M - 1) + (M - 1) + (M - 1) < M * M := by decide +kernel
    have : M * (hi + cy lo c 0 + cy f (sm lo c 0) 0) < M * M := by omega
    exact Nat.lt_of_mul_lt_mul_left this
  refine ⟨?_, hlt, e⟩
  simp only [IntKind.wrap_u64]
  generalize cy lo c 0 = c1 at *
  generalize cy f (sm lo c 0) 0 = c2 at *
  clear e s1 s2 b hp
  unfold M at hlt
  omega
set_option maxRecDepth 100000 in
set_option maxHeartbeats 8000000 in
theorem rwide_raw (X Y : Nat → Nat) (hX : ∀ i, i < 4 → X i < M) (hY : ∀ i, i < 4 → Y i < M) (w : World) :
    Calls Tryd.prog 56 #[A4 X, A4 Y] w fun e w' =>
      (∃ f, OQ f X Y 4 ∧ e = .returned (.tuple #[U4 (f 4) (f 5) (f 6) (f 7), U4 (f 0) (f 1) (f 2) (f 3)])) ∧ Below w.heap.size w w' := by
  have GX : Hid _ := hX
  have GY : Hid _ := hY
  clear hX hY
  go_enter Tryd.func56, Tryd.ntmps56
  go_wp2
  go_loopw [7] (fun i w' => ∃ (j nq : Nat) (f : Nat → Nat), j ≤ 4 ∧ i = .int .i64 (j : Int) ∧ w' = (((((w.alloc (Obj.cells (ag .u64 4 X) 24)).alloc (Obj.cells (ag .u64 4 Y) 24)).alloc (Obj.cells #[.int .u64 0, .int .u64 0, .int .u64 0, .int .u64 0] 24)).alloc (Obj.cells #[.int .u64 0, .int .u64 0, .int .u64 0, .int .u64 0] 24)).alloc (Obj.cells (ag .u64 8 f) 95)).drewN nq ∧ OQ f X Y j) (fun i _ => 4 - (intOf i).toNat)
  case atStart => exact ⟨0, 0, fun _ => 0, by omega, rfl, rfl, OQ.start X Y⟩
  case round =>
    obtain ⟨j, nq, f, hj, rfl, rfl, hO⟩ := hrel
    have KO : Hid _ := hO
    clear hO
    by_cases hlt : j < 4
    · have hx : (ag .u64 4 X)[j]? = some (.int .u64 (X j : Nat)) := by rw [ag_get, if_pos hlt]
      go_wp2
      go_loopw [8, 9] (fun c i w' => ∃ (l cn nq : Nat) (f' : Nat → Nat), l ≤ 4 ∧ i = .int .i64 (l : Int) ∧ c = B cn ∧ w' = (((((w.alloc (Obj.cells (ag .u64 4 X) 24)).alloc (Obj.cells (ag .u64 4 Y) 24)).alloc (Obj.cells #[.int .u64 0, .int .u64 0, .int .u64 0, .int .u64 0] 24)).alloc (Obj.cells #[.int .u64 0, .int .u64 0, .int .u64 0, .int .u64 0] 24)).alloc (Obj.cells (ag .u64 8 f') 95)).drewN nq ∧ MQ f f' X Y j l cn) (fun _ i _ => 4 - (intOf i).toNat)
      case atStart => exact ⟨0, 0, nq, f, by omega, rfl, rfl, rfl, MQ.start KO.out.hf⟩
      case round =>
        obtain ⟨l, cn, nq', f', hl, rfl, rfl, rfl, hM⟩ := hrel
        have KM : Hid _ := hM
        clear hM
        by_cases hlt2 : l < 4
        · have hy : (ag .u64 4 Y)[l]? = some (.int .u64 (Y l : Nat)) := by rw [ag_get, if_pos hlt2]
          have hc1 : (ag .u64 8 f')[j + l]? = some (.int .u64 (f' (j + l) : Nat)) := by rw [ag_get, if_pos (by omega)]
          have hM := KM.out
          have e1 := run_add0 (X j * Y l % M) cn (Nat.mod_lt _ M_pos) hM.hc
          have e2 := run_add0 (f' (j + l)) (sm (X j * Y l % M) cn 0) (hM.hf _ (by omega)) (sm_lt _ _ _)
          clear hM
          have c21 := mul64_any (X j) (Y l) (GX.out j hlt) (GY.out l hlt2)
          have hP : Hid (M * (X j * Y l / M) + X j * Y l % M = X j * Y l ∧ X j * Y l % M < M) := ⟨Nat.div_add_mod _ _, Nat.mod_lt _ M_pos⟩
          generalize X j * Y l / M = hi at *
          generalize X j * Y l % M = lo at *
          go_wp2
          go_quiet ((first | exact Calls.quiet_of_same (c21 _) | (go_at_call 57; exact Calls.quiet_of_same (c21 _)) | exact (c21 _).mono (fun _ _ h => ⟨h.1, _, h.2⟩)))
          go_wp2
          go_roundw
          case rel =>
            have hM := KM.out
            obtain ⟨n1, n2, n3⟩ := num_q (hM.hf (j + l) (by omega)) hM.hc (GX.out j hlt) (GY.out l hlt2) hP.out.2 hP.out.1
            refine ⟨l + 1, _, nq' + nq, _, by omega, by go_num, ?_, ?_, hM.step (sm_lt _ _ _) n2 n3⟩
            · rw [n1]
            · rw [ag_set]; try rfl
          case measure => simp [intOf]; try omega
        · have hl8 : l = 4 := by omega
          subst hl8
          have hc1 : (ag .u64 8 f')[j + 4]? = some (.int .u64 (f' (j + 4) : Nat)) := by rw [ag_get, if_pos (by omega)]
          go_wp2
          go_roundw
          case rel =>
            refine ⟨j + 1, nq', _, by omega, by go_num, ?_, KO.out.step hlt KM.out⟩
            rw [ag_set]
          case measure => simp [intOf]; try omega
    · have hj8 : j = 4 := by omega
      subst hj8
      go_wp2
      have o1 := HasRow.drewN (HasRow.last (w := ((((w.alloc (Obj.cells (ag .u64 4 X) 24)).alloc (Obj.cells (ag .u64 4 Y) 24)).alloc (Obj.cells #[.int .u64 0, .int .u64 0, .int .u64 0, .int .u64 0] 24)).alloc (Obj.cells #[.int .u64 0, .int .u64 0, .int .u64 0, .int .u64 0] 24))) (c := ag .u64 8 f) (t := 95) (n := w.heap.size + 1 + 1 + 1 + 1) (by simp)) nq
      have o5 := HasRow.drewN (HasRow.old (o := Obj.cells (ag .u64 8 f) 95) (HasRow.last (w := (((w.alloc (Obj.cells (ag .u64 4 X) 24)).alloc (Obj.cells (ag .u64 4 Y) 24)).alloc (Obj.cells #[.int .u64 0, .int .u64 0, .int .u64 0, .int .u64 0] 24))) (c := #[.int .u64 0, .int .u64 0, .int .u64 0, .int .u64 0]) (t := 24) (n := w.heap.size + 1 + 1 + 1) (by simp))) nq
      have o4 := HasRow.drewN (HasRow.old (o := Obj.cells (ag .u64 8 f) 95) (HasRow.old (o := Obj.cells #[.int .u64 0, .int .u64 0, .int .u64 0, .int .u64 0] 24) (HasRow.last (w := ((w.alloc (Obj.cells (ag .u64 4 X) 24)).alloc (Obj.cells (ag .u64 4 Y) 24))) (c := #[.int .u64 0, .int .u64 0, .int .u64 0, .int .u64 0]) (t := 24) (n := w.heap.size + 1 + 1) (by simp)))) nq
      have ob : Below w.heap.size w ((((((w.alloc (Obj.cells (ag .u64 4 X) 24)).alloc (Obj.cells (ag .u64 4 Y) 24)).alloc (Obj.cells #[.int .u64 0, .int .u64 0, .int .u64 0, .int .u64 0] 24)).alloc (Obj.cells #[.int .u64 0, .int .u64 0, .int .u64 0, .int .u64 0] 24)).alloc (Obj.cells (ag .u64 8 f) 95)).drewN nq) := by (repeat (first | exact Below.refl _ _ | apply below_drewN | refine bel_alloc ?_ _))
      generalize (((((w.alloc (Obj.cells (ag .u64 4 X) 24)).alloc (Obj.cells (ag .u64 4 Y) 24)).alloc (Obj.cells #[.int .u64 0, .int .u64 0, .int .u64 0, .int .u64 0] 24)).alloc (Obj.cells #[.int .u64 0, .int .u64 0, .int .u64 0, .int .u64 0] 24)).alloc (Obj.cells (ag .u64 8 f) 95)).drewN nq = wr' at *
      have hbo : w.heap.size + 1 + 1 + 1 < w.heap.size + 1 + 1 + 1 + 1 := by omega
      generalize w.heap.size + 1 + 1 + 1 + 1 = bo at *
      refine wp_region_vals2 (by kernel_rfl) (by kernel_rfl) (by kernel_rfl) (CR w bo f) ?_ ?_ ?_
      · refine ⟨ob.drew, o1, ?_, ?_, ?_, ?_, ?_, ?_, ?_, ?_, ?_, ?_, ?_, ?_, ?_, ?_, ?_, ?_, ?_, ?_, ⟨_, o4, rfl, ?_⟩, ⟨_, o5, rfl, ?_⟩⟩ <;> (intro h; simp [Array.getD] at h)
      · intro listed vs a' w' i o hs ho hi hF cc
        have hi20 : i < 20 := by have := (Array.getElem?_eq_some_iff.1 ho).1; simpa using this
        have hcase : i = 0 ∨ i = 1 ∨ i = 2 ∨ i = 3 ∨ i = 4 ∨ i = 5 ∨ i = 6 ∨ i = 7 ∨ i = 8 ∨ i = 9 ∨ i = 10 ∨ i = 11 ∨ i = 12 ∨ i = 13 ∨ i = 14 ∨ i = 15 ∨ i = 16 ∨ i = 17 ∨ i = 18 ∨ i = 19 := by omega
        rcases hcase with rfl | rfl | rfl | rfl | rfl | rfl | rfl | rfl | rfl | rfl | rfl | rfl | rfl | rfl | rfl | rfl | rfl | rfl | rfl | rfl
        · simp at ho
          subst ho
          have T : ∀ j, j ≠ 0 → (listed.setIfInBounds 0 true).getD j false = true → listed.getD j false = true := fun j hj h => (done_set h).resolve_left hj
          have hv : a'.eval (.tmp 6) = .pointer (some ⟨bo, 0, none⟩) := (hF.old (by kernel_rfl)).trans rfl
          refine wp_valF (v := .pointer (some ⟨bo, 4, none⟩)) (w1 := w') (by simp [execOp, go_sem, ev hv]) ⟨_, rfl, ⟨cc.b, cc.o, fun _ => rfl, fun h => cc.c1 (T 1 (by decide) h), fun h => cc.c2 (T 2 (by decide) h), fun h => cc.c3 (T 3 (by decide) h), fun h => cc.c4 (T 4 (by decide) h), fun h => cc.c5 (T 5 (by decide) h), fun h => cc.c6 (T 6 (by decide) h), fun h => cc.c7 (T 7 (by decide) h), fun h => cc.c8 (T 8 (by decide) h), fun h => cc.c9 (T 9 (by decide) h), fun h => cc.c10 (T 10 (by decide) h), fun h => cc.c11 (T 11 (by decide) h), fun h => cc.c12 (T 12 (by decide) h), fun h => cc.c13 (T 13 (by decide) h), fun h => cc.c14 (T 14 (by decide) h), fun h => cc.c15 (T 15 (by decide) h), fun h => cc.c16 (T 16 (by decide) h), fun h => cc.c17 (T 17 (by decide) h), by obtain ⟨c, h2, h3, h4⟩ := cc.c18; exact ⟨c, h2, h3, fun h => h4 (T 18 (by decide) h)⟩, by obtain ⟨c, h2, h3, h4⟩ := cc.c19; exact ⟨c, h2, h3, fun h => h4 (T 19 (by decide) h)⟩⟩⟩
        · simp at ho
          subst ho
          have T : ∀ j, j ≠ 1 → (listed.setIfInBounds 1 true).getD j false = true → listed.getD j false = true := fun j hj h => (done_set h).resolve_left hj
          have hv := ((hF.new (t := 64) (i := 0) (by kernel_rfl) (by simp) (waits_done (i := 1) (j := 0) (by kernel_rfl) hi)).trans (cc.c0 (waits_done (i := 1) (j := 0) (by kernel_rfl) hi)))
          have hce := cc.o.cell 4
          rw [ag_get, if_pos (by omega)] at hce
          refine wp_valF (v := B (f 4)) (w1 := w') (by simp [execOp, go_sem, ev hv, hce]) ⟨_, rfl, ⟨cc.b, cc.o, fun h => cc.c0 (T 0 (by decide) h), fun _ => rfl, fun h => cc.c2 (T 2 (by decide) h), fun h => cc.c3 (T 3 (by decide) h), fun h => cc.c4 (T 4 (by decide) h), fun h => cc.c5 (T 5 (by decide) h), fun h => cc.c6 (T 6 (by decide) h), fun h => cc.c7 (T 7 (by decide) h), fun h => cc.c8 (T 8 (by decide) h), fun h => cc.c9 (T 9 (by decide) h), fun h => cc.c10 (T 10 (by decide) h), fun h => cc.c11 (T 11 (by decide) h), fun h => cc.c12 (T 12 (by decide) h), fun h => cc.c13 (T 13 (by decide) h), fun h => cc.c14 (T 14 (by decide) h), fun h => cc.c15 (T 15 (by decide) h), fun h => cc.c16 (T 16 (by decide) h), fun h => cc.c17 (T 17 (by decide) h), by obtain ⟨c, h2, h3, h4⟩ := cc.c18; exact ⟨c, h2, h3, fun h => h4 (T 18 (by decide) h)⟩, by obtain ⟨c, h2, h3, h4⟩ := cc.c19; exact ⟨c, h2, h3, fun h => h4 (T 19 (by decide) h)⟩⟩⟩
        · simp at ho
          subst ho
          have T : ∀ j, j ≠ 2 → (listed.setIfInBounds 2 true).getD j false = true → listed.getD j false = true := fun j hj h => (done_set h).resolve_left hj
          have hv : a'.eval (.tmp 6) = .pointer (some ⟨bo, 0, none⟩) := (hF.old (by kernel_rfl)).trans rfl
          refine wp_valF (v := .pointer (some ⟨bo, 5, none⟩)) (w1 := w') (by simp [execOp, go_sem, ev hv]) ⟨_, rfl, ⟨cc.b, cc.o, fun h => cc.c0 (T 0 (by decide) h), fun h => cc.c1 (T 1 (by decide) h), fun _ => rfl, fun h => cc.c3 (T 3 (by decide) h), fun h => cc.c4 (T 4 (by decide) h), fun h => cc.c5 (T 5 (by decide) h), fun h => cc.c6 (T 6 (by decide) h), fun h => cc.c7 (T 7 (by decide) h), fun h => cc.c8 (T 8 (by decide) h), fun h => cc.c9 (T 9 (by decide) h), fun h => cc.c10 (T 10 (by decide) h), fun h => cc.c11 (T 11 (by decide) h), fun h => cc.c12 (T 12 (by decide) h), fun h => cc.c13 (T 13 (by decide) h), fun h => cc.c14 (T 14 (by decide) h), fun h => cc.c15 (T 15 (by decide) h), fun h => cc.c16 (T 16 (by decide) h), fun h => cc.c17 (T 17 (by decide) h), by obtain ⟨c, h2, h3, h4⟩ := cc.c18; exact ⟨c, h2, h3, fun h => h4 (T 18 (by decide) h)⟩, by obtain ⟨c, h2, h3, h4⟩ := cc.c19; exact ⟨c, h2, h3, fun h => h4 (T 19 (by decide) h)⟩⟩⟩
        · simp at ho
          subst ho
          have T : ∀ j, j ≠ 3 → (listed.setIfInBounds 3 true).getD j false = true → listed.getD j false = true := fun j hj h => (done_set h).resolve_left hj
          have hv := ((hF.new (t := 66) (i := 2) (by kernel_rfl) (by simp) (waits_done (i := 3) (j := 2) (by kernel_rfl) hi)).trans (cc.c2 (waits_done (i := 3) (j := 2) (by kernel_rfl) hi)))
          have hce := cc.o.cell 5
          rw [ag_get, if_pos (by omega)] at hce
          refine wp_valF (v := B (f 5)) (w1 := w') (by simp [execOp, go_sem, ev hv, hce]) ⟨_, rfl, ⟨cc.b, cc.o, fun h => cc.c0 (T 0 (by decide) h), fun h => cc.c1 (T 1 (by decide) h), fun h => cc.c2 (T 2 (by decide) h), fun _ => rfl, fun h => cc.c4 (T 4 (by decide) h), fun h => cc.c5 (T 5 (by decide) h), fun h => cc.c6 (T 6 (by decide) h), fun h => cc.c7 (T 7 (by decide) h), fun h => cc.c8 (T 8 (by decide) h), fun h => cc.c9 (T 9 (by decide) h), fun h => cc.c10 (T 10 (by decide) h), fun h => cc.c11 (T 11 (by decide) h), fun h => cc.c12 (T 12 (by decide) h), fun h => cc.c13 (T 13 (by decide) h), fun h => cc.c14 (T 14 (by decide) h), fun h => cc.c15 (T 15 (by decide) h), fun h => cc.c16 (T 16 (by decide) h), fun h => cc.c17 (T 17 (by decide) h), by obtain ⟨c, h2, h3, h4⟩ := cc.c18; exact ⟨c, h2, h3, fun h => h4 (T 18 (by decide) h)⟩, by obtain ⟨c, h2, h3, h4⟩ := cc.c19; exact ⟨c, h2, h3, fun h => h4 (T 19 (by decide) h)⟩⟩⟩
        · simp at ho
          subst ho
          have T : ∀ j, j ≠ 4 → (listed.setIfInBounds 4 true).getD j false = true → listed.getD j false = true := fun j hj h => (done_set h).resolve_left hj
          have hv : a'.eval (.tmp 6) = .pointer (some ⟨bo, 0, none⟩) := (hF.old (by kernel_rfl)).trans rfl
          refine wp_valF (v := .pointer (some ⟨bo, 6, none⟩)) (w1 := w') (by simp [execOp, go_sem, ev hv]) ⟨_, rfl, ⟨cc.b, cc.o, fun h => cc.c0 (T 0 (by decide) h), fun h => cc.c1 (T 1 (by decide) h), fun h => cc.c2 (T 2 (by decide) h), fun h => cc.c3 (T 3 (by decide) h), fun _ => rfl, fun h => cc.c5 (T 5 (by decide) h), fun h => cc.c6 (T 6 (by decide) h), fun h => cc.c7 (T 7 (by decide) h), fun h => cc.c8 (T 8 (by decide) h), fun h => cc.c9 (T 9 (by decide) h), fun h => cc.c10 (T 10 (by decide) h), fun h => cc.c11 (T 11 (by decide) h), fun h => cc.c12 (T 12 (by decide) h), fun h => cc.c13 (T 13 (by decide) h), fun h => cc.c14 (T 14 (by decide) h), fun h => cc.c15 (T 15 (by decide) h), fun h => cc.c16 (T 16 (by decide) h), fun h => cc.c17 (T 17 (by decide) h), by obtain ⟨c, h2, h3, h4⟩ := cc.c18; exact ⟨c, h2, h3, fun h => h4 (T 18 (by decide) h)⟩, by obtain ⟨c, h2, h3, h4⟩ := cc.c19; exact ⟨c, h2, h3, fun h => h4 (T 19 (by decide) h)⟩⟩⟩
        · simp at ho
          subst ho
          have T : ∀ j, j ≠ 5 → (listed.setIfInBounds 5 true).getD j false = true → listed.getD j false = true := fun j hj h => (done_set h).resolve_left hj
          have hv := ((hF.new (t := 68) (i := 4) (by kernel_rfl) (by simp) (waits_done (i := 5) (j := 4) (by kernel_rfl) hi)).trans (cc.c4 (waits_done (i := 5) (j := 4) (by kernel_rfl) hi)))
          have hce := cc.o.cell 6
          rw [ag_get, if_pos (by omega)] at hce
          refine wp_valF (v := B (f 6)) (w1 := w') (by simp [execOp, go_sem, ev hv, hce]) ⟨_, rfl, ⟨cc.b, cc.o, fun h => cc.c0 (T 0 (by decide) h), fun h => cc.c1 (T 1 (by decide) h), fun h => cc.c2 (T 2 (by decide) h), fun h => cc.c3 (T 3 (by decide) h), fun h => cc.c4 (T 4 (by decide) h), fun _ => rfl, fun h => cc.c6 (T 6 (by decide) h), fun h => cc.c7 (T 7 (by decide) h), fun h => cc.c8 (T 8 (by decide) h), fun h => cc.c9 (T 9 (by decide) h), fun h => cc.c10 (T 10 (by decide) h), fun h => cc.c11 (T 11 (by decide) h), fun h => cc.c12 (T 12 (by decide) h), fun h => cc.c13 (T 13 (by decide) h), fun h => cc.c14 (T 14 (by decide) h), fun h => cc.c15 (T 15 (by decide) h), fun h => cc.c16 (T 16 (by decide) h), fun h => cc.c17 (T 17 (by decide) h), by obtain ⟨c, h2, h3, h4⟩ := cc.c18; exact ⟨c, h2, h3, fun h => h4 (T 18 (by decide) h)⟩, by obtain ⟨c, h2, h3, h4⟩ := cc.c19; exact ⟨c, h2, h3, fun h => h4 (T 19 (by decide) h)⟩⟩⟩
        · simp at ho
          subst ho
          have T : ∀ j, j ≠ 6 → (listed.setIfInBounds 6 true).getD j false = true → listed.getD j false = true := fun j hj h => (done_set h).resolve_left hj
          have hv : a'.eval (.tmp 6) = .pointer (some ⟨bo, 0, none⟩) := (hF.old (by kernel_rfl)).trans rfl
          refine wp_valF (v := .pointer (some ⟨bo, 7, none⟩)) (w1 := w') (by simp [execOp, go_sem, ev hv]) ⟨_, rfl, ⟨cc.b, cc.o, fun h => cc.c0 (T 0 (by decide) h), fun h => cc.c1 (T 1 (by decide) h), fun h => cc.c2 (T 2 (by decide) h), fun h => cc.c3 (T 3 (by decide) h), fun h => cc.c4 (T 4 (by decide) h), fun h => cc.c5 (T 5 (by decide) h), fun _ => rfl, fun h => cc.c7 (T 7 (by decide) h), fun h => cc.c8 (T 8 (by decide) h), fun h => cc.c9 (T 9 (by decide) h), fun h => cc.c10 (T 10 (by decide) h), fun h => cc.c11 (T 11 (by decide) h), fun h => cc.c12 (T 12 (by decide) h), fun h => cc.c13 (T 13 (by decide) h), fun h => cc.c14 (T 14 (by decide) h), fun h => cc.c15 (T 15 (by decide) h), fun h => cc.c16 (T 16 (by decide) h), fun h => cc.c17 (T 17 (by decide) h), by obtain ⟨c, h2, h3, h4⟩ := cc.c18; exact ⟨c, h2, h3, fun h => h4 (T 18 (by decide) h)⟩, by obtain ⟨c, h2, h3, h4⟩ := cc.c19; exact ⟨c, h2, h3, fun h => h4 (T 19 (by decide) h)⟩⟩⟩
        · simp at ho
          subst ho
          have T : ∀ j, j ≠ 7 → (listed.setIfInBounds 7 true).getD j false = true → listed.getD j false = true := fun j hj h => (done_set h).resolve_left hj
          have hv := ((hF.new (t := 70) (i := 6) (by kernel_rfl) (by simp) (waits_done (i := 7) (j := 6) (by kernel_rfl) hi)).trans (cc.c6 (waits_done (i := 7) (j := 6) (by kernel_rfl) hi)))
          have hce := cc.o.cell 7
          rw [ag_get, if_pos (by omega)] at hce
          refine wp_valF (v := B (f 7)) (w1 := w') (by simp [execOp, go_sem, ev hv, hce]) ⟨_, rfl, ⟨cc.b, cc.o, fun h => cc.c0 (T 0 (by decide) h), fun h => cc.c1 (T 1 (by decide) h), fun h => cc.c2 (T 2 (by decide) h), fun h => cc.c3 (T 3 (by decide) h), fun h => cc.c4 (T 4 (by decide) h), fun h => cc.c5 (T 5 (by decide) h), fun h => cc.c6 (T 6 (by decide) h), fun _ => rfl, fun h => cc.c8 (T 8 (by decide) h), fun h => cc.c9 (T 9 (by decide) h), fun h => cc.c10 (T 10 (by decide) h), fun h => cc.c11 (T 11 (by decide) h), fun h => cc.c12 (T 12 (by decide) h), fun h => cc.c13 (T 13 (by decide) h), fun h => cc.c14 (T 14 (by decide) h), fun h => cc.c15 (T 15 (by decide) h), fun h => cc.c16 (T 16 (by decide) h), fun h => cc.c17 (T 17 (by decide) h), by obtain ⟨c, h2, h3, h4⟩ := cc.c18; exact ⟨c, h2, h3, fun h => h4 (T 18 (by decide) h)⟩, by obtain ⟨c, h2, h3, h4⟩ := cc.c19; exact ⟨c, h2, h3, fun h => h4 (T 19 (by decide) h)⟩⟩⟩
        · simp at ho
          subst ho
          have T : ∀ j, j ≠ 8 → (listed.setIfInBounds 8 true).getD j false = true → listed.getD j false = true := fun j hj h => (done_set h).resolve_left hj
          have hv1 := ((hF.new (t := 65) (i := 1) (by kernel_rfl) (by simp) (waits_done (i := 8) (j := 1) (by kernel_rfl) hi)).trans (cc.c1 (waits_done (i := 8) (j := 1) (by kernel_rfl) hi)))
          have hv3 := ((hF.new (t := 67) (i := 3) (by kernel_rfl) (by simp) (waits_done (i := 8) (j := 3) (by kernel_rfl) hi)).trans (cc.c3 (waits_done (i := 8) (j := 3) (by kernel_rfl) hi)))
          have hv5 := ((hF.new (t := 69) (i := 5) (by kernel_rfl) (by simp) (waits_done (i := 8) (j := 5) (by kernel_rfl) hi)).trans (cc.c5 (waits_done (i := 8) (j := 5) (by kernel_rfl) hi)))
          have hv7 := ((hF.new (t := 71) (i := 7) (by kernel_rfl) (by simp) (waits_done (i := 8) (j := 7) (by kernel_rfl) hi)).trans (cc.c7 (waits_done (i := 8) (j := 7) (by kernel_rfl) hi)))
          refine wp_valF (v := .agg #[B (f 4), B (f 5), B (f 6), B (f 7)]) (w1 := w') (by simp [execOp, go_sem, ev hv1, ev hv3, ev hv5, ev hv7]) ⟨_, rfl, ⟨cc.b, cc.o, fun h => cc.c0 (T 0 (by decide) h), fun h => cc.c1 (T 1 (by decide) h), fun h => cc.c2 (T 2 (by decide) h), fun h => cc.c3 (T 3 (by decide) h), fun h => cc.c4 (T 4 (by decide) h), fun h => cc.c5 (T 5 (by decide) h), fun h => cc.c6 (T 6 (by decide) h), fun h => cc.c7 (T 7 (by decide) h), fun _ => rfl, fun h => cc.c9 (T 9 (by decide) h), fun h => cc.c10 (T 10 (by decide) h), fun h => cc.c11 (T 11 (by decide) h), fun h => cc.c12 (T 12 (by decide) h), fun h => cc.c13 (T 13 (by decide) h), fun h => cc.c14 (T 14 (by decide) h), fun h => cc.c15 (T 15 (by decide) h), fun h => cc.c16 (T 16 (by decide) h), fun h => cc.c17 (T 17 (by decide) h), by obtain ⟨c, h2, h3, h4⟩ := cc.c18; exact ⟨c, h2, h3, fun h => h4 (T 18 (by decide) h)⟩, by obtain ⟨c, h2, h3, h4⟩ := cc.c19; exact ⟨c, h2, h3, fun h => h4 (T 19 (by decide) h)⟩⟩⟩
        · simp at ho
          subst ho
          have T : ∀ j, j ≠ 9 → (listed.setIfInBounds 9 true).getD j false = true → listed.getD j false = true := fun j hj h => (done_set h).resolve_left hj
          have hv : a'.eval (.tmp 6) = .pointer (some ⟨bo, 0, none⟩) := (hF.old (by kernel_rfl)).trans rfl
          refine wp_valF (v := .pointer (some ⟨bo, 0, none⟩)) (w1 := w') (by simp [execOp, go_sem, ev hv]) ⟨_, rfl, ⟨cc.b, cc.o, fun h => cc.c0 (T 0 (by decide) h), fun h => cc.c1 (T 1 (by decide) h), fun h => cc.c2 (T 2 (by decide) h), fun h => cc.c3 (T 3 (by decide) h), fun h => cc.c4 (T 4 (by decide) h), fun h => cc.c5 (T 5 (by decide) h), fun h => cc.c6 (T 6 (by decide) h), fun h => cc.c7 (T 7 (by decide) h), fun h => cc.c8 (T 8 (by decide) h), fun _ => rfl, fun h => cc.c10 (T 10 (by decide) h), fun h => cc.c11 (T 11 (by decide) h), fun h => cc.c12 (T 12 (by decide) h), fun h => cc.c13 (T 13 (by decide) h), fun h => cc.c14 (T 14 (by decide) h), fun h => cc.c15 (T 15 (by decide) h), fun h => cc.c16 (T 16 (by decide) h), fun h => cc.c17 (T 17 (by decide) h), by obtain ⟨c, h2, h3, h4⟩ := cc.c18; exact ⟨c, h2, h3, fun h => h4 (T 18 (by decide) h)⟩, by obtain ⟨c, h2, h3, h4⟩ := cc.c19; exact ⟨c, h2, h3, fun h => h4 (T 19 (by decide) h)⟩⟩⟩
        · simp at ho
          subst ho
          have T : ∀ j, j ≠ 10 → (listed.setIfInBounds 10 true).getD j false = true → listed.getD j false = true := fun j hj h => (done_set h).resolve_left hj
          have hv := ((hF.new (t := 73) (i := 9) (by kernel_rfl) (by simp) (waits_done (i := 10) (j := 9) (by kernel_rfl) hi)).trans (cc.c9 (waits_done (i := 10) (j := 9) (by kernel_rfl) hi)))
          have hce := cc.o.cell 0
          rw [ag_get, if_pos (by omega)] at hce
          refine wp_valF (v := B (f 0)) (w1 := w') (by simp [execOp, go_sem, ev hv, hce]) ⟨_, rfl, ⟨cc.b, cc.o, fun h => cc.c0 (T 0 (by decide) h), fun h => cc.c1 (T 1 (by decide) h), fun h => cc.c2 (T 2 (by decide) h), fun h => cc.c3 (T 3 (by decide) h), fun h => cc.c4 (T 4 (by decide) h), fun h => cc.c5 (T 5 (by decide) h), fun h => cc.c6 (T 6 (by decide) h), fun h => cc.c7 (T 7 (by decide) h), fun h => cc.c8 (T 8 (by decide) h), fun h => cc.c9 (T 9 (by decide) h), fun _ => rfl, fun h => cc.c11 (T 11 (by decide) h), fun h => cc.c12 (T 12 (by decide) h), fun h => cc.c13 (T 13 (by decide) h), fun h => cc.c14 (T 14 (by decide) h), fun h => cc.c15 (T 15 (by decide) h), fun h => cc.c16 (T 16 (by decide) h), fun h => cc.c17 (T 17 (by decide) h), by obtain ⟨c, h2, h3, h4⟩ := cc.c18; exact ⟨c, h2, h3, fun h => h4 (T 18 (by decide) h)⟩, by obtain ⟨c, h2, h3, h4⟩ := cc.c19; exact ⟨c, h2, h3, fun h => h4 (T 19 (by decide) h)⟩⟩⟩
        · simp at ho
          subst ho
          have T : ∀ j, j ≠ 11 → (listed.setIfInBounds 11 true).getD j false = true → listed.getD j false = true := fun j hj h => (done_set h).resolve_left hj
          have hv : a'.eval (.tmp 6) = .pointer (some ⟨bo, 0, none⟩) := (hF.old (by kernel_rfl)).trans rfl
          refine wp_valF (v := .pointer (some ⟨bo, 1, none⟩)) (w1 := w') (by simp [execOp, go_sem, ev hv]) ⟨_, rfl, ⟨cc.b, cc.o, fun h => cc.c0 (T 0 (by decide) h), fun h => cc.c1 (T 1 (by decide) h), fun h => cc.c2 (T 2 (by decide) h), fun h => cc.c3 (T 3 (by decide) h), fun h => cc.c4 (T 4 (by decide) h), fun h => cc.c5 (T 5 (by decide) h), fun h => cc.c6 (T 6 (by decide) h), fun h => cc.c7 (T 7 (by decide) h), fun h => cc.c8 (T 8 (by decide) h), fun h => cc.c9 (T 9 (by decide) h), fun h => cc.c10 (T 10 (by decide) h), fun _ => rfl, fun h => cc.c12 (T 12 (by decide) h), fun h => cc.c13 (T 13 (by decide) h), fun h => cc.c14 (T 14 (by decide) h), fun h => cc.c15 (T 15 (by decide) h), fun h => cc.c16 (T 16 (by decide) h), fun h => cc.c17 (T 17 (by decide) h), by obtain ⟨c, h2, h3, h4⟩ := cc.c18; exact ⟨c, h2, h3, fun h => h4 (T 18 (by decide) h)⟩, by obtain ⟨c, h2, h3, h4⟩ := cc.c19; exact ⟨c, h2, h3, fun h => h4 (T 19 (by decide) h)⟩⟩⟩
        · simp at ho
          subst ho
          have T : ∀ j, j ≠ 12 → (listed.setIfInBounds 12 true).getD j false = true → listed.getD j false = true := fun j hj h => (done_set h).resolve_left hj
          have hv := ((hF.new (t := 75) (i := 11) (by kernel_rfl) (by simp) (waits_done (i := 12) (j := 11) (by kernel_rfl) hi)).trans (cc.c11 (waits_done (i := 12) (j := 11) (by kernel_rfl) hi)))
          have hce := cc.o.cell 1
          rw [ag_get, if_pos (by omega)] at hce
          refine wp_valF (v := B (f 1)) (w1 := w') (by simp [execOp, go_sem, ev hv, hce]) ⟨_, rfl, ⟨cc.b, cc.o, fun h => cc.c0 (T 0 (by decide) h), fun h => cc.c1 (T 1 (by decide) h), fun h => cc.c2 (T 2 (by decide) h), fun h => cc.c3 (T 3 (by decide) h), fun h => cc.c4 (T 4 (by decide) h), fun h => cc.c5 (T 5 (by decide) h), fun h => cc.c6 (T 6 (by decide) h), fun h => cc.c7 (T 7 (by decide) h), fun h => cc.c8 (T 8 (by decide) h), fun h => cc.c9 (T 9 (by decide) h), fun h => cc.c10 (T 10 (by decide) h), fun h => cc.c11 (T 11 (by decide) h), fun _ => rfl, fun h => cc.c13 (T 13 (by decide) h), fun h => cc.c14 (T 14 (by decide) h), fun h => cc.c15 (T 15 (by decide) h), fun h => cc.c16 (T 16 (by decide) h), fun h => cc.c17 (T 17 (by decide) h), by obtain ⟨c, h2, h3, h4⟩ := cc.c18; exact ⟨c, h2, h3, fun h => h4 (T 18 (by decide) h)⟩, by obtain ⟨c, h2, h3, h4⟩ := cc.c19; exact ⟨c, h2, h3, fun h => h4 (T 19 (by decide) h)⟩⟩⟩
        · simp at ho
          subst ho
          have T : ∀ j, j ≠ 13 → (listed.setIfInBounds 13 true).getD j false = true → listed.getD j false = true := fun j hj h => (done_set h).resolve_left hj
          have hv : a'.eval (.tmp 6) = .pointer (some ⟨bo, 0, none⟩) := (hF.old (by kernel_rfl)).trans rfl
          refine wp_valF (v := .pointer (some ⟨bo, 2, none⟩)) (w1 := w') (by simp [execOp, go_sem, ev hv]) ⟨_, rfl, ⟨cc.b, cc.o, fun h => cc.c0 (T 0 (by decide) h), fun h => cc.c1 (T 1 (by decide) h), fun h => cc.c2 (T 2 (by decide) h), fun h => cc.c3 (T 3 (by decide) h), fun h => cc.c4 (T 4 (by decide) h), fun h => cc.c5 (T 5 (by decide) h), fun h => cc.c6 (T 6 (by decide) h), fun h => cc.c7 (T 7 (by decide) h), fun h => cc.c8 (T 8 (by decide) h), fun h => cc.c9 (T 9 (by decide) h), fun h => cc.c10 (T 10 (by decide) h), fun h => cc.c11 (T 11 (by decide) h), fun h => cc.c12 (T 12 (by decide) h), fun _ => rfl, fun h => cc.c14 (T 14 (by decide) h), fun h => cc.c15 (T 15 (by decide) h), fun h => cc.c16 (T 16 (by decide) h), fun h => cc.c17 (T 17 (by decide) h), by obtain ⟨c, h2, h3, h4⟩ := cc.c18; exact ⟨c, h2, h3, fun h => h4 (T 18 (by decide) h)⟩, by obtain ⟨c, h2, h3, h4⟩ := cc.c19; exact ⟨c, h2, h3, fun h => h4 (T 19 (by decide) h)⟩⟩⟩
        · simp at ho
          subst ho
          have T : ∀ j, j ≠ 14 → (listed.setIfInBounds 14 true).getD j false = true → listed.getD j false = true := fun j hj h => (done_set h).resolve_left hj
          have hv := ((hF.new (t := 77) (i := 13) (by kernel_rfl) (by simp) (waits_done (i := 14) (j := 13) (by kernel_rfl) hi)).trans (cc.c13 (waits_done (i := 14) (j := 13) (by kernel_rfl) hi)))
          have hce := cc.o.cell 2
          rw [ag_get, if_pos (by omega)] at hce
          refine wp_valF (v := B (f 2)) (w1 := w') (by simp [execOp, go_sem, ev hv, hce]) ⟨_, rfl, ⟨cc.b, cc.o, fun h => cc.c0 (T 0 (by decide) h), fun h => cc.c1 (T 1 (by decide) h), fun h => cc.c2 (T 2 (by decide) h), fun h => cc.c3 (T 3 (by decide) h), fun h => cc.c4 (T 4 (by decide) h), fun h => cc.c5 (T 5 (by decide) h), fun h => cc.c6 (T 6 (by decide) h), fun h => cc.c7 (T 7 (by decide) h), fun h => cc.c8 (T 8 (by decide) h), fun h => cc.c9 (T 9 (by decide) h), fun h => cc.c10 (T 10 (by decide) h), fun h => cc.c11 (T 11 (by decide) h), fun h => cc.c12 (T 12 (by decide) h), fun h => cc.c13 (T 13 (by decide) h), fun _ => rfl, fun h => cc.c15 (T 15 (by decide) h), fun h => cc.c16 (T 16 (by decide) h), fun h => cc.c17 (T 17 (by decide) h), by obtain ⟨c, h2, h3, h4⟩ := cc.c18; exact ⟨c, h2, h3, fun h => h4 (T 18 (by decide) h)⟩, by obtain ⟨c, h2, h3, h4⟩ := cc.c19; exact ⟨c, h2, h3, fun h => h4 (T 19 (by decide) h)⟩⟩⟩
        · simp at ho
          subst ho
          have T : ∀ j, j ≠ 15 → (listed.setIfInBounds 15 true).getD j false = true → listed.getD j false = true := fun j hj h => (done_set h).resolve_left hj
          have hv : a'.eval (.tmp 6) = .pointer (some ⟨bo, 0, none⟩) := (hF.old (by kernel_rfl)).trans rfl
          refine wp_valF (v := .pointer (some ⟨bo, 3, none⟩)) (w1 := w') (by simp [execOp, go_sem, ev hv]) ⟨_, rfl, ⟨cc.b, cc.o, fun h => cc.c0 (T 0 (by decide) h), fun h => cc.c1 (T 1 (by decide) h), fun h => cc.c2 (T 2 (by decide) h), fun h => cc.c3 (T 3 (by decide) h), fun h => cc.c4 (T 4 (by decide) h), fun h => cc.c5 (T 5 (by decide) h), fun h => cc.c6 (T 6 (by decide) h), fun h => cc.c7 (T 7 (by decide) h), fun h => cc.c8 (T 8 (by decide) h), fun h => cc.c9 (T 9 (by decide) h), fun h => cc.c10 (T 10 (by decide) h), fun h => cc.c11 (T 11 (by decide) h), fun h => cc.c12 (T 12 (by decide) h), fun h => cc.c13 (T 13 (by decide) h), fun h => cc.c14 (T 14 (by decide) h), fun _ => rfl, fun h => cc.c16 (T 16 (by decide) h), fun h => cc.c17 (T 17 (by decide) h), by obtain ⟨c, h2, h3, h4⟩ := cc.c18; exact ⟨c, h2, h3, fun h => h4 (T 18 (by decide) h)⟩, by obtain ⟨c, h2, h3, h4⟩ := cc.c19; exact ⟨c, h2, h3, fun h => h4 (T 19 (by decide) h)⟩⟩⟩
        · simp at ho
          subst ho
          have T : ∀ j, j ≠ 16 → (listed.setIfInBounds 16 true).getD j false = true → listed.getD j false = true := fun j hj h => (done_set h).resolve_left hj
          have hv := ((hF.new (t := 79) (i := 15) (by kernel_rfl) (by simp) (waits_done (i := 16) (j := 15) (by kernel_rfl) hi)).trans (cc.c15 (waits_done (i := 16) (j := 15) (by kernel_rfl) hi)))
          have hce := cc.o.cell 3
          rw [ag_get, if_pos (by omega)] at hce
          refine wp_valF (v := B (f 3)) (w1 := w') (by simp [execOp, go_sem, ev hv, hce]) ⟨_, rfl, ⟨cc.b, cc.o, fun h => cc.c0 (T 0 (by decide) h), fun h => cc.c1 (T 1 (by decide) h), fun h => cc.c2 (T 2 (by decide) h), fun h => cc.c3 (T 3 (by decide) h), fun h => cc.c4 (T 4 (by decide) h), fun h => cc.c5 (T 5 (by decide) h), fun h => cc.c6 (T 6 (by decide) h), fun h => cc.c7 (T 7 (by decide) h), fun h => cc.c8 (T 8 (by decide) h), fun h => cc.c9 (T 9 (by decide) h), fun h => cc.c10 (T 10 (by decide) h), fun h => cc.c11 (T 11 (by decide) h), fun h => cc.c12 (T 12 (by decide) h), fun h => cc.c13 (T 13 (by decide) h), fun h => cc.c14 (T 14 (by decide) h), fun h => cc.c15 (T 15 (by decide) h), fun _ => rfl, fun h => cc.c17 (T 17 (by decide) h), by obtain ⟨c, h2, h3, h4⟩ := cc.c18; exact ⟨c, h2, h3, fun h => h4 (T 18 (by decide) h)⟩, by obtain ⟨c, h2, h3, h4⟩ := cc.c19; exact ⟨c, h2, h3, fun h => h4 (T 19 (by decide) h)⟩⟩⟩
        · simp at ho
          subst ho
          have T : ∀ j, j ≠ 17 → (listed.setIfInBounds 17 true).getD j false = true → listed.getD j false = true := fun j hj h => (done_set h).resolve_left hj
          have hv10 := ((hF.new (t := 74) (i := 10) (by kernel_rfl) (by simp) (waits_done (i := 17) (j := 10) (by kernel_rfl) hi)).trans (cc.c10 (waits_done (i := 17) (j := 10) (by kernel_rfl) hi)))
          have hv12 := ((hF.new (t := 76) (i := 12) (by kernel_rfl) (by simp) (waits_done (i := 17) (j := 12) (by kernel_rfl) hi)).trans (cc.c12 (waits_done (i := 17) (j := 12) (by kernel_rfl) hi)))
          have hv14 := ((hF.new (t := 78) (i := 14) (by kernel_rfl) (by simp) (waits_done (i := 17) (j := 14) (by kernel_rfl) hi)).trans (cc.c14 (waits_done (i := 17) (j := 14) (by kernel_rfl) hi)))
          have hv16 := ((hF.new (t := 80) (i := 16) (by kernel_rfl) (by simp) (waits_done (i := 17) (j := 16) (by kernel_rfl) hi)).trans (cc.c16 (waits_done (i := 17) (j := 16) (by kernel_rfl) hi)))
          refine wp_valF (v := .agg #[B (f 0), B (f 1), B (f 2), B (f 3)]) (w1 := w') (by simp [execOp, go_sem, ev hv10, ev hv12, ev hv14, ev hv16]) ⟨_, rfl, ⟨cc.b, cc.o, fun h => cc.c0 (T 0 (by decide) h), fun h => cc.c1 (T 1 (by decide) h), fun h => cc.c2 (T 2 (by decide) h), fun h => cc.c3 (T 3 (by decide) h), fun h => cc.c4 (T 4 (by decide) h), fun h => cc.c5 (T 5 (by decide) h), fun h => cc.c6 (T 6 (by decide) h), fun h => cc.c7 (T 7 (by decide) h), fun h => cc.c8 (T 8 (by decide) h), fun h => cc.c9 (T 9 (by decide) h), fun h => cc.c10 (T 10 (by decide) h), fun h => cc.c11 (T 11 (by decide) h), fun h => cc.c12 (T 12 (by decide) h), fun h => cc.c13 (T 13 (by decide) h), fun h => cc.c14 (T 14 (by decide) h), fun h => cc.c15 (T 15 (by decide) h), fun h => cc.c16 (T 16 (by decide) h), fun _ => rfl, by obtain ⟨c, h2, h3, h4⟩ := cc.c18; exact ⟨c, h2, h3, fun h => h4 (T 18 (by decide) h)⟩, by obtain ⟨c, h2, h3, h4⟩ := cc.c19; exact ⟨c, h2, h3, fun h => h4 (T 19 (by decide) h)⟩⟩⟩
        · simp at ho
          subst ho
          have T : ∀ j, j ≠ 18 → (listed.setIfInBounds 18 true).getD j false = true → listed.getD j false = true := fun j hj h => (done_set h).resolve_left hj
          have hv := ((hF.new (t := 72) (i := 8) (by kernel_rfl) (by simp) (waits_done (i := 18) (j := 8) (by kernel_rfl) hi)).trans (cc.c8 (waits_done (i := 18) (j := 8) (by kernel_rfl) hi)))
          have hx : a'.eval (.tmp 4) = .pointer (some ⟨w.heap.size + 1 + 1, 0, none⟩) := (hF.old (by kernel_rfl)).trans rfl
          obtain ⟨c, h2, h3, h4⟩ := cc.c18
          obtain ⟨c', k2, k3, k4⟩ := cc.c19
          refine wp_rowS 24 (.tmp 4) (.tmp 72) rfl (w.heap.size + 1 + 1) (c' := #[B (f 4), B (f 5), B (f 6), B (f 7)]) hx hv h2 h3 rfl (by simp [Value.oneCell']) (by kernel_rfl) ⟨_, rfl, ⟨below_setRow cc.b (by omega) _, cc.o.set_other _ (by omega), fun h => cc.c0 (T 0 (by decide) h), fun h => cc.c1 (T 1 (by decide) h), fun h => cc.c2 (T 2 (by decide) h), fun h => cc.c3 (T 3 (by decide) h), fun h => cc.c4 (T 4 (by decide) h), fun h => cc.c5 (T 5 (by decide) h), fun h => cc.c6 (T 6 (by decide) h), fun h => cc.c7 (T 7 (by decide) h), fun h => cc.c8 (T 8 (by decide) h), fun h => cc.c9 (T 9 (by decide) h), fun h => cc.c10 (T 10 (by decide) h), fun h => cc.c11 (T 11 (by decide) h), fun h => cc.c12 (T 12 (by decide) h), fun h => cc.c13 (T 13 (by decide) h), fun h => cc.c14 (T 14 (by decide) h), fun h => cc.c15 (T 15 (by decide) h), fun h => cc.c16 (T 16 (by decide) h), fun h => cc.c17 (T 17 (by decide) h), ⟨_, h2.set_same _, rfl, fun _ => rfl⟩, ⟨c', k2.set_other _ (by omega), k3, fun h => k4 (T 19 (by decide) h)⟩⟩⟩
        · simp at ho
          subst ho
          have T : ∀ j, j ≠ 19 → (listed.setIfInBounds 19 true).getD j false = true → listed.getD j false = true := fun j hj h => (done_set h).resolve_left hj
          have hv := ((hF.new (t := 81) (i := 17) (by kernel_rfl) (by simp) (waits_done (i := 19) (j := 17) (by kernel_rfl) hi)).trans (cc.c17 (waits_done (i := 19) (j := 17) (by kernel_rfl) hi)))
          have hx : a'.eval (.tmp 5) = .pointer (some ⟨w.heap.size + 1 + 1 + 1, 0, none⟩) := (hF.old (by kernel_rfl)).trans rfl
          obtain ⟨c, h2, h3, h4⟩ := cc.c19
          obtain ⟨c', k2, k3, k4⟩ := cc.c18
          refine wp_rowS 24 (.tmp 5) (.tmp 81) rfl (w.heap.size + 1 + 1 + 1) (c' := #[B (f 0), B (f 1), B (f 2), B (f 3)]) hx hv h2 h3 rfl (by simp [Value.oneCell']) (by kernel_rfl) ⟨_, rfl, ⟨below_setRow cc.b (by omega) _, cc.o.set_other _ (by omega), fun h => cc.c0 (T 0 (by decide) h), fun h => cc.c1 (T 1 (by decide) h), fun h => cc.c2 (T 2 (by decide) h), fun h => cc.c3 (T 3 (by decide) h), fun h => cc.c4 (T 4 (by decide) h), fun h => cc.c5 (T 5 (by decide) h), fun h => cc.c6 (T 6 (by decide) h), fun h => cc.c7 (T 7 (by decide) h), fun h => cc.c8 (T 8 (by decide) h), fun h => cc.c9 (T 9 (by decide) h), fun h => cc.c10 (T 10 (by decide) h), fun h => cc.c11 (T 11 (by decide) h), fun h => cc.c12 (T 12 (by decide) h), fun h => cc.c13 (T 13 (by decide) h), fun h => cc.c14 (T 14 (by decide) h), fun h => cc.c15 (T 15 (by decide) h), fun h => cc.c16 (T 16 (by decide) h), fun h => cc.c17 (T 17 (by decide) h), ⟨c', k2.set_other _ (by omega), k3, fun h => k4 (T 18 (by decide) h)⟩, ⟨_, h2.set_same _, rfl, fun _ => rfl⟩⟩⟩
      · intro listed vs a' w' hd hF cc
        obtain ⟨c, h2, h3, h4⟩ := cc.c18
        obtain ⟨c', k2, k3, k4⟩ := cc.c19
        have hx4 : a'.eval (.tmp 4) = .pointer (some ⟨w.heap.size + 1 + 1, 0, none⟩) := (hF.old (by kernel_rfl)).trans rfl
        have hx5 : a'.eval (.tmp 5) = .pointer (some ⟨w.heap.size + 1 + 1 + 1, 0, none⟩) := (hF.old (by kernel_rfl)).trans rfl
        have hr := results_cell2 (P := Tryd.prog) (fn := Tryd.f56) rfl a' w' hx4 hx5 h2 k2 h3 k3 Tryd.underlying24 (by kernel_rfl) Tryd.underlying24 (by kernel_rfl)
        rw [h4 (hd 18 (by simp)), k4 (hd 19 (by simp))] at hr
        have HR : Hid _ := hr
        have HB : Hid _ := cc.b
        have HD : Hid (a'.defers = []) := hF.1
        clear hr cc hF hx4 hx5 h2 h3 h4 k2 k3 k4
        go_wp2
        exact bodyPost_ret HR.out HD.out ⟨⟨f, KO.out, rfl⟩, HB.out⟩
end Go.Proofs.YtpdoonofipcbeaaDoor
