/- The law SignBack, walked. -/
import Derived.Test.YtbfgeinneglpdaaSm
import Derived.Lib.QuietBelow
import Derived.BigQuiet
namespace Go.Proofs.Ytbfgeinneglpdaa
open Go.RowKit Go.Sort
set_option linter.unusedVariables false
attribute [local go_sem] run_eq4 run_eqU_same
structure CB0 (w : World) (N0 : Nat) (a x : Nat) (o : Bool) (listed : Array Bool) (vs : Nat → Value) (w' : World) : Prop where
  bw : Below w.heap.size w w'
  ms : N0 ≤ w'.heap.size
  R0 : HasRow w' (w.heap.size) #[B (l0 a), B (l1 a), B (l2 a), B (l3 a)]
  R1 : HasRow w' (w.heap.size + 1) #[.int .u64 0, .int .u64 0, .int .u64 0, .int .u64 0]
  c0 : listed.getD 0 false = true → vs 0 = U a
  c1 : listed.getD 1 false = true → vs 1 = U a
  c2 : listed.getD 2 false = true → vs 2 = U x
  c3 : listed.getD 3 false = true → vs 3 = .tuple #[I4 0 0 0 0, .bool o]
  c4 : listed.getD 4 false = true → vs 4 = .tuple #[I4 0 0 0 0, .bool o]
  c5 : listed.getD 5 false = true → vs 5 = I4 0 0 0 0
  c6 : listed.getD 6 false = true → vs 6 = .bool o
  c7 : listed.getD 7 false = true → ∃ g c, vs 7 = .pointer (some ⟨g, 0, none⟩) ∧ N0 ≤ g ∧ HasRow w' g c ∧ c.size = 4 ∧ (listed.getD 8 false = true → c = #[.int .u64 0, .int .u64 0, .int .u64 0, .int .u64 0])
  c8 : listed.getD 8 false = true → listed.getD 7 false = true
  c9 : listed.getD 9 false = true → vs 9 = .bool o

set_option maxRecDepth 100000 in
set_option maxHeartbeats 4000000 in
theorem back4_zero (a x : Nat) (o : Bool)
    (hn : Hid (∀ w, Calls Try.prog 9 #[U a] w fun e w' => e = .returned (U x) ∧ Below w.heap.size w w'))
    (h1 : Hid (∀ w, Calls Try.prog 20 #[U a, U x] w fun e w' => e = .returned (.tuple #[I4 0 0 0 0, .bool o]) ∧ Below w.heap.size w w'))
    (hd : Hid (∀ w, Calls Try.prog 7 #[U a, I4 0 0 0 0] w fun e w' => e = .returned (.tuple #[I4 0 0 0 0, I4 0 0 0 0]) ∧ Below w.heap.size w w'))
    (ha : Hid (∀ w, Calls Try.prog 19 #[] w fun e w' => e = .returned (.bool true) ∧ Below w.heap.size w w')) (w : World) :
    Calls Try.prog 4 #[U a, I4 0 0 0 0] w fun e w' => e = .returned (.bool true) ∧ Below w.heap.size w w' := by
  go_enter Try.func4, Try.ntmps4
  go_wp2_with fail
  refine name_world _ ?_
  intro wF hF0
  have RF0 : Hid (HasRow wF (w.heap.size) #[B (l0 a), B (l1 a), B (l2 a), B (l3 a)]) := by rw [hF0]; exact (HasRow.old (HasRow.last (by simp)))
  have RF1 : Hid (HasRow wF (w.heap.size + 1) #[.int .u64 0, .int .u64 0, .int .u64 0, .int .u64 0]) := by rw [hF0]; exact (HasRow.last (by simp))
  have BF : Hid (Below w.heap.size w wF) := by rw [hF0]; exact (bel_alloc (bel_alloc (Below.refl _ _) _) _)
  clear hF0
  obtain ⟨N0, hN0⟩ : ∃ n, n = wF.heap.size := ⟨_, rfl⟩
  have qF0 : w.heap.size < N0 := by rw [hN0]; exact RF0.out.lt
  have qF1 : w.heap.size + 1 < N0 := by rw [hN0]; exact RF1.out.lt
  refine wp_region_vals2 (by kernel_rfl) (by kernel_rfl) (by kernel_rfl) (CB0 w N0 a x o) ?_ ?_ ?_
  · refine ⟨BF.out.drew, by rw [hN0]; exact Nat.le_refl _, RF0.out, RF1.out, ?_, ?_, ?_, ?_, ?_, ?_, ?_, ?_, ?_, ?_⟩ <;> (intro h; simp [Array.getD] at h)
  · intro listed vs a' w' i o' hs ho hi hF cc
    have hin : i < 10 := by have := (Array.getElem?_eq_some_iff.1 ho).1; simpa using this
    have hcase : i = 0 ∨ i = 1 ∨ i = 2 ∨ i = 3 ∨ i = 4 ∨ i = 5 ∨ i = 6 ∨ i = 7 ∨ i = 8 ∨ i = 9 := by omega
    rcases hcase with rfl | rfl | rfl | rfl | rfl | rfl | rfl | rfl | rfl | rfl
    · simp at ho
      subst ho
      have T : ∀ j, j ≠ 0 → (listed.setIfInBounds 0 true).getD j false = true → listed.getD j false = true := fun j hj h => (done_set h).resolve_left hj
      have S : ∀ j, listed.getD j false = true → (listed.setIfInBounds 0 true).getD j false = true := fun j h => done_keep h
      exact wp_rowF 24 (.tmp 2) rfl (w.heap.size) ((hF.old (by kernel_rfl)).trans rfl) cc.R0 rfl Try.underlying24 (by kernel_rfl) ⟨_, rfl, ⟨cc.bw, cc.ms, cc.R0, cc.R1, fun _ => rfl, fun h => cc.c1 (T 1 (by decide) h), fun h => cc.c2 (T 2 (by decide) h), fun h => cc.c3 (T 3 (by decide) h), fun h => cc.c4 (T 4 (by decide) h), fun h => cc.c5 (T 5 (by decide) h), fun h => cc.c6 (T 6 (by decide) h), fun h => by obtain ⟨g', c', e', k1, k2, k3, k4⟩ := cc.c7 (T 7 (by decide) h); exact ⟨g', c', e', k1, k2, k3, fun h6 => k4 (T 8 (by decide) h6)⟩, fun h => S 7 (cc.c8 (T 8 (by decide) h)), fun h => cc.c9 (T 9 (by decide) h)⟩⟩
    · simp at ho
      subst ho
      have T : ∀ j, j ≠ 1 → (listed.setIfInBounds 1 true).getD j false = true → listed.getD j false = true := fun j hj h => (done_set h).resolve_left hj
      have S : ∀ j, listed.getD j false = true → (listed.setIfInBounds 1 true).getD j false = true := fun j h => done_keep h
      exact wp_rowF 24 (.tmp 2) rfl (w.heap.size) ((hF.old (by kernel_rfl)).trans rfl) cc.R0 rfl Try.underlying24 (by kernel_rfl) ⟨_, rfl, ⟨cc.bw, cc.ms, cc.R0, cc.R1, fun h => cc.c0 (T 0 (by decide) h), fun _ => rfl, fun h => cc.c2 (T 2 (by decide) h), fun h => cc.c3 (T 3 (by decide) h), fun h => cc.c4 (T 4 (by decide) h), fun h => cc.c5 (T 5 (by decide) h), fun h => cc.c6 (T 6 (by decide) h), fun h => by obtain ⟨g', c', e', k1, k2, k3, k4⟩ := cc.c7 (T 7 (by decide) h); exact ⟨g', c', e', k1, k2, k3, fun h6 => k4 (T 8 (by decide) h6)⟩, fun h => S 7 (cc.c8 (T 8 (by decide) h)), fun h => cc.c9 (T 9 (by decide) h)⟩⟩
    · simp at ho
      subst ho
      have T : ∀ j, j ≠ 2 → (listed.setIfInBounds 2 true).getD j false = true → listed.getD j false = true := fun j hj h => (done_set h).resolve_left hj
      have S : ∀ j, listed.getD j false = true → (listed.setIfInBounds 2 true).getD j false = true := fun j h => done_keep h
      have hv0 := ((hF.new (t := 13) (i := 1) (by kernel_rfl) (by simp) (waits_done (i := 2) (j := 1) (by kernel_rfl) hi)).trans (cc.c1 (waits_done (i := 2) (j := 1) (by kernel_rfl) hi)))
      refine wp_callF (f := 9) (args := #[U a]) (v := U x) (by simp [execOp_call_go, ev hv0, go_sem]) (hn.out w') ?_
      intro w'' hb''
      exact ⟨_, rfl, ⟨cc.bw.trans (hb''.mono cc.bw.size), Nat.le_trans cc.ms hb''.size, cc.R0.below hb'', cc.R1.below hb'', fun h => cc.c0 (T 0 (by decide) h), fun h => cc.c1 (T 1 (by decide) h), fun _ => rfl, fun h => cc.c3 (T 3 (by decide) h), fun h => cc.c4 (T 4 (by decide) h), fun h => cc.c5 (T 5 (by decide) h), fun h => cc.c6 (T 6 (by decide) h), fun h => by obtain ⟨g', c', e', k1, k2, k3, k4⟩ := cc.c7 (T 7 (by decide) h); exact ⟨g', c', e', k1, k2.below hb'', k3, fun h6 => k4 (T 8 (by decide) h6)⟩, fun h => S 7 (cc.c8 (T 8 (by decide) h)), fun h => cc.c9 (T 9 (by decide) h)⟩⟩
    · simp at ho
      subst ho
      have T : ∀ j, j ≠ 3 → (listed.setIfInBounds 3 true).getD j false = true → listed.getD j false = true := fun j hj h => (done_set h).resolve_left hj
      have S : ∀ j, listed.getD j false = true → (listed.setIfInBounds 3 true).getD j false = true := fun j h => done_keep h
      have hv0 := ((hF.new (t := 12) (i := 0) (by kernel_rfl) (by simp) (waits_done (i := 3) (j := 0) (by kernel_rfl) hi)).trans (cc.c0 (waits_done (i := 3) (j := 0) (by kernel_rfl) hi)))
      have hv1 := ((hF.new (t := 14) (i := 2) (by kernel_rfl) (by simp) (waits_done (i := 3) (j := 2) (by kernel_rfl) hi)).trans (cc.c2 (waits_done (i := 3) (j := 2) (by kernel_rfl) hi)))
      refine wp_callF (f := 20) (args := #[U a, U x]) (v := .tuple #[I4 0 0 0 0, .bool o]) (by simp [execOp_call_go, ev hv0, ev hv1, go_sem]) (h1.out w') ?_
      intro w'' hb''
      exact ⟨_, rfl, ⟨cc.bw.trans (hb''.mono cc.bw.size), Nat.le_trans cc.ms hb''.size, cc.R0.below hb'', cc.R1.below hb'', fun h => cc.c0 (T 0 (by decide) h), fun h => cc.c1 (T 1 (by decide) h), fun h => cc.c2 (T 2 (by decide) h), fun _ => rfl, fun h => cc.c4 (T 4 (by decide) h), fun h => cc.c5 (T 5 (by decide) h), fun h => cc.c6 (T 6 (by decide) h), fun h => by obtain ⟨g', c', e', k1, k2, k3, k4⟩ := cc.c7 (T 7 (by decide) h); exact ⟨g', c', e', k1, k2.below hb'', k3, fun h6 => k4 (T 8 (by decide) h6)⟩, fun h => S 7 (cc.c8 (T 8 (by decide) h)), fun h => cc.c9 (T 9 (by decide) h)⟩⟩
    · simp at ho
      subst ho
      have T : ∀ j, j ≠ 4 → (listed.setIfInBounds 4 true).getD j false = true → listed.getD j false = true := fun j hj h => (done_set h).resolve_left hj
      have S : ∀ j, listed.getD j false = true → (listed.setIfInBounds 4 true).getD j false = true := fun j h => done_keep h
      have hv := ((hF.new (t := 15) (i := 3) (by kernel_rfl) (by simp) (waits_done (i := 4) (j := 3) (by kernel_rfl) hi)).trans (cc.c3 (waits_done (i := 4) (j := 3) (by kernel_rfl) hi)))
      exact wp_valF (v := .tuple #[I4 0 0 0 0, .bool o]) (w1 := w') (by simp [execOp, go_sem, ev hv]) ⟨_, rfl, ⟨cc.bw, cc.ms, cc.R0, cc.R1, fun h => cc.c0 (T 0 (by decide) h), fun h => cc.c1 (T 1 (by decide) h), fun h => cc.c2 (T 2 (by decide) h), fun h => cc.c3 (T 3 (by decide) h), fun _ => rfl, fun h => cc.c5 (T 5 (by decide) h), fun h => cc.c6 (T 6 (by decide) h), fun h => by obtain ⟨g', c', e', k1, k2, k3, k4⟩ := cc.c7 (T 7 (by decide) h); exact ⟨g', c', e', k1, k2, k3, fun h6 => k4 (T 8 (by decide) h6)⟩, fun h => S 7 (cc.c8 (T 8 (by decide) h)), fun h => cc.c9 (T 9 (by decide) h)⟩⟩
    · simp at ho
      subst ho
      have T : ∀ j, j ≠ 5 → (listed.setIfInBounds 5 true).getD j false = true → listed.getD j false = true := fun j hj h => (done_set h).resolve_left hj
      have S : ∀ j, listed.getD j false = true → (listed.setIfInBounds 5 true).getD j false = true := fun j h => done_keep h
      have hv := ((hF.new (t := 11) (i := 4) (by kernel_rfl) (by simp) (waits_done (i := 5) (j := 4) (by kernel_rfl) hi)).trans (cc.c4 (waits_done (i := 5) (j := 4) (by kernel_rfl) hi)))
      exact wp_valF (v := I4 0 0 0 0) (w1 := w') (by simp [execOp, go_sem, ev hv]) ⟨_, rfl, ⟨cc.bw, cc.ms, cc.R0, cc.R1, fun h => cc.c0 (T 0 (by decide) h), fun h => cc.c1 (T 1 (by decide) h), fun h => cc.c2 (T 2 (by decide) h), fun h => cc.c3 (T 3 (by decide) h), fun h => cc.c4 (T 4 (by decide) h), fun _ => rfl, fun h => cc.c6 (T 6 (by decide) h), fun h => by obtain ⟨g', c', e', k1, k2, k3, k4⟩ := cc.c7 (T 7 (by decide) h); exact ⟨g', c', e', k1, k2, k3, fun h6 => k4 (T 8 (by decide) h6)⟩, fun h => S 7 (cc.c8 (T 8 (by decide) h)), fun h => cc.c9 (T 9 (by decide) h)⟩⟩
    · simp at ho
      subst ho
      have T : ∀ j, j ≠ 6 → (listed.setIfInBounds 6 true).getD j false = true → listed.getD j false = true := fun j hj h => (done_set h).resolve_left hj
      have S : ∀ j, listed.getD j false = true → (listed.setIfInBounds 6 true).getD j false = true := fun j h => done_keep h
      have hv := ((hF.new (t := 11) (i := 4) (by kernel_rfl) (by simp) (waits_done (i := 6) (j := 4) (by kernel_rfl) hi)).trans (cc.c4 (waits_done (i := 6) (j := 4) (by kernel_rfl) hi)))
      exact wp_valF (v := .bool o) (w1 := w') (by simp [execOp, go_sem, ev hv]) ⟨_, rfl, ⟨cc.bw, cc.ms, cc.R0, cc.R1, fun h => cc.c0 (T 0 (by decide) h), fun h => cc.c1 (T 1 (by decide) h), fun h => cc.c2 (T 2 (by decide) h), fun h => cc.c3 (T 3 (by decide) h), fun h => cc.c4 (T 4 (by decide) h), fun h => cc.c5 (T 5 (by decide) h), fun _ => rfl, fun h => by obtain ⟨g', c', e', k1, k2, k3, k4⟩ := cc.c7 (T 7 (by decide) h); exact ⟨g', c', e', k1, k2, k3, fun h6 => k4 (T 8 (by decide) h6)⟩, fun h => S 7 (cc.c8 (T 8 (by decide) h)), fun h => cc.c9 (T 9 (by decide) h)⟩⟩
    · simp at ho
      subst ho
      have T : ∀ j, j ≠ 7 → (listed.setIfInBounds 7 true).getD j false = true → listed.getD j false = true := fun j hj h => (done_set h).resolve_left hj
      have S : ∀ j, listed.getD j false = true → (listed.setIfInBounds 7 true).getD j false = true := fun j h => done_keep h
      have hun : ¬ listed.getD 7 false = true := fun h => undone hi hs h
      exact wp_valF (v := .pointer (some ⟨w'.heap.size, 0, none⟩)) (w1 := w'.alloc (.cells #[.int .u64 0, .int .u64 0, .int .u64 0, .int .u64 0] 24)) (by simp [execOp, go_sem]) ⟨_, rfl, ⟨bel_alloc cc.bw _, by have := cc.ms; simp; omega, cc.R0.old, cc.R1.old, fun h => cc.c0 (T 0 (by decide) h), fun h => cc.c1 (T 1 (by decide) h), fun h => cc.c2 (T 2 (by decide) h), fun h => cc.c3 (T 3 (by decide) h), fun h => cc.c4 (T 4 (by decide) h), fun h => cc.c5 (T 5 (by decide) h), fun h => cc.c6 (T 6 (by decide) h), fun _ => ⟨w'.heap.size, #[.int .u64 0, .int .u64 0, .int .u64 0, .int .u64 0], rfl, cc.ms, HasRow.last rfl, rfl, fun h6 => absurd (cc.c8 (T 8 (by decide) h6)) hun⟩, fun h => S 7 (cc.c8 (T 8 (by decide) h)), fun h => cc.c9 (T 9 (by decide) h)⟩⟩
    · simp at ho
      subst ho
      have T : ∀ j, j ≠ 8 → (listed.setIfInBounds 8 true).getD j false = true → listed.getD j false = true := fun j hj h => (done_set h).resolve_left hj
      have S : ∀ j, listed.getD j false = true → (listed.setIfInBounds 8 true).getD j false = true := fun j h => done_keep h
      have d4 := (waits_done (i := 8) (j := 7) (by kernel_rfl) hi)
      obtain ⟨g, c, e, h1, h2, h3, h4⟩ := cc.c7 d4
      have hx := (hF.new (t := 5) (i := 7) (by kernel_rfl) (by simp) d4).trans e
      have hv := ((hF.new (t := 16) (i := 5) (by kernel_rfl) (by simp) (waits_done (i := 8) (j := 5) (by kernel_rfl) hi)).trans (cc.c5 (waits_done (i := 8) (j := 5) (by kernel_rfl) hi)))
      exact wp_rowS 24 (.tmp 5) (.tmp 16) rfl g (c' := #[.int .u64 0, .int .u64 0, .int .u64 0, .int .u64 0]) hx hv h2 h3 rfl (by simp [Value.oneCell']) (by kernel_rfl) ⟨_, rfl, ⟨below_setRow cc.bw (by omega) _, by rw [size_setRow]; exact cc.ms, cc.R0.set_other _ (by omega), cc.R1.set_other _ (by omega), fun h => cc.c0 (T 0 (by decide) h), fun h => cc.c1 (T 1 (by decide) h), fun h => cc.c2 (T 2 (by decide) h), fun h => cc.c3 (T 3 (by decide) h), fun h => cc.c4 (T 4 (by decide) h), fun h => cc.c5 (T 5 (by decide) h), fun h => cc.c6 (T 6 (by decide) h), fun h => ⟨g, _, e, h1, h2.set_same _, rfl, fun _ => rfl⟩, fun _ => S 7 d4, fun h => cc.c9 (T 9 (by decide) h)⟩⟩
    · simp at ho
      subst ho
      have T : ∀ j, j ≠ 9 → (listed.setIfInBounds 9 true).getD j false = true → listed.getD j false = true := fun j hj h => (done_set h).resolve_left hj
      have S : ∀ j, listed.getD j false = true → (listed.setIfInBounds 9 true).getD j false = true := fun j h => done_keep h
      have hv := ((hF.new (t := 17) (i := 6) (by kernel_rfl) (by simp) (waits_done (i := 9) (j := 6) (by kernel_rfl) hi)).trans (cc.c6 (waits_done (i := 9) (j := 6) (by kernel_rfl) hi)))
      exact wp_valF (v := .bool o) (w1 := w') (by simp [execOp, go_sem, ev hv]) ⟨_, rfl, ⟨cc.bw, cc.ms, cc.R0, cc.R1, fun h => cc.c0 (T 0 (by decide) h), fun h => cc.c1 (T 1 (by decide) h), fun h => cc.c2 (T 2 (by decide) h), fun h => cc.c3 (T 3 (by decide) h), fun h => cc.c4 (T 4 (by decide) h), fun h => cc.c5 (T 5 (by decide) h), fun h => cc.c6 (T 6 (by decide) h), fun h => by obtain ⟨g', c', e', k1, k2, k3, k4⟩ := cc.c7 (T 7 (by decide) h); exact ⟨g', c', e', k1, k2, k3, fun h6 => k4 (T 8 (by decide) h6)⟩, fun h => S 7 (cc.c8 (T 8 (by decide) h)), fun _ => rfl⟩⟩
  · intro listed vs a' w1 hd hF cc
    have e : a' = ({ tmps := #[U a, I4 0 0 0 0, .pointer (some ⟨w.heap.size, 0, none⟩), .pointer (some ⟨w.heap.size + 1, 0, none⟩), .bool false, vs 7, vs 9, undef, undef, undef, undef, vs 4, vs 0, vs 1, vs 2, vs 3, vs 5, vs 6, undef, undef, undef, undef, undef, undef, undef, undef, undef, undef, undef, undef, undef, undef, undef, undef, undef, undef, undef, undef, undef, undef, undef, undef, undef, undef, undef, undef, undef, undef, undef, undef, undef, undef, undef, undef, undef, undef, undef, undef, undef, undef, undef, undef], defers := [] } : Act) := (hF.all hd).trans (by kernel_rfl)
    subst e
    obtain ⟨g7, cx, e7, h17, h2, h3, h4⟩ := cc.c7 (hd 7 (by simp))
    rw [h4 (hd 8 (by simp))] at h2
    have RX7 : Hid (HasRow w1 g7 #[.int .u64 0, .int .u64 0, .int .u64 0, .int .u64 0]) := h2
    clear h2 h3 h4
    have R0_1 : Hid (HasRow w1 (w.heap.size) #[B (l0 a), B (l1 a), B (l2 a), B (l3 a)]) := cc.R0
    have R1_1 : Hid (HasRow w1 (w.heap.size + 1) #[.int .u64 0, .int .u64 0, .int .u64 0, .int .u64 0]) := cc.R1
    have B1 : Hid (Below w.heap.size w w1) := cc.bw
    rw [e7]
    clear cc hd hF BF e7 RF0 RF1
    have R2_1 : Hid (HasRow w1 g7 #[.int .u64 0, .int .u64 0, .int .u64 0, .int .u64 0]) := RX7
    clear RX7
    have q0_1 := R0_1.out.lt
    have q1_1 := R1_1.out.lt
    have q2_1 := R2_1.out.lt
    have c0_0_1 : w1.cell? ⟨w.heap.size, 0, none⟩ = some (B (l0 a)) := R0_1.out.cell 0
    have c0_1_1 : w1.cell? ⟨w.heap.size, 1, none⟩ = some (B (l1 a)) := R0_1.out.cell 1
    have c0_2_1 : w1.cell? ⟨w.heap.size, 2, none⟩ = some (B (l2 a)) := R0_1.out.cell 2
    have c0_3_1 : w1.cell? ⟨w.heap.size, 3, none⟩ = some (B (l3 a)) := R0_1.out.cell 3
    have c1_0_1 : w1.cell? ⟨w.heap.size + 1, 0, none⟩ = some (.int .u64 0) := R1_1.out.cell 0
    have c1_1_1 : w1.cell? ⟨w.heap.size + 1, 1, none⟩ = some (.int .u64 0) := R1_1.out.cell 1
    have c1_2_1 : w1.cell? ⟨w.heap.size + 1, 2, none⟩ = some (.int .u64 0) := R1_1.out.cell 2
    have c1_3_1 : w1.cell? ⟨w.heap.size + 1, 3, none⟩ = some (.int .u64 0) := R1_1.out.cell 3
    go_wp2_with fail
    refine (hd.out _).mono ?_
    rintro e w2 ⟨rfl, hb2⟩
    have R0_2 : Hid (HasRow w2 (w.heap.size) #[B (l0 a), B (l1 a), B (l2 a), B (l3 a)]) := R0_1.out.below hb2
    have R1_2 : Hid (HasRow w2 (w.heap.size + 1) #[.int .u64 0, .int .u64 0, .int .u64 0, .int .u64 0]) := R1_1.out.below hb2
    have R2_2 : Hid (HasRow w2 (g7) #[.int .u64 0, .int .u64 0, .int .u64 0, .int .u64 0]) := R2_1.out.below hb2
    have B2 : Hid (Below w.heap.size w w2) := bel_call B1.out hb2
    clear hb2
    clear q0_1 q1_1 q2_1 c0_0_1 c0_1_1 c0_2_1 c0_3_1 c1_0_1 c1_1_1 c1_2_1 c1_3_1
    have q0_2 := R0_2.out.lt
    have q1_2 := R1_2.out.lt
    have q2_2 := R2_2.out.lt
    have c0_0_2 : w2.cell? ⟨w.heap.size, 0, none⟩ = some (B (l0 a)) := R0_2.out.cell 0
    have c0_1_2 : w2.cell? ⟨w.heap.size, 1, none⟩ = some (B (l1 a)) := R0_2.out.cell 1
    have c0_2_2 : w2.cell? ⟨w.heap.size, 2, none⟩ = some (B (l2 a)) := R0_2.out.cell 2
    have c0_3_2 : w2.cell? ⟨w.heap.size, 3, none⟩ = some (B (l3 a)) := R0_2.out.cell 3
    have c1_0_2 : w2.cell? ⟨w.heap.size + 1, 0, none⟩ = some (.int .u64 0) := R1_2.out.cell 0
    have c1_1_2 : w2.cell? ⟨w.heap.size + 1, 1, none⟩ = some (.int .u64 0) := R1_2.out.cell 1
    have c1_2_2 : w2.cell? ⟨w.heap.size + 1, 2, none⟩ = some (.int .u64 0) := R1_2.out.cell 2
    have c1_3_2 : w2.cell? ⟨w.heap.size + 1, 3, none⟩ = some (.int .u64 0) := R1_2.out.cell 3
    have c2_0_2 : w2.cell? ⟨g7, 0, none⟩ = some (.int .u64 0) := R2_2.out.cell 0
    have c2_1_2 : w2.cell? ⟨g7, 1, none⟩ = some (.int .u64 0) := R2_2.out.cell 1
    have c2_2_2 : w2.cell? ⟨g7, 2, none⟩ = some (.int .u64 0) := R2_2.out.cell 2
    have c2_3_2 : w2.cell? ⟨g7, 3, none⟩ = some (.int .u64 0) := R2_2.out.cell 3
    go_wp2_with fail
    refine (ha.out _).mono ?_
    rintro e w3 ⟨rfl, hb3⟩
    have R0_3 : Hid (HasRow w3 (w.heap.size) #[B (l0 a), B (l1 a), B (l2 a), B (l3 a)]) := (HasRow.old (HasRow.old R0_2.out)).below hb3
    have R1_3 : Hid (HasRow w3 (w.heap.size + 1) #[.int .u64 0, .int .u64 0, .int .u64 0, .int .u64 0]) := (HasRow.old (HasRow.old R1_2.out)).below hb3
    have R2_3 : Hid (HasRow w3 (g7) #[.int .u64 0, .int .u64 0, .int .u64 0, .int .u64 0]) := (HasRow.old (HasRow.old R2_2.out)).below hb3
    have R3_3 : Hid (HasRow w3 (w2.heap.size) #[.int .u64 0, .int .u64 0, .int .u64 0, .int .u64 0]) := (HasRow.old (HasRow.last (by simp))).below hb3
    have R4_3 : Hid (HasRow w3 (w2.heap.size + 1) #[.int .u64 0, .int .u64 0, .int .u64 0, .int .u64 0]) := (HasRow.last (by simp)).below hb3
    have B3 : Hid (Below w.heap.size w w3) := bel_call (bel_alloc (bel_alloc B2.out _) _) hb3
    clear hb3
    clear q0_2 q1_2 q2_2 c0_0_2 c0_1_2 c0_2_2 c0_3_2 c1_0_2 c1_1_2 c1_2_2 c1_3_2 c2_0_2 c2_1_2 c2_2_2 c2_3_2
    have q0_3 := R0_3.out.lt
    have q1_3 := R1_3.out.lt
    have q2_3 := R2_3.out.lt
    have q3_3 := R3_3.out.lt
    have q4_3 := R4_3.out.lt
    go_wp2
    go_ret
    exact ⟨rfl, B3.out⟩
structure CB1 (w : World) (N0 : Nat) (a x : Nat) (o : Bool) (b : Nat) (listed : Array Bool) (vs : Nat → Value) (w' : World) : Prop where
  bw : Below w.heap.size w w'
  ms : N0 ≤ w'.heap.size
  R0 : HasRow w' (w.heap.size) #[B (l0 a), B (l1 a), B (l2 a), B (l3 a)]
  R1 : HasRow w' (w.heap.size + 1) #[B (l0 b), B (l1 b), B (l2 b), B (l3 b)]
  c0 : listed.getD 0 false = true → vs 0 = U a
  c1 : listed.getD 1 false = true → vs 1 = U a
  c2 : listed.getD 2 false = true → vs 2 = U x
  c3 : listed.getD 3 false = true → vs 3 = .tuple #[I4 0 0 0 0, .bool o]
  c4 : listed.getD 4 false = true → vs 4 = .tuple #[I4 0 0 0 0, .bool o]
  c5 : listed.getD 5 false = true → vs 5 = I4 0 0 0 0
  c6 : listed.getD 6 false = true → vs 6 = .bool o
  c7 : listed.getD 7 false = true → ∃ g c, vs 7 = .pointer (some ⟨g, 0, none⟩) ∧ N0 ≤ g ∧ HasRow w' g c ∧ c.size = 4 ∧ (listed.getD 8 false = true → c = #[.int .u64 0, .int .u64 0, .int .u64 0, .int .u64 0])
  c8 : listed.getD 8 false = true → listed.getD 7 false = true
  c9 : listed.getD 9 false = true → vs 9 = .bool o
structure CB2 (w : World) (N0 : Nat) (a b q r y bz bq br : Nat) (v : Bool) (listed : Array Bool) (vs : Nat → Value) (w' : World) : Prop where
  bw : Below w.heap.size w w'
  ms : N0 ≤ w'.heap.size
  R0 : HasRow w' (w.heap.size) #[B (l0 a), B (l1 a), B (l2 a), B (l3 a)]
  R1 : HasRow w' (w.heap.size + 1) #[B (l0 b), B (l1 b), B (l2 b), B (l3 b)]
  R2 : HasRow w' (bz) #[.int .u64 0, .int .u64 0, .int .u64 0, .int .u64 0]
  R3 : HasRow w' (bq) #[B (l0 q), B (l1 q), B (l2 q), B (l3 q)]
  R4 : HasRow w' (br) #[B (l0 r), B (l1 r), B (l2 r), B (l3 r)]
  c0 : listed.getD 0 false = true → vs 0 = U q
  c1 : listed.getD 1 false = true → vs 1 = U b
  c2 : listed.getD 2 false = true → vs 2 = U y
  c3 : listed.getD 3 false = true → vs 3 = U r
  c4 : listed.getD 4 false = true → vs 4 = .tuple #[U a, .bool v]
  c5 : listed.getD 5 false = true → vs 5 = .tuple #[U a, .bool v]
  c6 : listed.getD 6 false = true → vs 6 = U a
  c7 : listed.getD 7 false = true → vs 7 = .bool v
  c8 : listed.getD 8 false = true → ∃ g c, vs 8 = .pointer (some ⟨g, 0, none⟩) ∧ N0 ≤ g ∧ HasRow w' g c ∧ c.size = 4 ∧ (listed.getD 9 false = true → c = #[B (l0 a), B (l1 a), B (l2 a), B (l3 a)])
  c9 : listed.getD 9 false = true → listed.getD 8 false = true
  c10 : listed.getD 10 false = true → vs 10 = .bool v

set_option maxRecDepth 100000 in
set_option maxHeartbeats 4000000 in
theorem back4_gen (a b x q r y : Nat) (o v : Bool)
    (hn : Hid (∀ w, Calls Try.prog 9 #[U a] w fun e w' => e = .returned (U x) ∧ Below w.heap.size w w'))
    (h1 : Hid (∀ w, Calls Try.prog 20 #[U a, U x] w fun e w' => e = .returned (.tuple #[I4 0 0 0 0, .bool o]) ∧ Below w.heap.size w w'))
    (hd : Hid (∀ w, Calls Try.prog 7 #[U a, U b] w fun e w' => e = .returned (.tuple #[U q, U r]) ∧ Below w.heap.size w w'))
    (hm : Hid (∀ w, Calls Try.prog 21 #[U q, U b] w fun e w' => e = .returned (U y) ∧ Below w.heap.size w w'))
    (h2 : Hid (∀ w, Calls Try.prog 20 #[U y, U r] w fun e w' => e = .returned (.tuple #[U a, .bool v]) ∧ Below w.heap.size w w'))
    (ha : Hid (∀ w, Calls Try.prog 19 #[] w fun e w' => e = .returned (.bool true) ∧ Below w.heap.size w w'))
    (hb : ∀ w, (Op.equalIn 10000 24 (U b) (I4 0 0 0 0)).run Try.prog w = .ok false w) (w : World) :
    Calls Try.prog 4 #[U a, U b] w fun e w' => e = .returned (.bool true) ∧ Below w.heap.size w w' := by
  go_enter Try.func4, Try.ntmps4
  go_wp2_with fail
  refine name_world _ ?_
  intro wF hF0
  have RF0 : Hid (HasRow wF (w.heap.size) #[B (l0 a), B (l1 a), B (l2 a), B (l3 a)]) := by rw [hF0]; exact (HasRow.old (HasRow.last (by simp)))
  have RF1 : Hid (HasRow wF (w.heap.size + 1) #[B (l0 b), B (l1 b), B (l2 b), B (l3 b)]) := by rw [hF0]; exact (HasRow.last (by simp))
  have BF : Hid (Below w.heap.size w wF) := by rw [hF0]; exact (bel_alloc (bel_alloc (Below.refl _ _) _) _)
  clear hF0
  obtain ⟨N0, hN0⟩ : ∃ n, n = wF.heap.size := ⟨_, rfl⟩
  have qF0 : w.heap.size < N0 := by rw [hN0]; exact RF0.out.lt
  have qF1 : w.heap.size + 1 < N0 := by rw [hN0]; exact RF1.out.lt
  refine wp_region_vals2 (by kernel_rfl) (by kernel_rfl) (by kernel_rfl) (CB1 w N0 a x o b) ?_ ?_ ?_
  · refine ⟨BF.out.drew, by rw [hN0]; exact Nat.le_refl _, RF0.out, RF1.out, ?_, ?_, ?_, ?_, ?_, ?_, ?_, ?_, ?_, ?_⟩ <;> (intro h; simp [Array.getD] at h)
  · intro listed vs a' w' i o' hs ho hi hF cc
    have hin : i < 10 := by have := (Array.getElem?_eq_some_iff.1 ho).1; simpa using this
    have hcase : i = 0 ∨ i = 1 ∨ i = 2 ∨ i = 3 ∨ i = 4 ∨ i = 5 ∨ i = 6 ∨ i = 7 ∨ i = 8 ∨ i = 9 := by omega
    rcases hcase with rfl | rfl | rfl | rfl | rfl | rfl | rfl | rfl | rfl | rfl
    · simp at ho
      subst ho
      have T : ∀ j, j ≠ 0 → (listed.setIfInBounds 0 true).getD j false = true → listed.getD j false = true := fun j hj h => (done_set h).resolve_left hj
      have S : ∀ j, listed.getD j false = true → (listed.setIfInBounds 0 true).getD j false = true := fun j h => done_keep h
      exact wp_rowF 24 (.tmp 2) rfl (w.heap.size) ((hF.old (by kernel_rfl)).trans rfl) cc.R0 rfl Try.underlying24 (by kernel_rfl) ⟨_, rfl, ⟨cc.bw, cc.ms, cc.R0, cc.R1, fun _ => rfl, fun h => cc.c1 (T 1 (by decide) h), fun h => cc.c2 (T 2 (by decide) h), fun h => cc.c3 (T 3 (by decide) h), fun h => cc.c4 (T 4 (by decide) h), fun h => cc.c5 (T 5 (by decide) h), fun h => cc.c6 (T 6 (by decide) h), fun h => by obtain ⟨g', c', e', k1, k2, k3, k4⟩ := cc.c7 (T 7 (by decide) h); exact ⟨g', c', e', k1, k2, k3, fun h6 => k4 (T 8 (by decide) h6)⟩, fun h => S 7 (cc.c8 (T 8 (by decide) h)), fun h => cc.c9 (T 9 (by decide) h)⟩⟩
    · simp at ho
      subst ho
      have T : ∀ j, j ≠ 1 → (listed.setIfInBounds 1 true).getD j false = true → listed.getD j false = true := fun j hj h => (done_set h).resolve_left hj
      have S : ∀ j, listed.getD j false = true → (listed.setIfInBounds 1 true).getD j false = true := fun j h => done_keep h
      exact wp_rowF 24 (.tmp 2) rfl (w.heap.size) ((hF.old (by kernel_rfl)).trans rfl) cc.R0 rfl Try.underlying24 (by kernel_rfl) ⟨_, rfl, ⟨cc.bw, cc.ms, cc.R0, cc.R1, fun h => cc.c0 (T 0 (by decide) h), fun _ => rfl, fun h => cc.c2 (T 2 (by decide) h), fun h => cc.c3 (T 3 (by decide) h), fun h => cc.c4 (T 4 (by decide) h), fun h => cc.c5 (T 5 (by decide) h), fun h => cc.c6 (T 6 (by decide) h), fun h => by obtain ⟨g', c', e', k1, k2, k3, k4⟩ := cc.c7 (T 7 (by decide) h); exact ⟨g', c', e', k1, k2, k3, fun h6 => k4 (T 8 (by decide) h6)⟩, fun h => S 7 (cc.c8 (T 8 (by decide) h)), fun h => cc.c9 (T 9 (by decide) h)⟩⟩
    · simp at ho
      subst ho
      have T : ∀ j, j ≠ 2 → (listed.setIfInBounds 2 true).getD j false = true → listed.getD j false = true := fun j hj h => (done_set h).resolve_left hj
      have S : ∀ j, listed.getD j false = true → (listed.setIfInBounds 2 true).getD j false = true := fun j h => done_keep h
      have hv0 := ((hF.new (t := 13) (i := 1) (by kernel_rfl) (by simp) (waits_done (i := 2) (j := 1) (by kernel_rfl) hi)).trans (cc.c1 (waits_done (i := 2) (j := 1) (by kernel_rfl) hi)))
      refine wp_callF (f := 9) (args := #[U a]) (v := U x) (by simp [execOp_call_go, ev hv0, go_sem]) (hn.out w') ?_
      intro w'' hb''
      exact ⟨_, rfl, ⟨cc.bw.trans (hb''.mono cc.bw.size), Nat.le_trans cc.ms hb''.size, cc.R0.below hb'', cc.R1.below hb'', fun h => cc.c0 (T 0 (by decide) h), fun h => cc.c1 (T 1 (by decide) h), fun _ => rfl, fun h => cc.c3 (T 3 (by decide) h), fun h => cc.c4 (T 4 (by decide) h), fun h => cc.c5 (T 5 (by decide) h), fun h => cc.c6 (T 6 (by decide) h), fun h => by obtain ⟨g', c', e', k1, k2, k3, k4⟩ := cc.c7 (T 7 (by decide) h); exact ⟨g', c', e', k1, k2.below hb'', k3, fun h6 => k4 (T 8 (by decide) h6)⟩, fun h => S 7 (cc.c8 (T 8 (by decide) h)), fun h => cc.c9 (T 9 (by decide) h)⟩⟩
    · simp at ho
      subst ho
      have T : ∀ j, j ≠ 3 → (listed.setIfInBounds 3 true).getD j false = true → listed.getD j false = true := fun j hj h => (done_set h).resolve_left hj
      have S : ∀ j, listed.getD j false = true → (listed.setIfInBounds 3 true).getD j false = true := fun j h => done_keep h
      have hv0 := ((hF.new (t := 12) (i := 0) (by kernel_rfl) (by simp) (waits_done (i := 3) (j := 0) (by kernel_rfl) hi)).trans (cc.c0 (waits_done (i := 3) (j := 0) (by kernel_rfl) hi)))
      have hv1 := ((hF.new (t := 14) (i := 2) (by kernel_rfl) (by simp) (waits_done (i := 3) (j := 2) (by kernel_rfl) hi)).trans (cc.c2 (waits_done (i := 3) (j := 2) (by kernel_rfl) hi)))
      refine wp_callF (f := 20) (args := #[U a, U x]) (v := .tuple #[I4 0 0 0 0, .bool o]) (by simp [execOp_call_go, ev hv0, ev hv1, go_sem]) (h1.out w') ?_
      intro w'' hb''
      exact ⟨_, rfl, ⟨cc.bw.trans (hb''.mono cc.bw.size), Nat.le_trans cc.ms hb''.size, cc.R0.below hb'', cc.R1.below hb'', fun h => cc.c0 (T 0 (by decide) h), fun h => cc.c1 (T 1 (by decide) h), fun h => cc.c2 (T 2 (by decide) h), fun _ => rfl, fun h => cc.c4 (T 4 (by decide) h), fun h => cc.c5 (T 5 (by decide) h), fun h => cc.c6 (T 6 (by decide) h), fun h => by obtain ⟨g', c', e', k1, k2, k3, k4⟩ := cc.c7 (T 7 (by decide) h); exact ⟨g', c', e', k1, k2.below hb'', k3, fun h6 => k4 (T 8 (by decide) h6)⟩, fun h => S 7 (cc.c8 (T 8 (by decide) h)), fun h => cc.c9 (T 9 (by decide) h)⟩⟩
    · simp at ho
      subst ho
      have T : ∀ j, j ≠ 4 → (listed.setIfInBounds 4 true).getD j false = true → listed.getD j false = true := fun j hj h => (done_set h).resolve_left hj
      have S : ∀ j, listed.getD j false = true → (listed.setIfInBounds 4 true).getD j false = true := fun j h => done_keep h
      have hv := ((hF.new (t := 15) (i := 3) (by kernel_rfl) (by simp) (waits_done (i := 4) (j := 3) (by kernel_rfl) hi)).trans (cc.c3 (waits_done (i := 4) (j := 3) (by kernel_rfl) hi)))
      exact wp_valF (v := .tuple #[I4 0 0 0 0, .bool o]) (w1 := w') (by simp [execOp, go_sem, ev hv]) ⟨_, rfl, ⟨cc.bw, cc.ms, cc.R0, cc.R1, fun h => cc.c0 (T 0 (by decide) h), fun h => cc.c1 (T 1 (by decide) h), fun h => cc.c2 (T 2 (by decide) h), fun h => cc.c3 (T 3 (by decide) h), fun _ => rfl, fun h => cc.c5 (T 5 (by decide) h), fun h => cc.c6 (T 6 (by decide) h), fun h => by obtain ⟨g', c', e', k1, k2, k3, k4⟩ := cc.c7 (T 7 (by decide) h); exact ⟨g', c', e', k1, k2, k3, fun h6 => k4 (T 8 (by decide) h6)⟩, fun h => S 7 (cc.c8 (T 8 (by decide) h)), fun h => cc.c9 (T 9 (by decide) h)⟩⟩
    · simp at ho
      subst ho
      have T : ∀ j, j ≠ 5 → (listed.setIfInBounds 5 true).getD j false = true → listed.getD j false = true := fun j hj h => (done_set h).resolve_left hj
      have S : ∀ j, listed.getD j false = true → (listed.setIfInBounds 5 true).getD j false = true := fun j h => done_keep h
      have hv := ((hF.new (t := 11) (i := 4) (by kernel_rfl) (by simp) (waits_done (i := 5) (j := 4) (by kernel_rfl) hi)).trans (cc.c4 (waits_done (i := 5) (j := 4) (by kernel_rfl) hi)))
      exact wp_valF (v := I4 0 0 0 0) (w1 := w') (by simp [execOp, go_sem, ev hv]) ⟨_, rfl, ⟨cc.bw, cc.ms, cc.R0, cc.R1, fun h => cc.c0 (T 0 (by decide) h), fun h => cc.c1 (T 1 (by decide) h), fun h => cc.c2 (T 2 (by decide) h), fun h => cc.c3 (T 3 (by decide) h), fun h => cc.c4 (T 4 (by decide) h), fun _ => rfl, fun h => cc.c6 (T 6 (by decide) h), fun h => by obtain ⟨g', c', e', k1, k2, k3, k4⟩ := cc.c7 (T 7 (by decide) h); exact ⟨g', c', e', k1, k2, k3, fun h6 => k4 (T 8 (by decide) h6)⟩, fun h => S 7 (cc.c8 (T 8 (by decide) h)), fun h => cc.c9 (T 9 (by decide) h)⟩⟩
    · simp at ho
      subst ho
      have T : ∀ j, j ≠ 6 → (listed.setIfInBounds 6 true).getD j false = true → listed.getD j false = true := fun j hj h => (done_set h).resolve_left hj
      have S : ∀ j, listed.getD j false = true → (listed.setIfInBounds 6 true).getD j false = true := fun j h => done_keep h
      have hv := ((hF.new (t := 11) (i := 4) (by kernel_rfl) (by simp) (waits_done (i := 6) (j := 4) (by kernel_rfl) hi)).trans (cc.c4 (waits_done (i := 6) (j := 4) (by kernel_rfl) hi)))
      exact wp_valF (v := .bool o) (w1 := w') (by simp [execOp, go_sem, ev hv]) ⟨_, rfl, ⟨cc.bw, cc.ms, cc.R0, cc.R1, fun h => cc.c0 (T 0 (by decide) h), fun h => cc.c1 (T 1 (by decide) h), fun h => cc.c2 (T 2 (by decide) h), fun h => cc.c3 (T 3 (by decide) h), fun h => cc.c4 (T 4 (by decide) h), fun h => cc.c5 (T 5 (by decide) h), fun _ => rfl, fun h => by obtain ⟨g', c', e', k1, k2, k3, k4⟩ := cc.c7 (T 7 (by decide) h); exact ⟨g', c', e', k1, k2, k3, fun h6 => k4 (T 8 (by decide) h6)⟩, fun h => S 7 (cc.c8 (T 8 (by decide) h)), fun h => cc.c9 (T 9 (by decide) h)⟩⟩
    · simp at ho
      subst ho
      have T : ∀ j, j ≠ 7 → (listed.setIfInBounds 7 true).getD j false = true → listed.getD j false = true := fun j hj h => (done_set h).resolve_left hj
      have S : ∀ j, listed.getD j false = true → (listed.setIfInBounds 7 true).getD j false = true := fun j h => done_keep h
      have hun : ¬ listed.getD 7 false = true := fun h => undone hi hs h
      exact wp_valF (v := .pointer (some ⟨w'.heap.size, 0, none⟩)) (w1 := w'.alloc (.cells #[.int .u64 0, .int .u64 0, .int .u64 0, .int .u64 0] 24)) (by simp [execOp, go_sem]) ⟨_, rfl, ⟨bel_alloc cc.bw _, by have := cc.ms; simp; omega, cc.R0.old, cc.R1.old, fun h => cc.c0 (T 0 (by decide) h), fun h => cc.c1 (T 1 (by decide) h), fun h => cc.c2 (T 2 (by decide) h), fun h => cc.c3 (T 3 (by decide) h), fun h => cc.c4 (T 4 (by decide) h), fun h => cc.c5 (T 5 (by decide) h), fun h => cc.c6 (T 6 (by decide) h), fun _ => ⟨w'.heap.size, #[.int .u64 0, .int .u64 0, .int .u64 0, .int .u64 0], rfl, cc.ms, HasRow.last rfl, rfl, fun h6 => absurd (cc.c8 (T 8 (by decide) h6)) hun⟩, fun h => S 7 (cc.c8 (T 8 (by decide) h)), fun h => cc.c9 (T 9 (by decide) h)⟩⟩
    · simp at ho
      subst ho
      have T : ∀ j, j ≠ 8 → (listed.setIfInBounds 8 true).getD j false = true → listed.getD j false = true := fun j hj h => (done_set h).resolve_left hj
      have S : ∀ j, listed.getD j false = true → (listed.setIfInBounds 8 true).getD j false = true := fun j h => done_keep h
      have d4 := (waits_done (i := 8) (j := 7) (by kernel_rfl) hi)
      obtain ⟨g, c, e, h1, h2, h3, h4⟩ := cc.c7 d4
      have hx := (hF.new (t := 5) (i := 7) (by kernel_rfl) (by simp) d4).trans e
      have hv := ((hF.new (t := 16) (i := 5) (by kernel_rfl) (by simp) (waits_done (i := 8) (j := 5) (by kernel_rfl) hi)).trans (cc.c5 (waits_done (i := 8) (j := 5) (by kernel_rfl) hi)))
      exact wp_rowS 24 (.tmp 5) (.tmp 16) rfl g (c' := #[.int .u64 0, .int .u64 0, .int .u64 0, .int .u64 0]) hx hv h2 h3 rfl (by simp [Value.oneCell']) (by kernel_rfl) ⟨_, rfl, ⟨below_setRow cc.bw (by omega) _, by rw [size_setRow]; exact cc.ms, cc.R0.set_other _ (by omega), cc.R1.set_other _ (by omega), fun h => cc.c0 (T 0 (by decide) h), fun h => cc.c1 (T 1 (by decide) h), fun h => cc.c2 (T 2 (by decide) h), fun h => cc.c3 (T 3 (by decide) h), fun h => cc.c4 (T 4 (by decide) h), fun h => cc.c5 (T 5 (by decide) h), fun h => cc.c6 (T 6 (by decide) h), fun h => ⟨g, _, e, h1, h2.set_same _, rfl, fun _ => rfl⟩, fun _ => S 7 d4, fun h => cc.c9 (T 9 (by decide) h)⟩⟩
    · simp at ho
      subst ho
      have T : ∀ j, j ≠ 9 → (listed.setIfInBounds 9 true).getD j false = true → listed.getD j false = true := fun j hj h => (done_set h).resolve_left hj
      have S : ∀ j, listed.getD j false = true → (listed.setIfInBounds 9 true).getD j false = true := fun j h => done_keep h
      have hv := ((hF.new (t := 17) (i := 6) (by kernel_rfl) (by simp) (waits_done (i := 9) (j := 6) (by kernel_rfl) hi)).trans (cc.c6 (waits_done (i := 9) (j := 6) (by kernel_rfl) hi)))
      exact wp_valF (v := .bool o) (w1 := w') (by simp [execOp, go_sem, ev hv]) ⟨_, rfl, ⟨cc.bw, cc.ms, cc.R0, cc.R1, fun h => cc.c0 (T 0 (by decide) h), fun h => cc.c1 (T 1 (by decide) h), fun h => cc.c2 (T 2 (by decide) h), fun h => cc.c3 (T 3 (by decide) h), fun h => cc.c4 (T 4 (by decide) h), fun h => cc.c5 (T 5 (by decide) h), fun h => cc.c6 (T 6 (by decide) h), fun h => by obtain ⟨g', c', e', k1, k2, k3, k4⟩ := cc.c7 (T 7 (by decide) h); exact ⟨g', c', e', k1, k2, k3, fun h6 => k4 (T 8 (by decide) h6)⟩, fun h => S 7 (cc.c8 (T 8 (by decide) h)), fun _ => rfl⟩⟩
  · intro listed vs a' w1 hd hF cc
    have e : a' = ({ tmps := #[U a, U b, .pointer (some ⟨w.heap.size, 0, none⟩), .pointer (some ⟨w.heap.size + 1, 0, none⟩), .bool false, vs 7, vs 9, undef, undef, undef, undef, vs 4, vs 0, vs 1, vs 2, vs 3, vs 5, vs 6, undef, undef, undef, undef, undef, undef, undef, undef, undef, undef, undef, undef, undef, undef, undef, undef, undef, undef, undef, undef, undef, undef, undef, undef, undef, undef, undef, undef, undef, undef, undef, undef, undef, undef, undef, undef, undef, undef, undef, undef, undef, undef, undef, undef], defers := [] } : Act) := (hF.all hd).trans (by kernel_rfl)
    subst e
    obtain ⟨g7, cx, e7, h17, h2, h3, h4⟩ := cc.c7 (hd 7 (by simp))
    rw [h4 (hd 8 (by simp))] at h2
    have RX7 : Hid (HasRow w1 g7 #[.int .u64 0, .int .u64 0, .int .u64 0, .int .u64 0]) := h2
    clear h2 h3 h4
    have R0_1 : Hid (HasRow w1 (w.heap.size) #[B (l0 a), B (l1 a), B (l2 a), B (l3 a)]) := cc.R0
    have R1_1 : Hid (HasRow w1 (w.heap.size + 1) #[B (l0 b), B (l1 b), B (l2 b), B (l3 b)]) := cc.R1
    have B1 : Hid (Below w.heap.size w w1) := cc.bw
    rw [e7]
    clear cc hd hF BF e7 RF0 RF1
    have R2_1 : Hid (HasRow w1 g7 #[.int .u64 0, .int .u64 0, .int .u64 0, .int .u64 0]) := RX7
    clear RX7
    have q0_1 := R0_1.out.lt
    have q1_1 := R1_1.out.lt
    have q2_1 := R2_1.out.lt
    have c0_0_1 : w1.cell? ⟨w.heap.size, 0, none⟩ = some (B (l0 a)) := R0_1.out.cell 0
    have c0_1_1 : w1.cell? ⟨w.heap.size, 1, none⟩ = some (B (l1 a)) := R0_1.out.cell 1
    have c0_2_1 : w1.cell? ⟨w.heap.size, 2, none⟩ = some (B (l2 a)) := R0_1.out.cell 2
    have c0_3_1 : w1.cell? ⟨w.heap.size, 3, none⟩ = some (B (l3 a)) := R0_1.out.cell 3
    have c1_0_1 : w1.cell? ⟨w.heap.size + 1, 0, none⟩ = some (B (l0 b)) := R1_1.out.cell 0
    have c1_1_1 : w1.cell? ⟨w.heap.size + 1, 1, none⟩ = some (B (l1 b)) := R1_1.out.cell 1
    have c1_2_1 : w1.cell? ⟨w.heap.size + 1, 2, none⟩ = some (B (l2 b)) := R1_1.out.cell 2
    have c1_3_1 : w1.cell? ⟨w.heap.size + 1, 3, none⟩ = some (B (l3 b)) := R1_1.out.cell 3
    go_wp2_with fail
    refine (hd.out _).mono ?_
    rintro e w2 ⟨rfl, hb2⟩
    have R0_2 : Hid (HasRow w2 (w.heap.size) #[B (l0 a), B (l1 a), B (l2 a), B (l3 a)]) := R0_1.out.below hb2
    have R1_2 : Hid (HasRow w2 (w.heap.size + 1) #[B (l0 b), B (l1 b), B (l2 b), B (l3 b)]) := R1_1.out.below hb2
    have R2_2 : Hid (HasRow w2 (g7) #[.int .u64 0, .int .u64 0, .int .u64 0, .int .u64 0]) := R2_1.out.below hb2
    have B2 : Hid (Below w.heap.size w w2) := bel_call B1.out hb2
    clear hb2
    clear q0_1 q1_1 q2_1 c0_0_1 c0_1_1 c0_2_1 c0_3_1 c1_0_1 c1_1_1 c1_2_1 c1_3_1
    have q0_2 := R0_2.out.lt
    have q1_2 := R1_2.out.lt
    have q2_2 := R2_2.out.lt
    have c0_0_2 : w2.cell? ⟨w.heap.size, 0, none⟩ = some (B (l0 a)) := R0_2.out.cell 0
    have c0_1_2 : w2.cell? ⟨w.heap.size, 1, none⟩ = some (B (l1 a)) := R0_2.out.cell 1
    have c0_2_2 : w2.cell? ⟨w.heap.size, 2, none⟩ = some (B (l2 a)) := R0_2.out.cell 2
    have c0_3_2 : w2.cell? ⟨w.heap.size, 3, none⟩ = some (B (l3 a)) := R0_2.out.cell 3
    have c1_0_2 : w2.cell? ⟨w.heap.size + 1, 0, none⟩ = some (B (l0 b)) := R1_2.out.cell 0
    have c1_1_2 : w2.cell? ⟨w.heap.size + 1, 1, none⟩ = some (B (l1 b)) := R1_2.out.cell 1
    have c1_2_2 : w2.cell? ⟨w.heap.size + 1, 2, none⟩ = some (B (l2 b)) := R1_2.out.cell 2
    have c1_3_2 : w2.cell? ⟨w.heap.size + 1, 3, none⟩ = some (B (l3 b)) := R1_2.out.cell 3
    have c2_0_2 : w2.cell? ⟨g7, 0, none⟩ = some (.int .u64 0) := R2_2.out.cell 0
    have c2_1_2 : w2.cell? ⟨g7, 1, none⟩ = some (.int .u64 0) := R2_2.out.cell 1
    have c2_2_2 : w2.cell? ⟨g7, 2, none⟩ = some (.int .u64 0) := R2_2.out.cell 2
    have c2_3_2 : w2.cell? ⟨g7, 3, none⟩ = some (.int .u64 0) := R2_2.out.cell 3
    generalize vs 9 = v9, vs 4 = v4, vs 0 = v0, vs 1 = v1, vs 2 = v2, vs 3 = v3, vs 5 = v5, vs 6 = v6 at *
    go_wp2_with fail
    refine name_world _ ?_
    intro wF hF0
    have RF0 : Hid (HasRow wF (w.heap.size) #[B (l0 a), B (l1 a), B (l2 a), B (l3 a)]) := by rw [hF0]; exact (HasRow.old (HasRow.old R0_2.out))
    have RF1 : Hid (HasRow wF (w.heap.size + 1) #[B (l0 b), B (l1 b), B (l2 b), B (l3 b)]) := by rw [hF0]; exact (HasRow.old (HasRow.old R1_2.out))
    have RF2 : Hid (HasRow wF (g7) #[.int .u64 0, .int .u64 0, .int .u64 0, .int .u64 0]) := by rw [hF0]; exact (HasRow.old (HasRow.old R2_2.out))
    have RF3 : Hid (HasRow wF (w2.heap.size) #[B (l0 q), B (l1 q), B (l2 q), B (l3 q)]) := by rw [hF0]; exact (HasRow.old (HasRow.last (by simp)))
    have RF4 : Hid (HasRow wF (w2.heap.size + 1) #[B (l0 r), B (l1 r), B (l2 r), B (l3 r)]) := by rw [hF0]; exact (HasRow.last (by simp))
    have BF : Hid (Below w.heap.size w wF) := by rw [hF0]; exact (bel_alloc (bel_alloc B2.out _) _)
    clear hF0
    clear q0_2 q1_2 q2_2 c0_0_2 c0_1_2 c0_2_2 c0_3_2 c1_0_2 c1_1_2 c1_2_2 c1_3_2 c2_0_2 c2_1_2 c2_2_2 c2_3_2
    clear B2 R0_2 R1_2 R2_2
    obtain ⟨N0, hN0⟩ : ∃ n, n = wF.heap.size := ⟨_, rfl⟩
    have qF0 : w.heap.size < N0 := by rw [hN0]; exact RF0.out.lt
    have qF1 : w.heap.size + 1 < N0 := by rw [hN0]; exact RF1.out.lt
    have qF2 : g7 < N0 := by rw [hN0]; exact RF2.out.lt
    have qF3 : w2.heap.size < N0 := by rw [hN0]; exact RF3.out.lt
    have qF4 : w2.heap.size + 1 < N0 := by rw [hN0]; exact RF4.out.lt
    refine wp_region_vals2 (by kernel_rfl) (by kernel_rfl) (by kernel_rfl) (CB2 w N0 a b q r y g7 (w2.heap.size) (w2.heap.size + 1) v) ?_ ?_ ?_
    · refine ⟨BF.out.drew, by rw [hN0]; exact Nat.le_refl _, RF0.out, RF1.out, RF2.out, RF3.out, RF4.out, ?_, ?_, ?_, ?_, ?_, ?_, ?_, ?_, ?_, ?_, ?_⟩ <;> (intro h; simp [Array.getD] at h)
    · intro listed vs a' w' i o' hs ho hi hF cc
      have hin : i < 11 := by have := (Array.getElem?_eq_some_iff.1 ho).1; simpa using this
      have hcase : i = 0 ∨ i = 1 ∨ i = 2 ∨ i = 3 ∨ i = 4 ∨ i = 5 ∨ i = 6 ∨ i = 7 ∨ i = 8 ∨ i = 9 ∨ i = 10 := by omega
      rcases hcase with rfl | rfl | rfl | rfl | rfl | rfl | rfl | rfl | rfl | rfl | rfl
      · simp at ho
        subst ho
        have T : ∀ j, j ≠ 0 → (listed.setIfInBounds 0 true).getD j false = true → listed.getD j false = true := fun j hj h => (done_set h).resolve_left hj
        have S : ∀ j, listed.getD j false = true → (listed.setIfInBounds 0 true).getD j false = true := fun j h => done_keep h
        exact wp_rowF 24 (.tmp 7) rfl (w2.heap.size) ((hF.old (by kernel_rfl)).trans rfl) cc.R3 rfl Try.underlying24 (by kernel_rfl) ⟨_, rfl, ⟨cc.bw, cc.ms, cc.R0, cc.R1, cc.R2, cc.R3, cc.R4, fun _ => rfl, fun h => cc.c1 (T 1 (by decide) h), fun h => cc.c2 (T 2 (by decide) h), fun h => cc.c3 (T 3 (by decide) h), fun h => cc.c4 (T 4 (by decide) h), fun h => cc.c5 (T 5 (by decide) h), fun h => cc.c6 (T 6 (by decide) h), fun h => cc.c7 (T 7 (by decide) h), fun h => by obtain ⟨g', c', e', k1, k2, k3, k4⟩ := cc.c8 (T 8 (by decide) h); exact ⟨g', c', e', k1, k2, k3, fun h6 => k4 (T 9 (by decide) h6)⟩, fun h => S 8 (cc.c9 (T 9 (by decide) h)), fun h => cc.c10 (T 10 (by decide) h)⟩⟩
      · simp at ho
        subst ho
        have T : ∀ j, j ≠ 1 → (listed.setIfInBounds 1 true).getD j false = true → listed.getD j false = true := fun j hj h => (done_set h).resolve_left hj
        have S : ∀ j, listed.getD j false = true → (listed.setIfInBounds 1 true).getD j false = true := fun j h => done_keep h
        exact wp_rowF 24 (.tmp 3) rfl (w.heap.size + 1) ((hF.old (by kernel_rfl)).trans rfl) cc.R1 rfl Try.underlying24 (by kernel_rfl) ⟨_, rfl, ⟨cc.bw, cc.ms, cc.R0, cc.R1, cc.R2, cc.R3, cc.R4, fun h => cc.c0 (T 0 (by decide) h), fun _ => rfl, fun h => cc.c2 (T 2 (by decide) h), fun h => cc.c3 (T 3 (by decide) h), fun h => cc.c4 (T 4 (by decide) h), fun h => cc.c5 (T 5 (by decide) h), fun h => cc.c6 (T 6 (by decide) h), fun h => cc.c7 (T 7 (by decide) h), fun h => by obtain ⟨g', c', e', k1, k2, k3, k4⟩ := cc.c8 (T 8 (by decide) h); exact ⟨g', c', e', k1, k2, k3, fun h6 => k4 (T 9 (by decide) h6)⟩, fun h => S 8 (cc.c9 (T 9 (by decide) h)), fun h => cc.c10 (T 10 (by decide) h)⟩⟩
      · simp at ho
        subst ho
        have T : ∀ j, j ≠ 2 → (listed.setIfInBounds 2 true).getD j false = true → listed.getD j false = true := fun j hj h => (done_set h).resolve_left hj
        have S : ∀ j, listed.getD j false = true → (listed.setIfInBounds 2 true).getD j false = true := fun j h => done_keep h
        have hv0 := ((hF.new (t := 44) (i := 0) (by kernel_rfl) (by simp) (waits_done (i := 2) (j := 0) (by kernel_rfl) hi)).trans (cc.c0 (waits_done (i := 2) (j := 0) (by kernel_rfl) hi)))
        have hv1 := ((hF.new (t := 45) (i := 1) (by kernel_rfl) (by simp) (waits_done (i := 2) (j := 1) (by kernel_rfl) hi)).trans (cc.c1 (waits_done (i := 2) (j := 1) (by kernel_rfl) hi)))
        refine wp_callF (f := 21) (args := #[U q, U b]) (v := U y) (by simp [execOp_call_go, ev hv0, ev hv1, go_sem]) (hm.out w') ?_
        intro w'' hb''
        exact ⟨_, rfl, ⟨cc.bw.trans (hb''.mono cc.bw.size), Nat.le_trans cc.ms hb''.size, cc.R0.below hb'', cc.R1.below hb'', cc.R2.below hb'', cc.R3.below hb'', cc.R4.below hb'', fun h => cc.c0 (T 0 (by decide) h), fun h => cc.c1 (T 1 (by decide) h), fun _ => rfl, fun h => cc.c3 (T 3 (by decide) h), fun h => cc.c4 (T 4 (by decide) h), fun h => cc.c5 (T 5 (by decide) h), fun h => cc.c6 (T 6 (by decide) h), fun h => cc.c7 (T 7 (by decide) h), fun h => by obtain ⟨g', c', e', k1, k2, k3, k4⟩ := cc.c8 (T 8 (by decide) h); exact ⟨g', c', e', k1, k2.below hb'', k3, fun h6 => k4 (T 9 (by decide) h6)⟩, fun h => S 8 (cc.c9 (T 9 (by decide) h)), fun h => cc.c10 (T 10 (by decide) h)⟩⟩
      · simp at ho
        subst ho
        have T : ∀ j, j ≠ 3 → (listed.setIfInBounds 3 true).getD j false = true → listed.getD j false = true := fun j hj h => (done_set h).resolve_left hj
        have S : ∀ j, listed.getD j false = true → (listed.setIfInBounds 3 true).getD j false = true := fun j h => done_keep h
        exact wp_rowF 24 (.tmp 8) rfl (w2.heap.size + 1) ((hF.old (by kernel_rfl)).trans rfl) cc.R4 rfl Try.underlying24 (by kernel_rfl) ⟨_, rfl, ⟨cc.bw, cc.ms, cc.R0, cc.R1, cc.R2, cc.R3, cc.R4, fun h => cc.c0 (T 0 (by decide) h), fun h => cc.c1 (T 1 (by decide) h), fun h => cc.c2 (T 2 (by decide) h), fun _ => rfl, fun h => cc.c4 (T 4 (by decide) h), fun h => cc.c5 (T 5 (by decide) h), fun h => cc.c6 (T 6 (by decide) h), fun h => cc.c7 (T 7 (by decide) h), fun h => by obtain ⟨g', c', e', k1, k2, k3, k4⟩ := cc.c8 (T 8 (by decide) h); exact ⟨g', c', e', k1, k2, k3, fun h6 => k4 (T 9 (by decide) h6)⟩, fun h => S 8 (cc.c9 (T 9 (by decide) h)), fun h => cc.c10 (T 10 (by decide) h)⟩⟩
      · simp at ho
        subst ho
        have T : ∀ j, j ≠ 4 → (listed.setIfInBounds 4 true).getD j false = true → listed.getD j false = true := fun j hj h => (done_set h).resolve_left hj
        have S : ∀ j, listed.getD j false = true → (listed.setIfInBounds 4 true).getD j false = true := fun j h => done_keep h
        have hv0 := ((hF.new (t := 46) (i := 2) (by kernel_rfl) (by simp) (waits_done (i := 4) (j := 2) (by kernel_rfl) hi)).trans (cc.c2 (waits_done (i := 4) (j := 2) (by kernel_rfl) hi)))
        have hv1 := ((hF.new (t := 47) (i := 3) (by kernel_rfl) (by simp) (waits_done (i := 4) (j := 3) (by kernel_rfl) hi)).trans (cc.c3 (waits_done (i := 4) (j := 3) (by kernel_rfl) hi)))
        refine wp_callF (f := 20) (args := #[U y, U r]) (v := .tuple #[U a, .bool v]) (by simp [execOp_call_go, ev hv0, ev hv1, go_sem]) (h2.out w') ?_
        intro w'' hb''
        exact ⟨_, rfl, ⟨cc.bw.trans (hb''.mono cc.bw.size), Nat.le_trans cc.ms hb''.size, cc.R0.below hb'', cc.R1.below hb'', cc.R2.below hb'', cc.R3.below hb'', cc.R4.below hb'', fun h => cc.c0 (T 0 (by decide) h), fun h => cc.c1 (T 1 (by decide) h), fun h => cc.c2 (T 2 (by decide) h), fun h => cc.c3 (T 3 (by decide) h), fun _ => rfl, fun h => cc.c5 (T 5 (by decide) h), fun h => cc.c6 (T 6 (by decide) h), fun h => cc.c7 (T 7 (by decide) h), fun h => by obtain ⟨g', c', e', k1, k2, k3, k4⟩ := cc.c8 (T 8 (by decide) h); exact ⟨g', c', e', k1, k2.below hb'', k3, fun h6 => k4 (T 9 (by decide) h6)⟩, fun h => S 8 (cc.c9 (T 9 (by decide) h)), fun h => cc.c10 (T 10 (by decide) h)⟩⟩
      · simp at ho
        subst ho
        have T : ∀ j, j ≠ 5 → (listed.setIfInBounds 5 true).getD j false = true → listed.getD j false = true := fun j hj h => (done_set h).resolve_left hj
        have S : ∀ j, listed.getD j false = true → (listed.setIfInBounds 5 true).getD j false = true := fun j h => done_keep h
        have hv := ((hF.new (t := 48) (i := 4) (by kernel_rfl) (by simp) (waits_done (i := 5) (j := 4) (by kernel_rfl) hi)).trans (cc.c4 (waits_done (i := 5) (j := 4) (by kernel_rfl) hi)))
        exact wp_valF (v := .tuple #[U a, .bool v]) (w1 := w') (by simp [execOp, go_sem, ev hv]) ⟨_, rfl, ⟨cc.bw, cc.ms, cc.R0, cc.R1, cc.R2, cc.R3, cc.R4, fun h => cc.c0 (T 0 (by decide) h), fun h => cc.c1 (T 1 (by decide) h), fun h => cc.c2 (T 2 (by decide) h), fun h => cc.c3 (T 3 (by decide) h), fun h => cc.c4 (T 4 (by decide) h), fun _ => rfl, fun h => cc.c6 (T 6 (by decide) h), fun h => cc.c7 (T 7 (by decide) h), fun h => by obtain ⟨g', c', e', k1, k2, k3, k4⟩ := cc.c8 (T 8 (by decide) h); exact ⟨g', c', e', k1, k2, k3, fun h6 => k4 (T 9 (by decide) h6)⟩, fun h => S 8 (cc.c9 (T 9 (by decide) h)), fun h => cc.c10 (T 10 (by decide) h)⟩⟩
      · simp at ho
        subst ho
        have T : ∀ j, j ≠ 6 → (listed.setIfInBounds 6 true).getD j false = true → listed.getD j false = true := fun j hj h => (done_set h).resolve_left hj
        have S : ∀ j, listed.getD j false = true → (listed.setIfInBounds 6 true).getD j false = true := fun j h => done_keep h
        have hv := ((hF.new (t := 43) (i := 5) (by kernel_rfl) (by simp) (waits_done (i := 6) (j := 5) (by kernel_rfl) hi)).trans (cc.c5 (waits_done (i := 6) (j := 5) (by kernel_rfl) hi)))
        exact wp_valF (v := U a) (w1 := w') (by simp [execOp, go_sem, ev hv]) ⟨_, rfl, ⟨cc.bw, cc.ms, cc.R0, cc.R1, cc.R2, cc.R3, cc.R4, fun h => cc.c0 (T 0 (by decide) h), fun h => cc.c1 (T 1 (by decide) h), fun h => cc.c2 (T 2 (by decide) h), fun h => cc.c3 (T 3 (by decide) h), fun h => cc.c4 (T 4 (by decide) h), fun h => cc.c5 (T 5 (by decide) h), fun _ => rfl, fun h => cc.c7 (T 7 (by decide) h), fun h => by obtain ⟨g', c', e', k1, k2, k3, k4⟩ := cc.c8 (T 8 (by decide) h); exact ⟨g', c', e', k1, k2, k3, fun h6 => k4 (T 9 (by decide) h6)⟩, fun h => S 8 (cc.c9 (T 9 (by decide) h)), fun h => cc.c10 (T 10 (by decide) h)⟩⟩
      · simp at ho
        subst ho
        have T : ∀ j, j ≠ 7 → (listed.setIfInBounds 7 true).getD j false = true → listed.getD j false = true := fun j hj h => (done_set h).resolve_left hj
        have S : ∀ j, listed.getD j false = true → (listed.setIfInBounds 7 true).getD j false = true := fun j h => done_keep h
        have hv := ((hF.new (t := 43) (i := 5) (by kernel_rfl) (by simp) (waits_done (i := 7) (j := 5) (by kernel_rfl) hi)).trans (cc.c5 (waits_done (i := 7) (j := 5) (by kernel_rfl) hi)))
        exact wp_valF (v := .bool v) (w1 := w') (by simp [execOp, go_sem, ev hv]) ⟨_, rfl, ⟨cc.bw, cc.ms, cc.R0, cc.R1, cc.R2, cc.R3, cc.R4, fun h => cc.c0 (T 0 (by decide) h), fun h => cc.c1 (T 1 (by decide) h), fun h => cc.c2 (T 2 (by decide) h), fun h => cc.c3 (T 3 (by decide) h), fun h => cc.c4 (T 4 (by decide) h), fun h => cc.c5 (T 5 (by decide) h), fun h => cc.c6 (T 6 (by decide) h), fun _ => rfl, fun h => by obtain ⟨g', c', e', k1, k2, k3, k4⟩ := cc.c8 (T 8 (by decide) h); exact ⟨g', c', e', k1, k2, k3, fun h6 => k4 (T 9 (by decide) h6)⟩, fun h => S 8 (cc.c9 (T 9 (by decide) h)), fun h => cc.c10 (T 10 (by decide) h)⟩⟩
      · simp at ho
        subst ho
        have T : ∀ j, j ≠ 8 → (listed.setIfInBounds 8 true).getD j false = true → listed.getD j false = true := fun j hj h => (done_set h).resolve_left hj
        have S : ∀ j, listed.getD j false = true → (listed.setIfInBounds 8 true).getD j false = true := fun j h => done_keep h
        have hun : ¬ listed.getD 8 false = true := fun h => undone hi hs h
        exact wp_valF (v := .pointer (some ⟨w'.heap.size, 0, none⟩)) (w1 := w'.alloc (.cells #[.int .u64 0, .int .u64 0, .int .u64 0, .int .u64 0] 24)) (by simp [execOp, go_sem]) ⟨_, rfl, ⟨bel_alloc cc.bw _, by have := cc.ms; simp; omega, cc.R0.old, cc.R1.old, cc.R2.old, cc.R3.old, cc.R4.old, fun h => cc.c0 (T 0 (by decide) h), fun h => cc.c1 (T 1 (by decide) h), fun h => cc.c2 (T 2 (by decide) h), fun h => cc.c3 (T 3 (by decide) h), fun h => cc.c4 (T 4 (by decide) h), fun h => cc.c5 (T 5 (by decide) h), fun h => cc.c6 (T 6 (by decide) h), fun h => cc.c7 (T 7 (by decide) h), fun _ => ⟨w'.heap.size, #[.int .u64 0, .int .u64 0, .int .u64 0, .int .u64 0], rfl, cc.ms, HasRow.last rfl, rfl, fun h6 => absurd (cc.c9 (T 9 (by decide) h6)) hun⟩, fun h => S 8 (cc.c9 (T 9 (by decide) h)), fun h => cc.c10 (T 10 (by decide) h)⟩⟩
      · simp at ho
        subst ho
        have T : ∀ j, j ≠ 9 → (listed.setIfInBounds 9 true).getD j false = true → listed.getD j false = true := fun j hj h => (done_set h).resolve_left hj
        have S : ∀ j, listed.getD j false = true → (listed.setIfInBounds 9 true).getD j false = true := fun j h => done_keep h
        have d4 := (waits_done (i := 9) (j := 8) (by kernel_rfl) hi)
        obtain ⟨g, c, e, h1, h2, h3, h4⟩ := cc.c8 d4
        have hx := (hF.new (t := 9) (i := 8) (by kernel_rfl) (by simp) d4).trans e
        have hv := ((hF.new (t := 49) (i := 6) (by kernel_rfl) (by simp) (waits_done (i := 9) (j := 6) (by kernel_rfl) hi)).trans (cc.c6 (waits_done (i := 9) (j := 6) (by kernel_rfl) hi)))
        exact wp_rowS 24 (.tmp 9) (.tmp 49) rfl g (c' := #[B (l0 a), B (l1 a), B (l2 a), B (l3 a)]) hx hv h2 h3 rfl (by simp [Value.oneCell']) (by kernel_rfl) ⟨_, rfl, ⟨below_setRow cc.bw (by omega) _, by rw [size_setRow]; exact cc.ms, cc.R0.set_other _ (by omega), cc.R1.set_other _ (by omega), cc.R2.set_other _ (by omega), cc.R3.set_other _ (by omega), cc.R4.set_other _ (by omega), fun h => cc.c0 (T 0 (by decide) h), fun h => cc.c1 (T 1 (by decide) h), fun h => cc.c2 (T 2 (by decide) h), fun h => cc.c3 (T 3 (by decide) h), fun h => cc.c4 (T 4 (by decide) h), fun h => cc.c5 (T 5 (by decide) h), fun h => cc.c6 (T 6 (by decide) h), fun h => cc.c7 (T 7 (by decide) h), fun h => ⟨g, _, e, h1, h2.set_same _, rfl, fun _ => rfl⟩, fun _ => S 8 d4, fun h => cc.c10 (T 10 (by decide) h)⟩⟩
      · simp at ho
        subst ho
        have T : ∀ j, j ≠ 10 → (listed.setIfInBounds 10 true).getD j false = true → listed.getD j false = true := fun j hj h => (done_set h).resolve_left hj
        have S : ∀ j, listed.getD j false = true → (listed.setIfInBounds 10 true).getD j false = true := fun j h => done_keep h
        have hv := ((hF.new (t := 50) (i := 7) (by kernel_rfl) (by simp) (waits_done (i := 10) (j := 7) (by kernel_rfl) hi)).trans (cc.c7 (waits_done (i := 10) (j := 7) (by kernel_rfl) hi)))
        exact wp_valF (v := .bool v) (w1 := w') (by simp [execOp, go_sem, ev hv]) ⟨_, rfl, ⟨cc.bw, cc.ms, cc.R0, cc.R1, cc.R2, cc.R3, cc.R4, fun h => cc.c0 (T 0 (by decide) h), fun h => cc.c1 (T 1 (by decide) h), fun h => cc.c2 (T 2 (by decide) h), fun h => cc.c3 (T 3 (by decide) h), fun h => cc.c4 (T 4 (by decide) h), fun h => cc.c5 (T 5 (by decide) h), fun h => cc.c6 (T 6 (by decide) h), fun h => cc.c7 (T 7 (by decide) h), fun h => by obtain ⟨g', c', e', k1, k2, k3, k4⟩ := cc.c8 (T 8 (by decide) h); exact ⟨g', c', e', k1, k2, k3, fun h6 => k4 (T 9 (by decide) h6)⟩, fun h => S 8 (cc.c9 (T 9 (by decide) h)), fun _ => rfl⟩⟩
    · intro listed vs a' w3 hd hF cc
      have e : a' = ({ tmps := #[U a, U b, .pointer (some ⟨w.heap.size, 0, none⟩), .pointer (some ⟨w.heap.size + 1, 0, none⟩), .bool false, .pointer (some ⟨g7, 0, none⟩), v9, .pointer (some ⟨w2.heap.size, 0, none⟩), .pointer (some ⟨w2.heap.size + 1, 0, none⟩), vs 8, vs 10, v4, v0, v1, v2, v3, v5, v6, .tuple #[U q, U r], U a, U b, .tuple #[U q, U r], U q, U r, U b, I4 0 0 0 0, .bool false, undef, undef, undef, undef, undef, undef, undef, undef, undef, undef, undef, undef, undef, undef, undef, undef, vs 5, vs 0, vs 1, vs 2, vs 3, vs 4, vs 6, vs 7, undef, undef, undef, undef, undef, undef, undef, undef, undef, undef, undef], defers := [] } : Act) := (hF.all hd).trans (by kernel_rfl)
      subst e
      obtain ⟨g8, cx, e8, h18, h2, h3, h4⟩ := cc.c8 (hd 8 (by simp))
      rw [h4 (hd 9 (by simp))] at h2
      have RX8 : Hid (HasRow w3 g8 #[B (l0 a), B (l1 a), B (l2 a), B (l3 a)]) := h2
      clear h2 h3 h4
      have R0_3 : Hid (HasRow w3 (w.heap.size) #[B (l0 a), B (l1 a), B (l2 a), B (l3 a)]) := cc.R0
      have R1_3 : Hid (HasRow w3 (w.heap.size + 1) #[B (l0 b), B (l1 b), B (l2 b), B (l3 b)]) := cc.R1
      have R2_3 : Hid (HasRow w3 (g7) #[.int .u64 0, .int .u64 0, .int .u64 0, .int .u64 0]) := cc.R2
      have R3_3 : Hid (HasRow w3 (w2.heap.size) #[B (l0 q), B (l1 q), B (l2 q), B (l3 q)]) := cc.R3
      have R4_3 : Hid (HasRow w3 (w2.heap.size + 1) #[B (l0 r), B (l1 r), B (l2 r), B (l3 r)]) := cc.R4
      have B3 : Hid (Below w.heap.size w w3) := cc.bw
      rw [e8]
      clear cc hd hF BF e8 RF0 RF1 RF2 RF3 RF4
      have R5_3 : Hid (HasRow w3 g8 #[B (l0 a), B (l1 a), B (l2 a), B (l3 a)]) := RX8
      clear RX8
      have q0_3 := R0_3.out.lt
      have q1_3 := R1_3.out.lt
      have q2_3 := R2_3.out.lt
      have q3_3 := R3_3.out.lt
      have q4_3 := R4_3.out.lt
      have q5_3 := R5_3.out.lt
      have c0_0_3 : w3.cell? ⟨w.heap.size, 0, none⟩ = some (B (l0 a)) := R0_3.out.cell 0
      have c0_1_3 : w3.cell? ⟨w.heap.size, 1, none⟩ = some (B (l1 a)) := R0_3.out.cell 1
      have c0_2_3 : w3.cell? ⟨w.heap.size, 2, none⟩ = some (B (l2 a)) := R0_3.out.cell 2
      have c0_3_3 : w3.cell? ⟨w.heap.size, 3, none⟩ = some (B (l3 a)) := R0_3.out.cell 3
      have c1_0_3 : w3.cell? ⟨w.heap.size + 1, 0, none⟩ = some (B (l0 b)) := R1_3.out.cell 0
      have c1_1_3 : w3.cell? ⟨w.heap.size + 1, 1, none⟩ = some (B (l1 b)) := R1_3.out.cell 1
      have c1_2_3 : w3.cell? ⟨w.heap.size + 1, 2, none⟩ = some (B (l2 b)) := R1_3.out.cell 2
      have c1_3_3 : w3.cell? ⟨w.heap.size + 1, 3, none⟩ = some (B (l3 b)) := R1_3.out.cell 3
      have c2_0_3 : w3.cell? ⟨g7, 0, none⟩ = some (.int .u64 0) := R2_3.out.cell 0
      have c2_1_3 : w3.cell? ⟨g7, 1, none⟩ = some (.int .u64 0) := R2_3.out.cell 1
      have c2_2_3 : w3.cell? ⟨g7, 2, none⟩ = some (.int .u64 0) := R2_3.out.cell 2
      have c2_3_3 : w3.cell? ⟨g7, 3, none⟩ = some (.int .u64 0) := R2_3.out.cell 3
      have c3_0_3 : w3.cell? ⟨w2.heap.size, 0, none⟩ = some (B (l0 q)) := R3_3.out.cell 0
      have c3_1_3 : w3.cell? ⟨w2.heap.size, 1, none⟩ = some (B (l1 q)) := R3_3.out.cell 1
      have c3_2_3 : w3.cell? ⟨w2.heap.size, 2, none⟩ = some (B (l2 q)) := R3_3.out.cell 2
      have c3_3_3 : w3.cell? ⟨w2.heap.size, 3, none⟩ = some (B (l3 q)) := R3_3.out.cell 3
      have c4_0_3 : w3.cell? ⟨w2.heap.size + 1, 0, none⟩ = some (B (l0 r)) := R4_3.out.cell 0
      have c4_1_3 : w3.cell? ⟨w2.heap.size + 1, 1, none⟩ = some (B (l1 r)) := R4_3.out.cell 1
      have c4_2_3 : w3.cell? ⟨w2.heap.size + 1, 2, none⟩ = some (B (l2 r)) := R4_3.out.cell 2
      have c4_3_3 : w3.cell? ⟨w2.heap.size + 1, 3, none⟩ = some (B (l3 r)) := R4_3.out.cell 3
      have c5_0_3 : w3.cell? ⟨g8, 0, none⟩ = some (B (l0 a)) := R5_3.out.cell 0
      have c5_1_3 : w3.cell? ⟨g8, 1, none⟩ = some (B (l1 a)) := R5_3.out.cell 1
      have c5_2_3 : w3.cell? ⟨g8, 2, none⟩ = some (B (l2 a)) := R5_3.out.cell 2
      have c5_3_3 : w3.cell? ⟨g8, 3, none⟩ = some (B (l3 a)) := R5_3.out.cell 3
      go_wp2_with fail
      refine (ha.out _).mono ?_
      rintro e w4 ⟨rfl, hb4⟩
      have R0_4 : Hid (HasRow w4 (w.heap.size) #[B (l0 a), B (l1 a), B (l2 a), B (l3 a)]) := R0_3.out.below hb4
      have R1_4 : Hid (HasRow w4 (w.heap.size + 1) #[B (l0 b), B (l1 b), B (l2 b), B (l3 b)]) := R1_3.out.below hb4
      have R2_4 : Hid (HasRow w4 (g7) #[.int .u64 0, .int .u64 0, .int .u64 0, .int .u64 0]) := R2_3.out.below hb4
      have R3_4 : Hid (HasRow w4 (w2.heap.size) #[B (l0 q), B (l1 q), B (l2 q), B (l3 q)]) := R3_3.out.below hb4
      have R4_4 : Hid (HasRow w4 (w2.heap.size + 1) #[B (l0 r), B (l1 r), B (l2 r), B (l3 r)]) := R4_3.out.below hb4
      have R5_4 : Hid (HasRow w4 (g8) #[B (l0 a), B (l1 a), B (l2 a), B (l3 a)]) := R5_3.out.below hb4
      have B4 : Hid (Below w.heap.size w w4) := bel_call B3.out hb4
      clear hb4
      clear q0_3 q1_3 q2_3 q3_3 q4_3 q5_3 c0_0_3 c0_1_3 c0_2_3 c0_3_3 c1_0_3 c1_1_3 c1_2_3 c1_3_3 c2_0_3 c2_1_3 c2_2_3 c2_3_3 c3_0_3 c3_1_3 c3_2_3 c3_3_3 c4_0_3 c4_1_3 c4_2_3 c4_3_3 c5_0_3 c5_1_3 c5_2_3 c5_3_3
      have q0_4 := R0_4.out.lt
      have q1_4 := R1_4.out.lt
      have q2_4 := R2_4.out.lt
      have q3_4 := R3_4.out.lt
      have q4_4 := R4_4.out.lt
      have q5_4 := R5_4.out.lt
      go_wp2
      go_ret
      exact ⟨rfl, B4.out⟩

theorem tn_zero (b : Bool) : tn 0 b = 0 := by
  unfold tn
  split
  · exact negW_zero
  · rfl
theorem sq_zero (a : Nat) : sq a 0 = 0 := by
  unfold sq
  rw [show ab 0 = 0 from tn_zero _, Nat.div_zero, tn_zero]
theorem sr_zero (a : Nat) : sr a 0 = 0 := by
  unfold sr
  rw [show ab 0 = 0 from tn_zero _, show dr 0 (ab a) 0 = 0 from rfl, tn_zero]
theorem back4_walk (a b : Nat) (ha : a < W) (hb : b < W) (hw : ∀ w, Calls Try.prog 19 #[] w fun e w' => e = .returned (.bool true) ∧ Below w.heap.size w w') (w : World) :
    Calls Try.prog 4 #[U a, U b] w fun e w' => e = .returned (.bool true) ∧ Below w.heap.size w w' := by
  have h1 : ∀ w, Calls Try.prog 20 #[U a, U (negW a)] w fun e w' => e = .returned (.tuple #[I4 0 0 0 0, .bool (ovW a (negW a))]) ∧ Below w.heap.size w w' := fun w => by
    have h := radd_any a (negW a) ha (negW_lt a) w
    rw [neg_add a ha, U_zero] at h
    exact h
  rcases Nat.eq_zero_or_pos b with h0 | h0
  · subst h0
    rw [U_zero]
    refine back4_zero a (negW a) _ (neg_any a ha) h1 (fun w => ?_) hw w
    have h := sdiv_any a 0 ha W_pos w
    rw [sq_zero, sr_zero, U_zero] at h
    exact h
  · refine back4_gen a b (negW a) (sq a b) (sr a b) (sq a b * b % W) _ (ovW (sq a b * b % W) (sr a b)) (neg_any a ha) h1 (sdiv_any a b ha hb) (rmul_any (sq a b) b (sq_lt a b ha) hb) (fun w => ?_) hw (fun w => ?_) w
    · have h := radd_any (sq a b * b % W) (sr a b) (Nat.mod_lt _ W_pos) (sr_lt a b ha) w
      rw [neg_back a b ha hb h0] at h
      exact h
    · have h := run_eqU b 0 hb W_pos w
      rw [decide_eq_false (by omega), U_zero] at h
      exact h
end Go.Proofs.Ytbfgeinneglpdaa
