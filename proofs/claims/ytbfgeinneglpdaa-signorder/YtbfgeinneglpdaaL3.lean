/- The law SignOrder, walked. -/
import Derived.Test.YtbfgeinneglpdaaSm
import Derived.Lib.QuietBelow
import Derived.BigQuiet
namespace Go.Proofs.Ytbfgeinneglpdaa
open Go.RowKit Go.Sort
set_option linter.unusedVariables false
attribute [local go_sem] run_eq4 run_eqU_same
structure COtff (w : World) (N0 : Nat) (a b : Nat) (listed : Array Bool) (vs : Nat → Value) (w' : World) : Prop where
  bw : Below w.heap.size w w'
  ms : N0 ≤ w'.heap.size
  R0 : HasRow w' (w.heap.size) #[B (l0 a), B (l1 a), B (l2 a), B (l3 a)]
  R1 : HasRow w' (w.heap.size + 1) #[B (l0 b), B (l1 b), B (l2 b), B (l3 b)]
  c0 : listed.getD 0 false = true → vs 0 = U a
  c1 : listed.getD 1 false = true → vs 1 = U b
  c2 : listed.getD 2 false = true → vs 2 = .bool true
  c3 : listed.getD 3 false = true → vs 3 = U b
  c4 : listed.getD 4 false = true → vs 4 = U a
  c5 : listed.getD 5 false = true → vs 5 = .bool false
  c6 : listed.getD 6 false = true → vs 6 = U a
  c7 : listed.getD 7 false = true → vs 7 = U b
  c8 : listed.getD 8 false = true → vs 8 = .bool false
  c9 : listed.getD 9 false = true → ∃ g, vs 9 = .slice (some ⟨g, 0, none⟩) 3 3 ∧ N0 ≤ g ∧ HasRow w' g #[.bool true, .bool false, .bool false]
  c10 : listed.getD 10 false = true → vs 10 = .int .i64 3
  c11 : listed.getD 11 false = true → vs 11 = .int .i64 0

set_option maxRecDepth 100000 in
set_option maxHeartbeats 4000000 in
theorem order4_tff_vv (a b : Nat) (v : Int)
    (h1 : Hid (∀ w, Calls Try.prog 11 #[U a, U b] w fun e w' => e = .returned (.bool true) ∧ Below w.heap.size w w'))
    (h2 : Hid (∀ w, Calls Try.prog 11 #[U b, U a] w fun e w' => e = .returned (.bool false) ∧ Below w.heap.size w w'))
    (hE : ∀ w, (Op.equalIn 10000 24 (U a) (U b)).run Try.prog w = .ok false w)
    (ha : Hid (∀ w, Calls Try.prog 19 #[] w fun e w' => e = .returned (.bool true) ∧ Below w.heap.size w w'))
    (hta : (l3 a : Int) / 9223372036854775808 = v)
    (htb : (l3 b : Int) / 9223372036854775808 = v) (w : World) :
    Calls Try.prog 5 #[U a, U b] w fun e w' => e = .returned (.bool true) ∧ Below w.heap.size w w' := by
  go_enter Try.func5, Try.ntmps5
  go_wp2_with fail
  refine name_world _ ?_
  intro wF hF0
  have RF0 : Hid (HasRow wF (w.heap.size) #[B (l0 a), B (l1 a), B (l2 a), B (l3 a)]) := by rw [hF0]; exact (HasRow.old (HasRow.last (by simp)))
  have RF1 : Hid (HasRow wF (w.heap.size + 1) #[B (l0 b), B (l1 b), B (l2 b), B (l3 b)]) := by rw [hF0]; exact (HasRow.last (by simp))
  have BF : Hid (Below w.heap.size w wF) := by rw [hF0]; exact (bel_alloc (bel_alloc (Below.refl _ _) _) _)
  clear hF0
  obtain ⟨N0, hN0⟩ : ∃ n, n = wF.heap.size := ⟨_, rfl⟩
  have qF0 : w.heap.size < N0 := by rw [hN0]; exact RF0.out.lt
  have qF1 : w.heap.size + 1 < N0 := by rw [hN0]; exact RF1.out.lt
  refine wp_region_vals2 (by kernel_rfl) (by kernel_rfl) (by kernel_rfl) (COtff w N0 a b) ?_ ?_ ?_
  · refine ⟨BF.out.drew, by rw [hN0]; exact Nat.le_refl _, RF0.out, RF1.out, ?_, ?_, ?_, ?_, ?_, ?_, ?_, ?_, ?_, ?_, ?_, ?_⟩ <;> (intro h; simp [Array.getD] at h)
  · intro listed vs a' w' i o' hs ho hi hF cc
    have hin : i < 12 := by have := (Array.getElem?_eq_some_iff.1 ho).1; simpa using this
    have hcase : i = 0 ∨ i = 1 ∨ i = 2 ∨ i = 3 ∨ i = 4 ∨ i = 5 ∨ i = 6 ∨ i = 7 ∨ i = 8 ∨ i = 9 ∨ i = 10 ∨ i = 11 := by omega
    rcases hcase with rfl | rfl | rfl | rfl | rfl | rfl | rfl | rfl | rfl | rfl | rfl | rfl
    · simp at ho
      subst ho
      have T : ∀ j, j ≠ 0 → (listed.setIfInBounds 0 true).getD j false = true → listed.getD j false = true := fun j hj h => (done_set h).resolve_left hj
      have S : ∀ j, listed.getD j false = true → (listed.setIfInBounds 0 true).getD j false = true := fun j h => done_keep h
      exact wp_rowF 24 (.tmp 2) rfl (w.heap.size) ((hF.old (by kernel_rfl)).trans rfl) cc.R0 rfl Try.underlying24 (by kernel_rfl) ⟨_, rfl, ⟨cc.bw, cc.ms, cc.R0, cc.R1, fun _ => rfl, fun h => cc.c1 (T 1 (by decide) h), fun h => cc.c2 (T 2 (by decide) h), fun h => cc.c3 (T 3 (by decide) h), fun h => cc.c4 (T 4 (by decide) h), fun h => cc.c5 (T 5 (by decide) h), fun h => cc.c6 (T 6 (by decide) h), fun h => cc.c7 (T 7 (by decide) h), fun h => cc.c8 (T 8 (by decide) h), fun h => by obtain ⟨g', e', k1, k2⟩ := cc.c9 (T 9 (by decide) h); exact ⟨g', e', k1, k2⟩, fun h => cc.c10 (T 10 (by decide) h), fun h => cc.c11 (T 11 (by decide) h)⟩⟩
    · simp at ho
      subst ho
      have T : ∀ j, j ≠ 1 → (listed.setIfInBounds 1 true).getD j false = true → listed.getD j false = true := fun j hj h => (done_set h).resolve_left hj
      have S : ∀ j, listed.getD j false = true → (listed.setIfInBounds 1 true).getD j false = true := fun j h => done_keep h
      exact wp_rowF 24 (.tmp 3) rfl (w.heap.size + 1) ((hF.old (by kernel_rfl)).trans rfl) cc.R1 rfl Try.underlying24 (by kernel_rfl) ⟨_, rfl, ⟨cc.bw, cc.ms, cc.R0, cc.R1, fun h => cc.c0 (T 0 (by decide) h), fun _ => rfl, fun h => cc.c2 (T 2 (by decide) h), fun h => cc.c3 (T 3 (by decide) h), fun h => cc.c4 (T 4 (by decide) h), fun h => cc.c5 (T 5 (by decide) h), fun h => cc.c6 (T 6 (by decide) h), fun h => cc.c7 (T 7 (by decide) h), fun h => cc.c8 (T 8 (by decide) h), fun h => by obtain ⟨g', e', k1, k2⟩ := cc.c9 (T 9 (by decide) h); exact ⟨g', e', k1, k2⟩, fun h => cc.c10 (T 10 (by decide) h), fun h => cc.c11 (T 11 (by decide) h)⟩⟩
    · simp at ho
      subst ho
      have T : ∀ j, j ≠ 2 → (listed.setIfInBounds 2 true).getD j false = true → listed.getD j false = true := fun j hj h => (done_set h).resolve_left hj
      have S : ∀ j, listed.getD j false = true → (listed.setIfInBounds 2 true).getD j false = true := fun j h => done_keep h
      have hv0 := ((hF.new (t := 8) (i := 0) (by kernel_rfl) (by simp) (waits_done (i := 2) (j := 0) (by kernel_rfl) hi)).trans (cc.c0 (waits_done (i := 2) (j := 0) (by kernel_rfl) hi)))
      have hv1 := ((hF.new (t := 9) (i := 1) (by kernel_rfl) (by simp) (waits_done (i := 2) (j := 1) (by kernel_rfl) hi)).trans (cc.c1 (waits_done (i := 2) (j := 1) (by kernel_rfl) hi)))
      refine wp_callF (f := 11) (args := #[U a, U b]) (v := .bool true) (by simp [execOp_call_go, ev hv0, ev hv1, go_sem]) (h1.out w') ?_
      intro w'' hb''
      exact ⟨_, rfl, ⟨cc.bw.trans (hb''.mono cc.bw.size), Nat.le_trans cc.ms hb''.size, cc.R0.below hb'', cc.R1.below hb'', fun h => cc.c0 (T 0 (by decide) h), fun h => cc.c1 (T 1 (by decide) h), fun _ => rfl, fun h => cc.c3 (T 3 (by decide) h), fun h => cc.c4 (T 4 (by decide) h), fun h => cc.c5 (T 5 (by decide) h), fun h => cc.c6 (T 6 (by decide) h), fun h => cc.c7 (T 7 (by decide) h), fun h => cc.c8 (T 8 (by decide) h), fun h => by obtain ⟨g', e', k1, k2⟩ := cc.c9 (T 9 (by decide) h); exact ⟨g', e', k1, k2.below hb''⟩, fun h => cc.c10 (T 10 (by decide) h), fun h => cc.c11 (T 11 (by decide) h)⟩⟩
    · simp at ho
      subst ho
      have T : ∀ j, j ≠ 3 → (listed.setIfInBounds 3 true).getD j false = true → listed.getD j false = true := fun j hj h => (done_set h).resolve_left hj
      have S : ∀ j, listed.getD j false = true → (listed.setIfInBounds 3 true).getD j false = true := fun j h => done_keep h
      exact wp_rowF 24 (.tmp 3) rfl (w.heap.size + 1) ((hF.old (by kernel_rfl)).trans rfl) cc.R1 rfl Try.underlying24 (by kernel_rfl) ⟨_, rfl, ⟨cc.bw, cc.ms, cc.R0, cc.R1, fun h => cc.c0 (T 0 (by decide) h), fun h => cc.c1 (T 1 (by decide) h), fun h => cc.c2 (T 2 (by decide) h), fun _ => rfl, fun h => cc.c4 (T 4 (by decide) h), fun h => cc.c5 (T 5 (by decide) h), fun h => cc.c6 (T 6 (by decide) h), fun h => cc.c7 (T 7 (by decide) h), fun h => cc.c8 (T 8 (by decide) h), fun h => by obtain ⟨g', e', k1, k2⟩ := cc.c9 (T 9 (by decide) h); exact ⟨g', e', k1, k2⟩, fun h => cc.c10 (T 10 (by decide) h), fun h => cc.c11 (T 11 (by decide) h)⟩⟩
    · simp at ho
      subst ho
      have T : ∀ j, j ≠ 4 → (listed.setIfInBounds 4 true).getD j false = true → listed.getD j false = true := fun j hj h => (done_set h).resolve_left hj
      have S : ∀ j, listed.getD j false = true → (listed.setIfInBounds 4 true).getD j false = true := fun j h => done_keep h
      exact wp_rowF 24 (.tmp 2) rfl (w.heap.size) ((hF.old (by kernel_rfl)).trans rfl) cc.R0 rfl Try.underlying24 (by kernel_rfl) ⟨_, rfl, ⟨cc.bw, cc.ms, cc.R0, cc.R1, fun h => cc.c0 (T 0 (by decide) h), fun h => cc.c1 (T 1 (by decide) h), fun h => cc.c2 (T 2 (by decide) h), fun h => cc.c3 (T 3 (by decide) h), fun _ => rfl, fun h => cc.c5 (T 5 (by decide) h), fun h => cc.c6 (T 6 (by decide) h), fun h => cc.c7 (T 7 (by decide) h), fun h => cc.c8 (T 8 (by decide) h), fun h => by obtain ⟨g', e', k1, k2⟩ := cc.c9 (T 9 (by decide) h); exact ⟨g', e', k1, k2⟩, fun h => cc.c10 (T 10 (by decide) h), fun h => cc.c11 (T 11 (by decide) h)⟩⟩
    · simp at ho
      subst ho
      have T : ∀ j, j ≠ 5 → (listed.setIfInBounds 5 true).getD j false = true → listed.getD j false = true := fun j hj h => (done_set h).resolve_left hj
      have S : ∀ j, listed.getD j false = true → (listed.setIfInBounds 5 true).getD j false = true := fun j h => done_keep h
      have hv0 := ((hF.new (t := 11) (i := 3) (by kernel_rfl) (by simp) (waits_done (i := 5) (j := 3) (by kernel_rfl) hi)).trans (cc.c3 (waits_done (i := 5) (j := 3) (by kernel_rfl) hi)))
      have hv1 := ((hF.new (t := 12) (i := 4) (by kernel_rfl) (by simp) (waits_done (i := 5) (j := 4) (by kernel_rfl) hi)).trans (cc.c4 (waits_done (i := 5) (j := 4) (by kernel_rfl) hi)))
      refine wp_callF (f := 11) (args := #[U b, U a]) (v := .bool false) (by simp [execOp_call_go, ev hv0, ev hv1, go_sem]) (h2.out w') ?_
      intro w'' hb''
      exact ⟨_, rfl, ⟨cc.bw.trans (hb''.mono cc.bw.size), Nat.le_trans cc.ms hb''.size, cc.R0.below hb'', cc.R1.below hb'', fun h => cc.c0 (T 0 (by decide) h), fun h => cc.c1 (T 1 (by decide) h), fun h => cc.c2 (T 2 (by decide) h), fun h => cc.c3 (T 3 (by decide) h), fun h => cc.c4 (T 4 (by decide) h), fun _ => rfl, fun h => cc.c6 (T 6 (by decide) h), fun h => cc.c7 (T 7 (by decide) h), fun h => cc.c8 (T 8 (by decide) h), fun h => by obtain ⟨g', e', k1, k2⟩ := cc.c9 (T 9 (by decide) h); exact ⟨g', e', k1, k2.below hb''⟩, fun h => cc.c10 (T 10 (by decide) h), fun h => cc.c11 (T 11 (by decide) h)⟩⟩
    · simp at ho
      subst ho
      have T : ∀ j, j ≠ 6 → (listed.setIfInBounds 6 true).getD j false = true → listed.getD j false = true := fun j hj h => (done_set h).resolve_left hj
      have S : ∀ j, listed.getD j false = true → (listed.setIfInBounds 6 true).getD j false = true := fun j h => done_keep h
      exact wp_rowF 24 (.tmp 2) rfl (w.heap.size) ((hF.old (by kernel_rfl)).trans rfl) cc.R0 rfl Try.underlying24 (by kernel_rfl) ⟨_, rfl, ⟨cc.bw, cc.ms, cc.R0, cc.R1, fun h => cc.c0 (T 0 (by decide) h), fun h => cc.c1 (T 1 (by decide) h), fun h => cc.c2 (T 2 (by decide) h), fun h => cc.c3 (T 3 (by decide) h), fun h => cc.c4 (T 4 (by decide) h), fun h => cc.c5 (T 5 (by decide) h), fun _ => rfl, fun h => cc.c7 (T 7 (by decide) h), fun h => cc.c8 (T 8 (by decide) h), fun h => by obtain ⟨g', e', k1, k2⟩ := cc.c9 (T 9 (by decide) h); exact ⟨g', e', k1, k2⟩, fun h => cc.c10 (T 10 (by decide) h), fun h => cc.c11 (T 11 (by decide) h)⟩⟩
    · simp at ho
      subst ho
      have T : ∀ j, j ≠ 7 → (listed.setIfInBounds 7 true).getD j false = true → listed.getD j false = true := fun j hj h => (done_set h).resolve_left hj
      have S : ∀ j, listed.getD j false = true → (listed.setIfInBounds 7 true).getD j false = true := fun j h => done_keep h
      exact wp_rowF 24 (.tmp 3) rfl (w.heap.size + 1) ((hF.old (by kernel_rfl)).trans rfl) cc.R1 rfl Try.underlying24 (by kernel_rfl) ⟨_, rfl, ⟨cc.bw, cc.ms, cc.R0, cc.R1, fun h => cc.c0 (T 0 (by decide) h), fun h => cc.c1 (T 1 (by decide) h), fun h => cc.c2 (T 2 (by decide) h), fun h => cc.c3 (T 3 (by decide) h), fun h => cc.c4 (T 4 (by decide) h), fun h => cc.c5 (T 5 (by decide) h), fun h => cc.c6 (T 6 (by decide) h), fun _ => rfl, fun h => cc.c8 (T 8 (by decide) h), fun h => by obtain ⟨g', e', k1, k2⟩ := cc.c9 (T 9 (by decide) h); exact ⟨g', e', k1, k2⟩, fun h => cc.c10 (T 10 (by decide) h), fun h => cc.c11 (T 11 (by decide) h)⟩⟩
    · simp at ho
      subst ho
      have T : ∀ j, j ≠ 8 → (listed.setIfInBounds 8 true).getD j false = true → listed.getD j false = true := fun j hj h => (done_set h).resolve_left hj
      have S : ∀ j, listed.getD j false = true → (listed.setIfInBounds 8 true).getD j false = true := fun j h => done_keep h
      have hv0 := ((hF.new (t := 14) (i := 6) (by kernel_rfl) (by simp) (waits_done (i := 8) (j := 6) (by kernel_rfl) hi)).trans (cc.c6 (waits_done (i := 8) (j := 6) (by kernel_rfl) hi)))
      have hv1 := ((hF.new (t := 15) (i := 7) (by kernel_rfl) (by simp) (waits_done (i := 8) (j := 7) (by kernel_rfl) hi)).trans (cc.c7 (waits_done (i := 8) (j := 7) (by kernel_rfl) hi)))
      exact wp_valF (v := .bool false) (w1 := w') (by simp [execOp, go_sem, ev hv0, ev hv1, hE]) ⟨_, rfl, ⟨cc.bw, cc.ms, cc.R0, cc.R1, fun h => cc.c0 (T 0 (by decide) h), fun h => cc.c1 (T 1 (by decide) h), fun h => cc.c2 (T 2 (by decide) h), fun h => cc.c3 (T 3 (by decide) h), fun h => cc.c4 (T 4 (by decide) h), fun h => cc.c5 (T 5 (by decide) h), fun h => cc.c6 (T 6 (by decide) h), fun h => cc.c7 (T 7 (by decide) h), fun _ => rfl, fun h => by obtain ⟨g', e', k1, k2⟩ := cc.c9 (T 9 (by decide) h); exact ⟨g', e', k1, k2⟩, fun h => cc.c10 (T 10 (by decide) h), fun h => cc.c11 (T 11 (by decide) h)⟩⟩
    · simp at ho
      subst ho
      have T : ∀ j, j ≠ 9 → (listed.setIfInBounds 9 true).getD j false = true → listed.getD j false = true := fun j hj h => (done_set h).resolve_left hj
      have S : ∀ j, listed.getD j false = true → (listed.setIfInBounds 9 true).getD j false = true := fun j h => done_keep h
      have hv0 := ((hF.new (t := 10) (i := 2) (by kernel_rfl) (by simp) (waits_done (i := 9) (j := 2) (by kernel_rfl) hi)).trans (cc.c2 (waits_done (i := 9) (j := 2) (by kernel_rfl) hi)))
      have hv1 := ((hF.new (t := 13) (i := 5) (by kernel_rfl) (by simp) (waits_done (i := 9) (j := 5) (by kernel_rfl) hi)).trans (cc.c5 (waits_done (i := 9) (j := 5) (by kernel_rfl) hi)))
      have hv2 := ((hF.new (t := 16) (i := 8) (by kernel_rfl) (by simp) (waits_done (i := 9) (j := 8) (by kernel_rfl) hi)).trans (cc.c8 (waits_done (i := 9) (j := 8) (by kernel_rfl) hi)))
      exact wp_valF (v := .slice (some ⟨w'.heap.size, 0, none⟩) 3 3) (w1 := w'.alloc (.cells #[.bool true, .bool false, .bool false] 4)) (by simp [execOp, go_sem, ev hv0, ev hv1, ev hv2]) ⟨_, rfl, ⟨bel_alloc cc.bw _, by have := cc.ms; simp; omega, cc.R0.old, cc.R1.old, fun h => cc.c0 (T 0 (by decide) h), fun h => cc.c1 (T 1 (by decide) h), fun h => cc.c2 (T 2 (by decide) h), fun h => cc.c3 (T 3 (by decide) h), fun h => cc.c4 (T 4 (by decide) h), fun h => cc.c5 (T 5 (by decide) h), fun h => cc.c6 (T 6 (by decide) h), fun h => cc.c7 (T 7 (by decide) h), fun h => cc.c8 (T 8 (by decide) h), fun _ => ⟨w'.heap.size, rfl, cc.ms, HasRow.last rfl⟩, fun h => cc.c10 (T 10 (by decide) h), fun h => cc.c11 (T 11 (by decide) h)⟩⟩
    · simp at ho
      subst ho
      have T : ∀ j, j ≠ 10 → (listed.setIfInBounds 10 true).getD j false = true → listed.getD j false = true := fun j hj h => (done_set h).resolve_left hj
      have S : ∀ j, listed.getD j false = true → (listed.setIfInBounds 10 true).getD j false = true := fun j h => done_keep h
      obtain ⟨g, e, h1, h2⟩ := cc.c9 (waits_done (i := 10) (j := 9) (by kernel_rfl) hi)
      have hv := (hF.new (t := 17) (i := 9) (by kernel_rfl) (by simp) (waits_done (i := 10) (j := 9) (by kernel_rfl) hi)).trans e
      exact wp_valF (v := .int .i64 3) (w1 := w') (by simp [go_sem, ev hv]) ⟨_, rfl, ⟨cc.bw, cc.ms, cc.R0, cc.R1, fun h => cc.c0 (T 0 (by decide) h), fun h => cc.c1 (T 1 (by decide) h), fun h => cc.c2 (T 2 (by decide) h), fun h => cc.c3 (T 3 (by decide) h), fun h => cc.c4 (T 4 (by decide) h), fun h => cc.c5 (T 5 (by decide) h), fun h => cc.c6 (T 6 (by decide) h), fun h => cc.c7 (T 7 (by decide) h), fun h => cc.c8 (T 8 (by decide) h), fun h => by obtain ⟨g', e', k1, k2⟩ := cc.c9 (T 9 (by decide) h); exact ⟨g', e', k1, k2⟩, fun _ => rfl, fun h => cc.c11 (T 11 (by decide) h)⟩⟩
    · simp at ho
      subst ho
      have T : ∀ j, j ≠ 11 → (listed.setIfInBounds 11 true).getD j false = true → listed.getD j false = true := fun j hj h => (done_set h).resolve_left hj
      have S : ∀ j, listed.getD j false = true → (listed.setIfInBounds 11 true).getD j false = true := fun j h => done_keep h
      exact wp_valF (v := .int .i64 0) (w1 := w') (by simp [execOp, go_sem]) ⟨_, rfl, ⟨cc.bw, cc.ms, cc.R0, cc.R1, fun h => cc.c0 (T 0 (by decide) h), fun h => cc.c1 (T 1 (by decide) h), fun h => cc.c2 (T 2 (by decide) h), fun h => cc.c3 (T 3 (by decide) h), fun h => cc.c4 (T 4 (by decide) h), fun h => cc.c5 (T 5 (by decide) h), fun h => cc.c6 (T 6 (by decide) h), fun h => cc.c7 (T 7 (by decide) h), fun h => cc.c8 (T 8 (by decide) h), fun h => by obtain ⟨g', e', k1, k2⟩ := cc.c9 (T 9 (by decide) h); exact ⟨g', e', k1, k2⟩, fun h => cc.c10 (T 10 (by decide) h), fun _ => rfl⟩⟩
  · intro listed vs a' w1 hd hF cc
    have e : a' = ({ tmps := #[U a, U b, .pointer (some ⟨w.heap.size, 0, none⟩), .pointer (some ⟨w.heap.size + 1, 0, none⟩), .bool false, .int .i64 0, undef, undef, vs 0, vs 1, vs 2, vs 3, vs 4, vs 5, vs 6, vs 7, vs 8, vs 9, vs 10, vs 11, undef, undef, undef, undef, undef, undef, undef, undef, undef, undef, undef, undef, undef, undef, undef, undef, undef, undef, undef, undef, undef, undef, undef, undef, undef, undef, undef, undef, undef, undef, undef], defers := [] } : Act) := (hF.all hd).trans (by kernel_rfl)
    subst e
    obtain ⟨g9, e9, h19, h2⟩ := cc.c9 (hd 9 (by simp))
    have RX9 : Hid (HasRow w1 g9 #[.bool true, .bool false, .bool false]) := h2
    clear h2
    rw [cc.c10 (hd 10 (by simp))]
    rw [cc.c11 (hd 11 (by simp))]
    have R0_1 : Hid (HasRow w1 (w.heap.size) #[B (l0 a), B (l1 a), B (l2 a), B (l3 a)]) := cc.R0
    have R1_1 : Hid (HasRow w1 (w.heap.size + 1) #[B (l0 b), B (l1 b), B (l2 b), B (l3 b)]) := cc.R1
    have B1 : Hid (Below w.heap.size w w1) := cc.bw
    rw [e9]
    clear cc hd hF BF e9 RF0 RF1
    have R2_1 : Hid (HasRow w1 g9 #[.bool true, .bool false, .bool false]) := RX9
    clear RX9
    have q0_1 := R0_1.out.lt
    have q1_1 := R1_1.out.lt
    have q2_1 := R2_1.out.lt
    have c0_0_1 : w1.cell? ⟨w.heap.size, 0, none⟩ = some (B (l0 a)) := R0_1.out.cell 0
    have c0_1_1 : w1.cell? ⟨w.heap.size, 1, none⟩ = some (B (l1 a)) := R0_1.out.cell 1
    have c0_2_1 : w1.cell? ⟨w.heap.size, 2, none⟩ = some (B (l2 a)) := R0_1.out.cell 2
    have c0_3_1 : w1.cell? ⟨w.heap.size, 3, none⟩ = some (B (l3 a)) := R0_1.out.cell 3
    have c1_0_1 : w1.cell? ⟨w.heap.size + 1, 0, none⟩ = some (B (l0 b)) := R1_1.out.cell 0
    have c1_1_1 : w1.cell? ⟨w.heap.size + 1, 1, none⟩ = some (B (l1 b)) := R1_1.out.cell 1
    have c1_2_1 : w1.cell? ⟨w.heap.size + 1, 2, none⟩ = some (B (l2 b)) := R1_1.out.cell 2
    have c1_3_1 : w1.cell? ⟨w.heap.size + 1, 3, none⟩ = some (B (l3 b)) := R1_1.out.cell 3
    have c2_0_1 : w1.cell? ⟨g9, 0, none⟩ = some (.bool true) := R2_1.out.cell 0
    have c2_1_1 : w1.cell? ⟨g9, 1, none⟩ = some (.bool false) := R2_1.out.cell 1
    have c2_2_1 : w1.cell? ⟨g9, 2, none⟩ = some (.bool false) := R2_1.out.cell 2
    go_wp2
    refine wp_loop_rounds 4 ?_
    rw [rounds_succ]; go_wp2_with fail
    rw [rounds_succ]; go_wp2_with fail
    rw [rounds_succ]; go_wp2_with fail
    rw [rounds_succ]; go_wp2_with fail
    go_wp2_with fail
    refine name_world _ ?_
    intro wF hF
    have RF0 : Hid (HasRow wF (w.heap.size) #[B (l0 a), B (l1 a), B (l2 a), B (l3 a)]) := by rw [hF]; exact R0_1.out
    have RF1 : Hid (HasRow wF (w.heap.size + 1) #[B (l0 b), B (l1 b), B (l2 b), B (l3 b)]) := by rw [hF]; exact R1_1.out
    have RF2 : Hid (HasRow wF (g9) #[.bool true, .bool false, .bool false]) := by rw [hF]; exact R2_1.out
    have BF : Hid (Below w.heap.size w wF) := by rw [hF]; exact B1.out
    clear hF
    clear q0_1 q1_1 q2_1 c0_0_1 c0_1_1 c0_2_1 c0_3_1 c1_0_1 c1_1_1 c1_2_1 c1_3_1 c2_0_1 c2_1_1 c2_2_1
    clear B1 R0_1 R1_1 R2_1
    have d0_0 : wF.cell? ⟨w.heap.size, 0, none⟩ = some (B (l0 a)) := RF0.out.cell 0
    replace d0_0 := cell_regrown d0_0
    have d0_1 : wF.cell? ⟨w.heap.size, 1, none⟩ = some (B (l1 a)) := RF0.out.cell 1
    replace d0_1 := cell_regrown d0_1
    have d0_2 : wF.cell? ⟨w.heap.size, 2, none⟩ = some (B (l2 a)) := RF0.out.cell 2
    replace d0_2 := cell_regrown d0_2
    have d0_3 : wF.cell? ⟨w.heap.size, 3, none⟩ = some (B (l3 a)) := RF0.out.cell 3
    replace d0_3 := cell_regrown d0_3
    have d1_0 : wF.cell? ⟨w.heap.size + 1, 0, none⟩ = some (B (l0 b)) := RF1.out.cell 0
    replace d1_0 := cell_regrown d1_0
    have d1_1 : wF.cell? ⟨w.heap.size + 1, 1, none⟩ = some (B (l1 b)) := RF1.out.cell 1
    replace d1_1 := cell_regrown d1_1
    have d1_2 : wF.cell? ⟨w.heap.size + 1, 2, none⟩ = some (B (l2 b)) := RF1.out.cell 2
    replace d1_2 := cell_regrown d1_2
    have d1_3 : wF.cell? ⟨w.heap.size + 1, 3, none⟩ = some (B (l3 b)) := RF1.out.cell 3
    replace d1_3 := cell_regrown d1_3
    refine wp_region_quiet_below (by kernel_rfl) (by kernel_rfl) ?_
    repeat (go_big_quiet_step (fail))
    go_big_quiet_step ((exact Calls.regrown_of (ha.out _)))
    repeat (go_big_quiet_step (fail))
    refine wpQuiet_nil ?_
    intro w2 hw'
    have hb2 : Below wF.heap.size wF w2 := by obtain ⟨p, rfl⟩ := hw'; exact below_regrown _ _ _
    clear hw'
    clear d0_0 d0_1 d0_2 d0_3
    clear d1_0 d1_1 d1_2 d1_3
    have R0_2 : Hid (HasRow w2 (w.heap.size) #[B (l0 a), B (l1 a), B (l2 a), B (l3 a)]) := RF0.out.below hb2
    have R1_2 : Hid (HasRow w2 (w.heap.size + 1) #[B (l0 b), B (l1 b), B (l2 b), B (l3 b)]) := RF1.out.below hb2
    have R2_2 : Hid (HasRow w2 (g9) #[.bool true, .bool false, .bool false]) := RF2.out.below hb2
    have B2 : Hid (Below w.heap.size w w2) := bel_call BF.out hb2
    clear hb2 BF RF0 RF1 RF2
    clear wF
    have q0_2 := R0_2.out.lt
    have q1_2 := R1_2.out.lt
    have q2_2 := R2_2.out.lt
    go_wp2
    go_ret
    exact ⟨rfl, B2.out⟩

set_option maxRecDepth 100000 in
set_option maxHeartbeats 4000000 in
theorem order4_tff_10 (a b : Nat)
    (h1 : Hid (∀ w, Calls Try.prog 11 #[U a, U b] w fun e w' => e = .returned (.bool true) ∧ Below w.heap.size w w'))
    (h2 : Hid (∀ w, Calls Try.prog 11 #[U b, U a] w fun e w' => e = .returned (.bool false) ∧ Below w.heap.size w w'))
    (hE : ∀ w, (Op.equalIn 10000 24 (U a) (U b)).run Try.prog w = .ok false w)
    (ha : Hid (∀ w, Calls Try.prog 19 #[] w fun e w' => e = .returned (.bool true) ∧ Below w.heap.size w w'))
    (hta : (l3 a : Int) / 9223372036854775808 = 1)
    (htb : (l3 b : Int) / 9223372036854775808 = 0) (w : World) :
    Calls Try.prog 5 #[U a, U b] w fun e w' => e = .returned (.bool true) ∧ Below w.heap.size w w' := by
  go_enter Try.func5, Try.ntmps5
  go_wp2_with fail
  refine name_world _ ?_
  intro wF hF0
  have RF0 : Hid (HasRow wF (w.heap.size) #[B (l0 a), B (l1 a), B (l2 a), B (l3 a)]) := by rw [hF0]; exact (HasRow.old (HasRow.last (by simp)))
  have RF1 : Hid (HasRow wF (w.heap.size + 1) #[B (l0 b), B (l1 b), B (l2 b), B (l3 b)]) := by rw [hF0]; exact (HasRow.last (by simp))
  have BF : Hid (Below w.heap.size w wF) := by rw [hF0]; exact (bel_alloc (bel_alloc (Below.refl _ _) _) _)
  clear hF0
  obtain ⟨N0, hN0⟩ : ∃ n, n = wF.heap.size := ⟨_, rfl⟩
  have qF0 : w.heap.size < N0 := by rw [hN0]; exact RF0.out.lt
  have qF1 : w.heap.size + 1 < N0 := by rw [hN0]; exact RF1.out.lt
  refine wp_region_vals2 (by kernel_rfl) (by kernel_rfl) (by kernel_rfl) (COtff w N0 a b) ?_ ?_ ?_
  · refine ⟨BF.out.drew, by rw [hN0]; exact Nat.le_refl _, RF0.out, RF1.out, ?_, ?_, ?_, ?_, ?_, ?_, ?_, ?_, ?_, ?_, ?_, ?_⟩ <;> (intro h; simp [Array.getD] at h)
  · intro listed vs a' w' i o' hs ho hi hF cc
    have hin : i < 12 := by have := (Array.getElem?_eq_some_iff.1 ho).1; simpa using this
    have hcase : i = 0 ∨ i = 1 ∨ i = 2 ∨ i = 3 ∨ i = 4 ∨ i = 5 ∨ i = 6 ∨ i = 7 ∨ i = 8 ∨ i = 9 ∨ i = 10 ∨ i = 11 := by omega
    rcases hcase with rfl | rfl | rfl | rfl | rfl | rfl | rfl | rfl | rfl | rfl | rfl | rfl
    · simp at ho
      subst ho
      have T : ∀ j, j ≠ 0 → (listed.setIfInBounds 0 true).getD j false = true → listed.getD j false = true := fun j hj h => (done_set h).resolve_left hj
      have S : ∀ j, listed.getD j false = true → (listed.setIfInBounds 0 true).getD j false = true := fun j h => done_keep h
      exact wp_rowF 24 (.tmp 2) rfl (w.heap.size) ((hF.old (by kernel_rfl)).trans rfl) cc.R0 rfl Try.underlying24 (by kernel_rfl) ⟨_, rfl, ⟨cc.bw, cc.ms, cc.R0, cc.R1, fun _ => rfl, fun h => cc.c1 (T 1 (by decide) h), fun h => cc.c2 (T 2 (by decide) h), fun h => cc.c3 (T 3 (by decide) h), fun h => cc.c4 (T 4 (by decide) h), fun h => cc.c5 (T 5 (by decide) h), fun h => cc.c6 (T 6 (by decide) h), fun h => cc.c7 (T 7 (by decide) h), fun h => cc.c8 (T 8 (by decide) h), fun h => by obtain ⟨g', e', k1, k2⟩ := cc.c9 (T 9 (by decide) h); exact ⟨g', e', k1, k2⟩, fun h => cc.c10 (T 10 (by decide) h), fun h => cc.c11 (T 11 (by decide) h)⟩⟩
    · simp at ho
      subst ho
      have T : ∀ j, j ≠ 1 → (listed.setIfInBounds 1 true).getD j false = true → listed.getD j false = true := fun j hj h => (done_set h).resolve_left hj
      have S : ∀ j, listed.getD j false = true → (listed.setIfInBounds 1 true).getD j false = true := fun j h => done_keep h
      exact wp_rowF 24 (.tmp 3) rfl (w.heap.size + 1) ((hF.old (by kernel_rfl)).trans rfl) cc.R1 rfl Try.underlying24 (by kernel_rfl) ⟨_, rfl, ⟨cc.bw, cc.ms, cc.R0, cc.R1, fun h => cc.c0 (T 0 (by decide) h), fun _ => rfl, fun h => cc.c2 (T 2 (by decide) h), fun h => cc.c3 (T 3 (by decide) h), fun h => cc.c4 (T 4 (by decide) h), fun h => cc.c5 (T 5 (by decide) h), fun h => cc.c6 (T 6 (by decide) h), fun h => cc.c7 (T 7 (by decide) h), fun h => cc.c8 (T 8 (by decide) h), fun h => by obtain ⟨g', e', k1, k2⟩ := cc.c9 (T 9 (by decide) h); exact ⟨g', e', k1, k2⟩, fun h => cc.c10 (T 10 (by decide) h), fun h => cc.c11 (T 11 (by decide) h)⟩⟩
    · simp at ho
      subst ho
      have T : ∀ j, j ≠ 2 → (listed.setIfInBounds 2 true).getD j false = true → listed.getD j false = true := fun j hj h => (done_set h).resolve_left hj
      have S : ∀ j, listed.getD j false = true → (listed.setIfInBounds 2 true).getD j false = true := fun j h => done_keep h
      have hv0 := ((hF.new (t := 8) (i := 0) (by kernel_rfl) (by simp) (waits_done (i := 2) (j := 0) (by kernel_rfl) hi)).trans (cc.c0 (waits_done (i := 2) (j := 0) (by kernel_rfl) hi)))
      have hv1 := ((hF.new (t := 9) (i := 1) (by kernel_rfl) (by simp) (waits_done (i := 2) (j := 1) (by kernel_rfl) hi)).trans (cc.c1 (waits_done (i := 2) (j := 1) (by kernel_rfl) hi)))
      refine wp_callF (f := 11) (args := #[U a, U b]) (v := .bool true) (by simp [execOp_call_go, ev hv0, ev hv1, go_sem]) (h1.out w') ?_
      intro w'' hb''
      exact ⟨_, rfl, ⟨cc.bw.trans (hb''.mono cc.bw.size), Nat.le_trans cc.ms hb''.size, cc.R0.below hb'', cc.R1.below hb'', fun h => cc.c0 (T 0 (by decide) h), fun h => cc.c1 (T 1 (by decide) h), fun _ => rfl, fun h => cc.c3 (T 3 (by decide) h), fun h => cc.c4 (T 4 (by decide) h), fun h => cc.c5 (T 5 (by decide) h), fun h => cc.c6 (T 6 (by decide) h), fun h => cc.c7 (T 7 (by decide) h), fun h => cc.c8 (T 8 (by decide) h), fun h => by obtain ⟨g', e', k1, k2⟩ := cc.c9 (T 9 (by decide) h); exact ⟨g', e', k1, k2.below hb''⟩, fun h => cc.c10 (T 10 (by decide) h), fun h => cc.c11 (T 11 (by decide) h)⟩⟩
    · simp at ho
      subst ho
      have T : ∀ j, j ≠ 3 → (listed.setIfInBounds 3 true).getD j false = true → listed.getD j false = true := fun j hj h => (done_set h).resolve_left hj
      have S : ∀ j, listed.getD j false = true → (listed.setIfInBounds 3 true).getD j false = true := fun j h => done_keep h
      exact wp_rowF 24 (.tmp 3) rfl (w.heap.size + 1) ((hF.old (by kernel_rfl)).trans rfl) cc.R1 rfl Try.underlying24 (by kernel_rfl) ⟨_, rfl, ⟨cc.bw, cc.ms, cc.R0, cc.R1, fun h => cc.c0 (T 0 (by decide) h), fun h => cc.c1 (T 1 (by decide) h), fun h => cc.c2 (T 2 (by decide) h), fun _ => rfl, fun h => cc.c4 (T 4 (by decide) h), fun h => cc.c5 (T 5 (by decide) h), fun h => cc.c6 (T 6 (by decide) h), fun h => cc.c7 (T 7 (by decide) h), fun h => cc.c8 (T 8 (by decide) h), fun h => by obtain ⟨g', e', k1, k2⟩ := cc.c9 (T 9 (by decide) h); exact ⟨g', e', k1, k2⟩, fun h => cc.c10 (T 10 (by decide) h), fun h => cc.c11 (T 11 (by decide) h)⟩⟩
    · simp at ho
      subst ho
      have T : ∀ j, j ≠ 4 → (listed.setIfInBounds 4 true).getD j false = true → listed.getD j false = true := fun j hj h => (done_set h).resolve_left hj
      have S : ∀ j, listed.getD j false = true → (listed.setIfInBounds 4 true).getD j false = true := fun j h => done_keep h
      exact wp_rowF 24 (.tmp 2) rfl (w.heap.size) ((hF.old (by kernel_rfl)).trans rfl) cc.R0 rfl Try.underlying24 (by kernel_rfl) ⟨_, rfl, ⟨cc.bw, cc.ms, cc.R0, cc.R1, fun h => cc.c0 (T 0 (by decide) h), fun h => cc.c1 (T 1 (by decide) h), fun h => cc.c2 (T 2 (by decide) h), fun h => cc.c3 (T 3 (by decide) h), fun _ => rfl, fun h => cc.c5 (T 5 (by decide) h), fun h => cc.c6 (T 6 (by decide) h), fun h => cc.c7 (T 7 (by decide) h), fun h => cc.c8 (T 8 (by decide) h), fun h => by obtain ⟨g', e', k1, k2⟩ := cc.c9 (T 9 (by decide) h); exact ⟨g', e', k1, k2⟩, fun h => cc.c10 (T 10 (by decide) h), fun h => cc.c11 (T 11 (by decide) h)⟩⟩
    · simp at ho
      subst ho
      have T : ∀ j, j ≠ 5 → (listed.setIfInBounds 5 true).getD j false = true → listed.getD j false = true := fun j hj h => (done_set h).resolve_left hj
      have S : ∀ j, listed.getD j false = true → (listed.setIfInBounds 5 true).getD j false = true := fun j h => done_keep h
      have hv0 := ((hF.new (t := 11) (i := 3) (by kernel_rfl) (by simp) (waits_done (i := 5) (j := 3) (by kernel_rfl) hi)).trans (cc.c3 (waits_done (i := 5) (j := 3) (by kernel_rfl) hi)))
      have hv1 := ((hF.new (t := 12) (i := 4) (by kernel_rfl) (by simp) (waits_done (i := 5) (j := 4) (by kernel_rfl) hi)).trans (cc.c4 (waits_done (i := 5) (j := 4) (by kernel_rfl) hi)))
      refine wp_callF (f := 11) (args := #[U b, U a]) (v := .bool false) (by simp [execOp_call_go, ev hv0, ev hv1, go_sem]) (h2.out w') ?_
      intro w'' hb''
      exact ⟨_, rfl, ⟨cc.bw.trans (hb''.mono cc.bw.size), Nat.le_trans cc.ms hb''.size, cc.R0.below hb'', cc.R1.below hb'', fun h => cc.c0 (T 0 (by decide) h), fun h => cc.c1 (T 1 (by decide) h), fun h => cc.c2 (T 2 (by decide) h), fun h => cc.c3 (T 3 (by decide) h), fun h => cc.c4 (T 4 (by decide) h), fun _ => rfl, fun h => cc.c6 (T 6 (by decide) h), fun h => cc.c7 (T 7 (by decide) h), fun h => cc.c8 (T 8 (by decide) h), fun h => by obtain ⟨g', e', k1, k2⟩ := cc.c9 (T 9 (by decide) h); exact ⟨g', e', k1, k2.below hb''⟩, fun h => cc.c10 (T 10 (by decide) h), fun h => cc.c11 (T 11 (by decide) h)⟩⟩
    · simp at ho
      subst ho
      have T : ∀ j, j ≠ 6 → (listed.setIfInBounds 6 true).getD j false = true → listed.getD j false = true := fun j hj h => (done_set h).resolve_left hj
      have S : ∀ j, listed.getD j false = true → (listed.setIfInBounds 6 true).getD j false = true := fun j h => done_keep h
      exact wp_rowF 24 (.tmp 2) rfl (w.heap.size) ((hF.old (by kernel_rfl)).trans rfl) cc.R0 rfl Try.underlying24 (by kernel_rfl) ⟨_, rfl, ⟨cc.bw, cc.ms, cc.R0, cc.R1, fun h => cc.c0 (T 0 (by decide) h), fun h => cc.c1 (T 1 (by decide) h), fun h => cc.c2 (T 2 (by decide) h), fun h => cc.c3 (T 3 (by decide) h), fun h => cc.c4 (T 4 (by decide) h), fun h => cc.c5 (T 5 (by decide) h), fun _ => rfl, fun h => cc.c7 (T 7 (by decide) h), fun h => cc.c8 (T 8 (by decide) h), fun h => by obtain ⟨g', e', k1, k2⟩ := cc.c9 (T 9 (by decide) h); exact ⟨g', e', k1, k2⟩, fun h => cc.c10 (T 10 (by decide) h), fun h => cc.c11 (T 11 (by decide) h)⟩⟩
    · simp at ho
      subst ho
      have T : ∀ j, j ≠ 7 → (listed.setIfInBounds 7 true).getD j false = true → listed.getD j false = true := fun j hj h => (done_set h).resolve_left hj
      have S : ∀ j, listed.getD j false = true → (listed.setIfInBounds 7 true).getD j false = true := fun j h => done_keep h
      exact wp_rowF 24 (.tmp 3) rfl (w.heap.size + 1) ((hF.old (by kernel_rfl)).trans rfl) cc.R1 rfl Try.underlying24 (by kernel_rfl) ⟨_, rfl, ⟨cc.bw, cc.ms, cc.R0, cc.R1, fun h => cc.c0 (T 0 (by decide) h), fun h => cc.c1 (T 1 (by decide) h), fun h => cc.c2 (T 2 (by decide) h), fun h => cc.c3 (T 3 (by decide) h), fun h => cc.c4 (T 4 (by decide) h), fun h => cc.c5 (T 5 (by decide) h), fun h => cc.c6 (T 6 (by decide) h), fun _ => rfl, fun h => cc.c8 (T 8 (by decide) h), fun h => by obtain ⟨g', e', k1, k2⟩ := cc.c9 (T 9 (by decide) h); exact ⟨g', e', k1, k2⟩, fun h => cc.c10 (T 10 (by decide) h), fun h => cc.c11 (T 11 (by decide) h)⟩⟩
    · simp at ho
      subst ho
      have T : ∀ j, j ≠ 8 → (listed.setIfInBounds 8 true).getD j false = true → listed.getD j false = true := fun j hj h => (done_set h).resolve_left hj
      have S : ∀ j, listed.getD j false = true → (listed.setIfInBounds 8 true).getD j false = true := fun j h => done_keep h
      have hv0 := ((hF.new (t := 14) (i := 6) (by kernel_rfl) (by simp) (waits_done (i := 8) (j := 6) (by kernel_rfl) hi)).trans (cc.c6 (waits_done (i := 8) (j := 6) (by kernel_rfl) hi)))
      have hv1 := ((hF.new (t := 15) (i := 7) (by kernel_rfl) (by simp) (waits_done (i := 8) (j := 7) (by kernel_rfl) hi)).trans (cc.c7 (waits_done (i := 8) (j := 7) (by kernel_rfl) hi)))
      exact wp_valF (v := .bool false) (w1 := w') (by simp [execOp, go_sem, ev hv0, ev hv1, hE]) ⟨_, rfl, ⟨cc.bw, cc.ms, cc.R0, cc.R1, fun h => cc.c0 (T 0 (by decide) h), fun h => cc.c1 (T 1 (by decide) h), fun h => cc.c2 (T 2 (by decide) h), fun h => cc.c3 (T 3 (by decide) h), fun h => cc.c4 (T 4 (by decide) h), fun h => cc.c5 (T 5 (by decide) h), fun h => cc.c6 (T 6 (by decide) h), fun h => cc.c7 (T 7 (by decide) h), fun _ => rfl, fun h => by obtain ⟨g', e', k1, k2⟩ := cc.c9 (T 9 (by decide) h); exact ⟨g', e', k1, k2⟩, fun h => cc.c10 (T 10 (by decide) h), fun h => cc.c11 (T 11 (by decide) h)⟩⟩
    · simp at ho
      subst ho
      have T : ∀ j, j ≠ 9 → (listed.setIfInBounds 9 true).getD j false = true → listed.getD j false = true := fun j hj h => (done_set h).resolve_left hj
      have S : ∀ j, listed.getD j false = true → (listed.setIfInBounds 9 true).getD j false = true := fun j h => done_keep h
      have hv0 := ((hF.new (t := 10) (i := 2) (by kernel_rfl) (by simp) (waits_done (i := 9) (j := 2) (by kernel_rfl) hi)).trans (cc.c2 (waits_done (i := 9) (j := 2) (by kernel_rfl) hi)))
      have hv1 := ((hF.new (t := 13) (i := 5) (by kernel_rfl) (by simp) (waits_done (i := 9) (j := 5) (by kernel_rfl) hi)).trans (cc.c5 (waits_done (i := 9) (j := 5) (by kernel_rfl) hi)))
      have hv2 := ((hF.new (t := 16) (i := 8) (by kernel_rfl) (by simp) (waits_done (i := 9) (j := 8) (by kernel_rfl) hi)).trans (cc.c8 (waits_done (i := 9) (j := 8) (by kernel_rfl) hi)))
      exact wp_valF (v := .slice (some ⟨w'.heap.size, 0, none⟩) 3 3) (w1 := w'.alloc (.cells #[.bool true, .bool false, .bool false] 4)) (by simp [execOp, go_sem, ev hv0, ev hv1, ev hv2]) ⟨_, rfl, ⟨bel_alloc cc.bw _, by have := cc.ms; simp; omega, cc.R0.old, cc.R1.old, fun h => cc.c0 (T 0 (by decide) h), fun h => cc.c1 (T 1 (by decide) h), fun h => cc.c2 (T 2 (by decide) h), fun h => cc.c3 (T 3 (by decide) h), fun h => cc.c4 (T 4 (by decide) h), fun h => cc.c5 (T 5 (by decide) h), fun h => cc.c6 (T 6 (by decide) h), fun h => cc.c7 (T 7 (by decide) h), fun h => cc.c8 (T 8 (by decide) h), fun _ => ⟨w'.heap.size, rfl, cc.ms, HasRow.last rfl⟩, fun h => cc.c10 (T 10 (by decide) h), fun h => cc.c11 (T 11 (by decide) h)⟩⟩
    · simp at ho
      subst ho
      have T : ∀ j, j ≠ 10 → (listed.setIfInBounds 10 true).getD j false = true → listed.getD j false = true := fun j hj h => (done_set h).resolve_left hj
      have S : ∀ j, listed.getD j false = true → (listed.setIfInBounds 10 true).getD j false = true := fun j h => done_keep h
      obtain ⟨g, e, h1, h2⟩ := cc.c9 (waits_done (i := 10) (j := 9) (by kernel_rfl) hi)
      have hv := (hF.new (t := 17) (i := 9) (by kernel_rfl) (by simp) (waits_done (i := 10) (j := 9) (by kernel_rfl) hi)).trans e
      exact wp_valF (v := .int .i64 3) (w1 := w') (by simp [go_sem, ev hv]) ⟨_, rfl, ⟨cc.bw, cc.ms, cc.R0, cc.R1, fun h => cc.c0 (T 0 (by decide) h), fun h => cc.c1 (T 1 (by decide) h), fun h => cc.c2 (T 2 (by decide) h), fun h => cc.c3 (T 3 (by decide) h), fun h => cc.c4 (T 4 (by decide) h), fun h => cc.c5 (T 5 (by decide) h), fun h => cc.c6 (T 6 (by decide) h), fun h => cc.c7 (T 7 (by decide) h), fun h => cc.c8 (T 8 (by decide) h), fun h => by obtain ⟨g', e', k1, k2⟩ := cc.c9 (T 9 (by decide) h); exact ⟨g', e', k1, k2⟩, fun _ => rfl, fun h => cc.c11 (T 11 (by decide) h)⟩⟩
    · simp at ho
      subst ho
      have T : ∀ j, j ≠ 11 → (listed.setIfInBounds 11 true).getD j false = true → listed.getD j false = true := fun j hj h => (done_set h).resolve_left hj
      have S : ∀ j, listed.getD j false = true → (listed.setIfInBounds 11 true).getD j false = true := fun j h => done_keep h
      exact wp_valF (v := .int .i64 0) (w1 := w') (by simp [execOp, go_sem]) ⟨_, rfl, ⟨cc.bw, cc.ms, cc.R0, cc.R1, fun h => cc.c0 (T 0 (by decide) h), fun h => cc.c1 (T 1 (by decide) h), fun h => cc.c2 (T 2 (by decide) h), fun h => cc.c3 (T 3 (by decide) h), fun h => cc.c4 (T 4 (by decide) h), fun h => cc.c5 (T 5 (by decide) h), fun h => cc.c6 (T 6 (by decide) h), fun h => cc.c7 (T 7 (by decide) h), fun h => cc.c8 (T 8 (by decide) h), fun h => by obtain ⟨g', e', k1, k2⟩ := cc.c9 (T 9 (by decide) h); exact ⟨g', e', k1, k2⟩, fun h => cc.c10 (T 10 (by decide) h), fun _ => rfl⟩⟩
  · intro listed vs a' w1 hd hF cc
    have e : a' = ({ tmps := #[U a, U b, .pointer (some ⟨w.heap.size, 0, none⟩), .pointer (some ⟨w.heap.size + 1, 0, none⟩), .bool false, .int .i64 0, undef, undef, vs 0, vs 1, vs 2, vs 3, vs 4, vs 5, vs 6, vs 7, vs 8, vs 9, vs 10, vs 11, undef, undef, undef, undef, undef, undef, undef, undef, undef, undef, undef, undef, undef, undef, undef, undef, undef, undef, undef, undef, undef, undef, undef, undef, undef, undef, undef, undef, undef, undef, undef], defers := [] } : Act) := (hF.all hd).trans (by kernel_rfl)
    subst e
    obtain ⟨g9, e9, h19, h2⟩ := cc.c9 (hd 9 (by simp))
    have RX9 : Hid (HasRow w1 g9 #[.bool true, .bool false, .bool false]) := h2
    clear h2
    rw [cc.c10 (hd 10 (by simp))]
    rw [cc.c11 (hd 11 (by simp))]
    have R0_1 : Hid (HasRow w1 (w.heap.size) #[B (l0 a), B (l1 a), B (l2 a), B (l3 a)]) := cc.R0
    have R1_1 : Hid (HasRow w1 (w.heap.size + 1) #[B (l0 b), B (l1 b), B (l2 b), B (l3 b)]) := cc.R1
    have B1 : Hid (Below w.heap.size w w1) := cc.bw
    rw [e9]
    clear cc hd hF BF e9 RF0 RF1
    have R2_1 : Hid (HasRow w1 g9 #[.bool true, .bool false, .bool false]) := RX9
    clear RX9
    have q0_1 := R0_1.out.lt
    have q1_1 := R1_1.out.lt
    have q2_1 := R2_1.out.lt
    have c0_0_1 : w1.cell? ⟨w.heap.size, 0, none⟩ = some (B (l0 a)) := R0_1.out.cell 0
    have c0_1_1 : w1.cell? ⟨w.heap.size, 1, none⟩ = some (B (l1 a)) := R0_1.out.cell 1
    have c0_2_1 : w1.cell? ⟨w.heap.size, 2, none⟩ = some (B (l2 a)) := R0_1.out.cell 2
    have c0_3_1 : w1.cell? ⟨w.heap.size, 3, none⟩ = some (B (l3 a)) := R0_1.out.cell 3
    have c1_0_1 : w1.cell? ⟨w.heap.size + 1, 0, none⟩ = some (B (l0 b)) := R1_1.out.cell 0
    have c1_1_1 : w1.cell? ⟨w.heap.size + 1, 1, none⟩ = some (B (l1 b)) := R1_1.out.cell 1
    have c1_2_1 : w1.cell? ⟨w.heap.size + 1, 2, none⟩ = some (B (l2 b)) := R1_1.out.cell 2
    have c1_3_1 : w1.cell? ⟨w.heap.size + 1, 3, none⟩ = some (B (l3 b)) := R1_1.out.cell 3
    have c2_0_1 : w1.cell? ⟨g9, 0, none⟩ = some (.bool true) := R2_1.out.cell 0
    have c2_1_1 : w1.cell? ⟨g9, 1, none⟩ = some (.bool false) := R2_1.out.cell 1
    have c2_2_1 : w1.cell? ⟨g9, 2, none⟩ = some (.bool false) := R2_1.out.cell 2
    go_wp2
    refine wp_loop_rounds 4 ?_
    rw [rounds_succ]; go_wp2_with fail
    rw [rounds_succ]; go_wp2_with fail
    rw [rounds_succ]; go_wp2_with fail
    rw [rounds_succ]; go_wp2_with fail
    go_wp2_with fail
    refine name_world _ ?_
    intro wF hF
    have RF0 : Hid (HasRow wF (w.heap.size) #[B (l0 a), B (l1 a), B (l2 a), B (l3 a)]) := by rw [hF]; exact R0_1.out
    have RF1 : Hid (HasRow wF (w.heap.size + 1) #[B (l0 b), B (l1 b), B (l2 b), B (l3 b)]) := by rw [hF]; exact R1_1.out
    have RF2 : Hid (HasRow wF (g9) #[.bool true, .bool false, .bool false]) := by rw [hF]; exact R2_1.out
    have BF : Hid (Below w.heap.size w wF) := by rw [hF]; exact B1.out
    clear hF
    clear q0_1 q1_1 q2_1 c0_0_1 c0_1_1 c0_2_1 c0_3_1 c1_0_1 c1_1_1 c1_2_1 c1_3_1 c2_0_1 c2_1_1 c2_2_1
    clear B1 R0_1 R1_1 R2_1
    have d0_0 : wF.cell? ⟨w.heap.size, 0, none⟩ = some (B (l0 a)) := RF0.out.cell 0
    replace d0_0 := cell_regrown d0_0
    have d0_1 : wF.cell? ⟨w.heap.size, 1, none⟩ = some (B (l1 a)) := RF0.out.cell 1
    replace d0_1 := cell_regrown d0_1
    have d0_2 : wF.cell? ⟨w.heap.size, 2, none⟩ = some (B (l2 a)) := RF0.out.cell 2
    replace d0_2 := cell_regrown d0_2
    have d0_3 : wF.cell? ⟨w.heap.size, 3, none⟩ = some (B (l3 a)) := RF0.out.cell 3
    replace d0_3 := cell_regrown d0_3
    have d1_0 : wF.cell? ⟨w.heap.size + 1, 0, none⟩ = some (B (l0 b)) := RF1.out.cell 0
    replace d1_0 := cell_regrown d1_0
    have d1_1 : wF.cell? ⟨w.heap.size + 1, 1, none⟩ = some (B (l1 b)) := RF1.out.cell 1
    replace d1_1 := cell_regrown d1_1
    have d1_2 : wF.cell? ⟨w.heap.size + 1, 2, none⟩ = some (B (l2 b)) := RF1.out.cell 2
    replace d1_2 := cell_regrown d1_2
    have d1_3 : wF.cell? ⟨w.heap.size + 1, 3, none⟩ = some (B (l3 b)) := RF1.out.cell 3
    replace d1_3 := cell_regrown d1_3
    refine wp_region_quiet_below (by kernel_rfl) (by kernel_rfl) ?_
    repeat (go_big_quiet_step (fail))
    go_big_quiet_step ((exact Calls.regrown_of (h1.out _)))
    repeat (go_big_quiet_step (fail))
    go_big_quiet_step ((exact Calls.regrown_of (ha.out _)))
    repeat (go_big_quiet_step (fail))
    refine wpQuiet_nil ?_
    intro w2 hw'
    have hb2 : Below wF.heap.size wF w2 := by obtain ⟨p, rfl⟩ := hw'; exact below_regrown _ _ _
    clear hw'
    clear d0_0 d0_1 d0_2 d0_3
    clear d1_0 d1_1 d1_2 d1_3
    have R0_2 : Hid (HasRow w2 (w.heap.size) #[B (l0 a), B (l1 a), B (l2 a), B (l3 a)]) := RF0.out.below hb2
    have R1_2 : Hid (HasRow w2 (w.heap.size + 1) #[B (l0 b), B (l1 b), B (l2 b), B (l3 b)]) := RF1.out.below hb2
    have R2_2 : Hid (HasRow w2 (g9) #[.bool true, .bool false, .bool false]) := RF2.out.below hb2
    have B2 : Hid (Below w.heap.size w w2) := bel_call BF.out hb2
    clear hb2 BF RF0 RF1 RF2
    clear wF
    have q0_2 := R0_2.out.lt
    have q1_2 := R1_2.out.lt
    have q2_2 := R2_2.out.lt
    go_wp2
    go_ret
    exact ⟨rfl, B2.out⟩
structure COftf (w : World) (N0 : Nat) (a b : Nat) (listed : Array Bool) (vs : Nat → Value) (w' : World) : Prop where
  bw : Below w.heap.size w w'
  ms : N0 ≤ w'.heap.size
  R0 : HasRow w' (w.heap.size) #[B (l0 a), B (l1 a), B (l2 a), B (l3 a)]
  R1 : HasRow w' (w.heap.size + 1) #[B (l0 b), B (l1 b), B (l2 b), B (l3 b)]
  c0 : listed.getD 0 false = true → vs 0 = U a
  c1 : listed.getD 1 false = true → vs 1 = U b
  c2 : listed.getD 2 false = true → vs 2 = .bool false
  c3 : listed.getD 3 false = true → vs 3 = U b
  c4 : listed.getD 4 false = true → vs 4 = U a
  c5 : listed.getD 5 false = true → vs 5 = .bool true
  c6 : listed.getD 6 false = true → vs 6 = U a
  c7 : listed.getD 7 false = true → vs 7 = U b
  c8 : listed.getD 8 false = true → vs 8 = .bool false
  c9 : listed.getD 9 false = true → ∃ g, vs 9 = .slice (some ⟨g, 0, none⟩) 3 3 ∧ N0 ≤ g ∧ HasRow w' g #[.bool false, .bool true, .bool false]
  c10 : listed.getD 10 false = true → vs 10 = .int .i64 3
  c11 : listed.getD 11 false = true → vs 11 = .int .i64 0

set_option maxRecDepth 100000 in
set_option maxHeartbeats 4000000 in
theorem order4_ftf_vv (a b : Nat) (v : Int)
    (h1 : Hid (∀ w, Calls Try.prog 11 #[U a, U b] w fun e w' => e = .returned (.bool false) ∧ Below w.heap.size w w'))
    (h2 : Hid (∀ w, Calls Try.prog 11 #[U b, U a] w fun e w' => e = .returned (.bool true) ∧ Below w.heap.size w w'))
    (hE : ∀ w, (Op.equalIn 10000 24 (U a) (U b)).run Try.prog w = .ok false w)
    (ha : Hid (∀ w, Calls Try.prog 19 #[] w fun e w' => e = .returned (.bool true) ∧ Below w.heap.size w w'))
    (hta : (l3 a : Int) / 9223372036854775808 = v)
    (htb : (l3 b : Int) / 9223372036854775808 = v) (w : World) :
    Calls Try.prog 5 #[U a, U b] w fun e w' => e = .returned (.bool true) ∧ Below w.heap.size w w' := by
  go_enter Try.func5, Try.ntmps5
  go_wp2_with fail
  refine name_world _ ?_
  intro wF hF0
  have RF0 : Hid (HasRow wF (w.heap.size) #[B (l0 a), B (l1 a), B (l2 a), B (l3 a)]) := by rw [hF0]; exact (HasRow.old (HasRow.last (by simp)))
  have RF1 : Hid (HasRow wF (w.heap.size + 1) #[B (l0 b), B (l1 b), B (l2 b), B (l3 b)]) := by rw [hF0]; exact (HasRow.last (by simp))
  have BF : Hid (Below w.heap.size w wF) := by rw [hF0]; exact (bel_alloc (bel_alloc (Below.refl _ _) _) _)
  clear hF0
  obtain ⟨N0, hN0⟩ : ∃ n, n = wF.heap.size := ⟨_, rfl⟩
  have qF0 : w.heap.size < N0 := by rw [hN0]; exact RF0.out.lt
  have qF1 : w.heap.size + 1 < N0 := by rw [hN0]; exact RF1.out.lt
  refine wp_region_vals2 (by kernel_rfl) (by kernel_rfl) (by kernel_rfl) (COftf w N0 a b) ?_ ?_ ?_
  · refine ⟨BF.out.drew, by rw [hN0]; exact Nat.le_refl _, RF0.out, RF1.out, ?_, ?_, ?_, ?_, ?_, ?_, ?_, ?_, ?_, ?_, ?_, ?_⟩ <;> (intro h; simp [Array.getD] at h)
  · intro listed vs a' w' i o' hs ho hi hF cc
    have hin : i < 12 := by have := (Array.getElem?_eq_some_iff.1 ho).1; simpa using this
    have hcase : i = 0 ∨ i = 1 ∨ i = 2 ∨ i = 3 ∨ i = 4 ∨ i = 5 ∨ i = 6 ∨ i = 7 ∨ i = 8 ∨ i = 9 ∨ i = 10 ∨ i = 11 := by omega
    rcases hcase with rfl | rfl | rfl | rfl | rfl | rfl | rfl | rfl | rfl | rfl | rfl | rfl
    · simp at ho
      subst ho
      have T : ∀ j, j ≠ 0 → (listed.setIfInBounds 0 true).getD j false = true → listed.getD j false = true := fun j hj h => (done_set h).resolve_left hj
      have S : ∀ j, listed.getD j false = true → (listed.setIfInBounds 0 true).getD j false = true := fun j h => done_keep h
      exact wp_rowF 24 (.tmp 2) rfl (w.heap.size) ((hF.old (by kernel_rfl)).trans rfl) cc.R0 rfl Try.underlying24 (by kernel_rfl) ⟨_, rfl, ⟨cc.bw, cc.ms, cc.R0, cc.R1, fun _ => rfl, fun h => cc.c1 (T 1 (by decide) h), fun h => cc.c2 (T 2 (by decide) h), fun h => cc.c3 (T 3 (by decide) h), fun h => cc.c4 (T 4 (by decide) h), fun h => cc.c5 (T 5 (by decide) h), fun h => cc.c6 (T 6 (by decide) h), fun h => cc.c7 (T 7 (by decide) h), fun h => cc.c8 (T 8 (by decide) h), fun h => by obtain ⟨g', e', k1, k2⟩ := cc.c9 (T 9 (by decide) h); exact ⟨g', e', k1, k2⟩, fun h => cc.c10 (T 10 (by decide) h), fun h => cc.c11 (T 11 (by decide) h)⟩⟩
    · simp at ho
      subst ho
      have T : ∀ j, j ≠ 1 → (listed.setIfInBounds 1 true).getD j false = true → listed.getD j false = true := fun j hj h => (done_set h).resolve_left hj
      have S : ∀ j, listed.getD j false = true → (listed.setIfInBounds 1 true).getD j false = true := fun j h => done_keep h
      exact wp_rowF 24 (.tmp 3) rfl (w.heap.size + 1) ((hF.old (by kernel_rfl)).trans rfl) cc.R1 rfl Try.underlying24 (by kernel_rfl) ⟨_, rfl, ⟨cc.bw, cc.ms, cc.R0, cc.R1, fun h => cc.c0 (T 0 (by decide) h), fun _ => rfl, fun h => cc.c2 (T 2 (by decide) h), fun h => cc.c3 (T 3 (by decide) h), fun h => cc.c4 (T 4 (by decide) h), fun h => cc.c5 (T 5 (by decide) h), fun h => cc.c6 (T 6 (by decide) h), fun h => cc.c7 (T 7 (by decide) h), fun h => cc.c8 (T 8 (by decide) h), fun h => by obtain ⟨g', e', k1, k2⟩ := cc.c9 (T 9 (by decide) h); exact ⟨g', e', k1, k2⟩, fun h => cc.c10 (T 10 (by decide) h), fun h => cc.c11 (T 11 (by decide) h)⟩⟩
    · simp at ho
      subst ho
      have T : ∀ j, j ≠ 2 → (listed.setIfInBounds 2 true).getD j false = true → listed.getD j false = true := fun j hj h => (done_set h).resolve_left hj
      have S : ∀ j, listed.getD j false = true → (listed.setIfInBounds 2 true).getD j false = true := fun j h => done_keep h
      have hv0 := ((hF.new (t := 8) (i := 0) (by kernel_rfl) (by simp) (waits_done (i := 2) (j := 0) (by kernel_rfl) hi)).trans (cc.c0 (waits_done (i := 2) (j := 0) (by kernel_rfl) hi)))
      have hv1 := ((hF.new (t := 9) (i := 1) (by kernel_rfl) (by simp) (waits_done (i := 2) (j := 1) (by kernel_rfl) hi)).trans (cc.c1 (waits_done (i := 2) (j := 1) (by kernel_rfl) hi)))
      refine wp_callF (f := 11) (args := #[U a, U b]) (v := .bool false) (by simp [execOp_call_go, ev hv0, ev hv1, go_sem]) (h1.out w') ?_
      intro w'' hb''
      exact ⟨_, rfl, ⟨cc.bw.trans (hb''.mono cc.bw.size), Nat.le_trans cc.ms hb''.size, cc.R0.below hb'', cc.R1.below hb'', fun h => cc.c0 (T 0 (by decide) h), fun h => cc.c1 (T 1 (by decide) h), fun _ => rfl, fun h => cc.c3 (T 3 (by decide) h), fun h => cc.c4 (T 4 (by decide) h), fun h => cc.c5 (T 5 (by decide) h), fun h => cc.c6 (T 6 (by decide) h), fun h => cc.c7 (T 7 (by decide) h), fun h => cc.c8 (T 8 (by decide) h), fun h => by obtain ⟨g', e', k1, k2⟩ := cc.c9 (T 9 (by decide) h); exact ⟨g', e', k1, k2.below hb''⟩, fun h => cc.c10 (T 10 (by decide) h), fun h => cc.c11 (T 11 (by decide) h)⟩⟩
    · simp at ho
      subst ho
      have T : ∀ j, j ≠ 3 → (listed.setIfInBounds 3 true).getD j false = true → listed.getD j false = true := fun j hj h => (done_set h).resolve_left hj
      have S : ∀ j, listed.getD j false = true → (listed.setIfInBounds 3 true).getD j false = true := fun j h => done_keep h
      exact wp_rowF 24 (.tmp 3) rfl (w.heap.size + 1) ((hF.old (by kernel_rfl)).trans rfl) cc.R1 rfl Try.underlying24 (by kernel_rfl) ⟨_, rfl, ⟨cc.bw, cc.ms, cc.R0, cc.R1, fun h => cc.c0 (T 0 (by decide) h), fun h => cc.c1 (T 1 (by decide) h), fun h => cc.c2 (T 2 (by decide) h), fun _ => rfl, fun h => cc.c4 (T 4 (by decide) h), fun h => cc.c5 (T 5 (by decide) h), fun h => cc.c6 (T 6 (by decide) h), fun h => cc.c7 (T 7 (by decide) h), fun h => cc.c8 (T 8 (by decide) h), fun h => by obtain ⟨g', e', k1, k2⟩ := cc.c9 (T 9 (by decide) h); exact ⟨g', e', k1, k2⟩, fun h => cc.c10 (T 10 (by decide) h), fun h => cc.c11 (T 11 (by decide) h)⟩⟩
    · simp at ho
      subst ho
      have T : ∀ j, j ≠ 4 → (listed.setIfInBounds 4 true).getD j false = true → listed.getD j false = true := fun j hj h => (done_set h).resolve_left hj
      have S : ∀ j, listed.getD j false = true → (listed.setIfInBounds 4 true).getD j false = true := fun j h => done_keep h
      exact wp_rowF 24 (.tmp 2) rfl (w.heap.size) ((hF.old (by kernel_rfl)).trans rfl) cc.R0 rfl Try.underlying24 (by kernel_rfl) ⟨_, rfl, ⟨cc.bw, cc.ms, cc.R0, cc.R1, fun h => cc.c0 (T 0 (by decide) h), fun h => cc.c1 (T 1 (by decide) h), fun h => cc.c2 (T 2 (by decide) h), fun h => cc.c3 (T 3 (by decide) h), fun _ => rfl, fun h => cc.c5 (T 5 (by decide) h), fun h => cc.c6 (T 6 (by decide) h), fun h => cc.c7 (T 7 (by decide) h), fun h => cc.c8 (T 8 (by decide) h), fun h => by obtain ⟨g', e', k1, k2⟩ := cc.c9 (T 9 (by decide) h); exact ⟨g', e', k1, k2⟩, fun h => cc.c10 (T 10 (by decide) h), fun h => cc.c11 (T 11 (by decide) h)⟩⟩
    · simp at ho
      subst ho
      have T : ∀ j, j ≠ 5 → (listed.setIfInBounds 5 true).getD j false = true → listed.getD j false = true := fun j hj h => (done_set h).resolve_left hj
      have S : ∀ j, listed.getD j false = true → (listed.setIfInBounds 5 true).getD j false = true := fun j h => done_keep h
      have hv0 := ((hF.new (t := 11) (i := 3) (by kernel_rfl) (by simp) (waits_done (i := 5) (j := 3) (by kernel_rfl) hi)).trans (cc.c3 (waits_done (i := 5) (j := 3) (by kernel_rfl) hi)))
      have hv1 := ((hF.new (t := 12) (i := 4) (by kernel_rfl) (by simp) (waits_done (i := 5) (j := 4) (by kernel_rfl) hi)).trans (cc.c4 (waits_done (i := 5) (j := 4) (by kernel_rfl) hi)))
      refine wp_callF (f := 11) (args := #[U b, U a]) (v := .bool true) (by simp [execOp_call_go, ev hv0, ev hv1, go_sem]) (h2.out w') ?_
      intro w'' hb''
      exact ⟨_, rfl, ⟨cc.bw.trans (hb''.mono cc.bw.size), Nat.le_trans cc.ms hb''.size, cc.R0.below hb'', cc.R1.below hb'', fun h => cc.c0 (T 0 (by decide) h), fun h => cc.c1 (T 1 (by decide) h), fun h => cc.c2 (T 2 (by decide) h), fun h => cc.c3 (T 3 (by decide) h), fun h => cc.c4 (T 4 (by decide) h), fun _ => rfl, fun h => cc.c6 (T 6 (by decide) h), fun h => cc.c7 (T 7 (by decide) h), fun h => cc.c8 (T 8 (by decide) h), fun h => by obtain ⟨g', e', k1, k2⟩ := cc.c9 (T 9 (by decide) h); exact ⟨g', e', k1, k2.below hb''⟩, fun h => cc.c10 (T 10 (by decide) h), fun h => cc.c11 (T 11 (by decide) h)⟩⟩
    · simp at ho
      subst ho
      have T : ∀ j, j ≠ 6 → (listed.setIfInBounds 6 true).getD j false = true → listed.getD j false = true := fun j hj h => (done_set h).resolve_left hj
      have S : ∀ j, listed.getD j false = true → (listed.setIfInBounds 6 true).getD j false = true := fun j h => done_keep h
      exact wp_rowF 24 (.tmp 2) rfl (w.heap.size) ((hF.old (by kernel_rfl)).trans rfl) cc.R0 rfl Try.underlying24 (by kernel_rfl) ⟨_, rfl, ⟨cc.bw, cc.ms, cc.R0, cc.R1, fun h => cc.c0 (T 0 (by decide) h), fun h => cc.c1 (T 1 (by decide) h), fun h => cc.c2 (T 2 (by decide) h), fun h => cc.c3 (T 3 (by decide) h), fun h => cc.c4 (T 4 (by decide) h), fun h => cc.c5 (T 5 (by decide) h), fun _ => rfl, fun h => cc.c7 (T 7 (by decide) h), fun h => cc.c8 (T 8 (by decide) h), fun h => by obtain ⟨g', e', k1, k2⟩ := cc.c9 (T 9 (by decide) h); exact ⟨g', e', k1, k2⟩, fun h => cc.c10 (T 10 (by decide) h), fun h => cc.c11 (T 11 (by decide) h)⟩⟩
    · simp at ho
      subst ho
      have T : ∀ j, j ≠ 7 → (listed.setIfInBounds 7 true).getD j false = true → listed.getD j false = true := fun j hj h => (done_set h).resolve_left hj
      have S : ∀ j, listed.getD j false = true → (listed.setIfInBounds 7 true).getD j false = true := fun j h => done_keep h
      exact wp_rowF 24 (.tmp 3) rfl (w.heap.size + 1) ((hF.old (by kernel_rfl)).trans rfl) cc.R1 rfl Try.underlying24 (by kernel_rfl) ⟨_, rfl, ⟨cc.bw, cc.ms, cc.R0, cc.R1, fun h => cc.c0 (T 0 (by decide) h), fun h => cc.c1 (T 1 (by decide) h), fun h => cc.c2 (T 2 (by decide) h), fun h => cc.c3 (T 3 (by decide) h), fun h => cc.c4 (T 4 (by decide) h), fun h => cc.c5 (T 5 (by decide) h), fun h => cc.c6 (T 6 (by decide) h), fun _ => rfl, fun h => cc.c8 (T 8 (by decide) h), fun h => by obtain ⟨g', e', k1, k2⟩ := cc.c9 (T 9 (by decide) h); exact ⟨g', e', k1, k2⟩, fun h => cc.c10 (T 10 (by decide) h), fun h => cc.c11 (T 11 (by decide) h)⟩⟩
    · simp at ho
      subst ho
      have T : ∀ j, j ≠ 8 → (listed.setIfInBounds 8 true).getD j false = true → listed.getD j false = true := fun j hj h => (done_set h).resolve_left hj
      have S : ∀ j, listed.getD j false = true → (listed.setIfInBounds 8 true).getD j false = true := fun j h => done_keep h
      have hv0 := ((hF.new (t := 14) (i := 6) (by kernel_rfl) (by simp) (waits_done (i := 8) (j := 6) (by kernel_rfl) hi)).trans (cc.c6 (waits_done (i := 8) (j := 6) (by kernel_rfl) hi)))
      have hv1 := ((hF.new (t := 15) (i := 7) (by kernel_rfl) (by simp) (waits_done (i := 8) (j := 7) (by kernel_rfl) hi)).trans (cc.c7 (waits_done (i := 8) (j := 7) (by kernel_rfl) hi)))
      exact wp_valF (v := .bool false) (w1 := w') (by simp [execOp, go_sem, ev hv0, ev hv1, hE]) ⟨_, rfl, ⟨cc.bw, cc.ms, cc.R0, cc.R1, fun h => cc.c0 (T 0 (by decide) h), fun h => cc.c1 (T 1 (by decide) h), fun h => cc.c2 (T 2 (by decide) h), fun h => cc.c3 (T 3 (by decide) h), fun h => cc.c4 (T 4 (by decide) h), fun h => cc.c5 (T 5 (by decide) h), fun h => cc.c6 (T 6 (by decide) h), fun h => cc.c7 (T 7 (by decide) h), fun _ => rfl, fun h => by obtain ⟨g', e', k1, k2⟩ := cc.c9 (T 9 (by decide) h); exact ⟨g', e', k1, k2⟩, fun h => cc.c10 (T 10 (by decide) h), fun h => cc.c11 (T 11 (by decide) h)⟩⟩
    · simp at ho
      subst ho
      have T : ∀ j, j ≠ 9 → (listed.setIfInBounds 9 true).getD j false = true → listed.getD j false = true := fun j hj h => (done_set h).resolve_left hj
      have S : ∀ j, listed.getD j false = true → (listed.setIfInBounds 9 true).getD j false = true := fun j h => done_keep h
      have hv0 := ((hF.new (t := 10) (i := 2) (by kernel_rfl) (by simp) (waits_done (i := 9) (j := 2) (by kernel_rfl) hi)).trans (cc.c2 (waits_done (i := 9) (j := 2) (by kernel_rfl) hi)))
      have hv1 := ((hF.new (t := 13) (i := 5) (by kernel_rfl) (by simp) (waits_done (i := 9) (j := 5) (by kernel_rfl) hi)).trans (cc.c5 (waits_done (i := 9) (j := 5) (by kernel_rfl) hi)))
      have hv2 := ((hF.new (t := 16) (i := 8) (by kernel_rfl) (by simp) (waits_done (i := 9) (j := 8) (by kernel_rfl) hi)).trans (cc.c8 (waits_done (i := 9) (j := 8) (by kernel_rfl) hi)))
      exact wp_valF (v := .slice (some ⟨w'.heap.size, 0, none⟩) 3 3) (w1 := w'.alloc (.cells #[.bool false, .bool true, .bool false] 4)) (by simp [execOp, go_sem, ev hv0, ev hv1, ev hv2]) ⟨_, rfl, ⟨bel_alloc cc.bw _, by have := cc.ms; simp; omega, cc.R0.old, cc.R1.old, fun h => cc.c0 (T 0 (by decide) h), fun h => cc.c1 (T 1 (by decide) h), fun h => cc.c2 (T 2 (by decide) h), fun h => cc.c3 (T 3 (by decide) h), fun h => cc.c4 (T 4 (by decide) h), fun h => cc.c5 (T 5 (by decide) h), fun h => cc.c6 (T 6 (by decide) h), fun h => cc.c7 (T 7 (by decide) h), fun h => cc.c8 (T 8 (by decide) h), fun _ => ⟨w'.heap.size, rfl, cc.ms, HasRow.last rfl⟩, fun h => cc.c10 (T 10 (by decide) h), fun h => cc.c11 (T 11 (by decide) h)⟩⟩
    · simp at ho
      subst ho
      have T : ∀ j, j ≠ 10 → (listed.setIfInBounds 10 true).getD j false = true → listed.getD j false = true := fun j hj h => (done_set h).resolve_left hj
      have S : ∀ j, listed.getD j false = true → (listed.setIfInBounds 10 true).getD j false = true := fun j h => done_keep h
      obtain ⟨g, e, h1, h2⟩ := cc.c9 (waits_done (i := 10) (j := 9) (by kernel_rfl) hi)
      have hv := (hF.new (t := 17) (i := 9) (by kernel_rfl) (by simp) (waits_done (i := 10) (j := 9) (by kernel_rfl) hi)).trans e
      exact wp_valF (v := .int .i64 3) (w1 := w') (by simp [go_sem, ev hv]) ⟨_, rfl, ⟨cc.bw, cc.ms, cc.R0, cc.R1, fun h => cc.c0 (T 0 (by decide) h), fun h => cc.c1 (T 1 (by decide) h), fun h => cc.c2 (T 2 (by decide) h), fun h => cc.c3 (T 3 (by decide) h), fun h => cc.c4 (T 4 (by decide) h), fun h => cc.c5 (T 5 (by decide) h), fun h => cc.c6 (T 6 (by decide) h), fun h => cc.c7 (T 7 (by decide) h), fun h => cc.c8 (T 8 (by decide) h), fun h => by obtain ⟨g', e', k1, k2⟩ := cc.c9 (T 9 (by decide) h); exact ⟨g', e', k1, k2⟩, fun _ => rfl, fun h => cc.c11 (T 11 (by decide) h)⟩⟩
    · simp at ho
      subst ho
      have T : ∀ j, j ≠ 11 → (listed.setIfInBounds 11 true).getD j false = true → listed.getD j false = true := fun j hj h => (done_set h).resolve_left hj
      have S : ∀ j, listed.getD j false = true → (listed.setIfInBounds 11 true).getD j false = true := fun j h => done_keep h
      exact wp_valF (v := .int .i64 0) (w1 := w') (by simp [execOp, go_sem]) ⟨_, rfl, ⟨cc.bw, cc.ms, cc.R0, cc.R1, fun h => cc.c0 (T 0 (by decide) h), fun h => cc.c1 (T 1 (by decide) h), fun h => cc.c2 (T 2 (by decide) h), fun h => cc.c3 (T 3 (by decide) h), fun h => cc.c4 (T 4 (by decide) h), fun h => cc.c5 (T 5 (by decide) h), fun h => cc.c6 (T 6 (by decide) h), fun h => cc.c7 (T 7 (by decide) h), fun h => cc.c8 (T 8 (by decide) h), fun h => by obtain ⟨g', e', k1, k2⟩ := cc.c9 (T 9 (by decide) h); exact ⟨g', e', k1, k2⟩, fun h => cc.c10 (T 10 (by decide) h), fun _ => rfl⟩⟩
  · intro listed vs a' w1 hd hF cc
    have e : a' = ({ tmps := #[U a, U b, .pointer (some ⟨w.heap.size, 0, none⟩), .pointer (some ⟨w.heap.size + 1, 0, none⟩), .bool false, .int .i64 0, undef, undef, vs 0, vs 1, vs 2, vs 3, vs 4, vs 5, vs 6, vs 7, vs 8, vs 9, vs 10, vs 11, undef, undef, undef, undef, undef, undef, undef, undef, undef, undef, undef, undef, undef, undef, undef, undef, undef, undef, undef, undef, undef, undef, undef, undef, undef, undef, undef, undef, undef, undef, undef], defers := [] } : Act) := (hF.all hd).trans (by kernel_rfl)
    subst e
    obtain ⟨g9, e9, h19, h2⟩ := cc.c9 (hd 9 (by simp))
    have RX9 : Hid (HasRow w1 g9 #[.bool false, .bool true, .bool false]) := h2
    clear h2
    rw [cc.c10 (hd 10 (by simp))]
    rw [cc.c11 (hd 11 (by simp))]
    have R0_1 : Hid (HasRow w1 (w.heap.size) #[B (l0 a), B (l1 a), B (l2 a), B (l3 a)]) := cc.R0
    have R1_1 : Hid (HasRow w1 (w.heap.size + 1) #[B (l0 b), B (l1 b), B (l2 b), B (l3 b)]) := cc.R1
    have B1 : Hid (Below w.heap.size w w1) := cc.bw
    rw [e9]
    clear cc hd hF BF e9 RF0 RF1
    have R2_1 : Hid (HasRow w1 g9 #[.bool false, .bool true, .bool false]) := RX9
    clear RX9
    have q0_1 := R0_1.out.lt
    have q1_1 := R1_1.out.lt
    have q2_1 := R2_1.out.lt
    have c0_0_1 : w1.cell? ⟨w.heap.size, 0, none⟩ = some (B (l0 a)) := R0_1.out.cell 0
    have c0_1_1 : w1.cell? ⟨w.heap.size, 1, none⟩ = some (B (l1 a)) := R0_1.out.cell 1
    have c0_2_1 : w1.cell? ⟨w.heap.size, 2, none⟩ = some (B (l2 a)) := R0_1.out.cell 2
    have c0_3_1 : w1.cell? ⟨w.heap.size, 3, none⟩ = some (B (l3 a)) := R0_1.out.cell 3
    have c1_0_1 : w1.cell? ⟨w.heap.size + 1, 0, none⟩ = some (B (l0 b)) := R1_1.out.cell 0
    have c1_1_1 : w1.cell? ⟨w.heap.size + 1, 1, none⟩ = some (B (l1 b)) := R1_1.out.cell 1
    have c1_2_1 : w1.cell? ⟨w.heap.size + 1, 2, none⟩ = some (B (l2 b)) := R1_1.out.cell 2
    have c1_3_1 : w1.cell? ⟨w.heap.size + 1, 3, none⟩ = some (B (l3 b)) := R1_1.out.cell 3
    have c2_0_1 : w1.cell? ⟨g9, 0, none⟩ = some (.bool false) := R2_1.out.cell 0
    have c2_1_1 : w1.cell? ⟨g9, 1, none⟩ = some (.bool true) := R2_1.out.cell 1
    have c2_2_1 : w1.cell? ⟨g9, 2, none⟩ = some (.bool false) := R2_1.out.cell 2
    go_wp2
    refine wp_loop_rounds 4 ?_
    rw [rounds_succ]; go_wp2_with fail
    rw [rounds_succ]; go_wp2_with fail
    rw [rounds_succ]; go_wp2_with fail
    rw [rounds_succ]; go_wp2_with fail
    go_wp2_with fail
    refine name_world _ ?_
    intro wF hF
    have RF0 : Hid (HasRow wF (w.heap.size) #[B (l0 a), B (l1 a), B (l2 a), B (l3 a)]) := by rw [hF]; exact R0_1.out
    have RF1 : Hid (HasRow wF (w.heap.size + 1) #[B (l0 b), B (l1 b), B (l2 b), B (l3 b)]) := by rw [hF]; exact R1_1.out
    have RF2 : Hid (HasRow wF (g9) #[.bool false, .bool true, .bool false]) := by rw [hF]; exact R2_1.out
    have BF : Hid (Below w.heap.size w wF) := by rw [hF]; exact B1.out
    clear hF
    clear q0_1 q1_1 q2_1 c0_0_1 c0_1_1 c0_2_1 c0_3_1 c1_0_1 c1_1_1 c1_2_1 c1_3_1 c2_0_1 c2_1_1 c2_2_1
    clear B1 R0_1 R1_1 R2_1
    have d0_0 : wF.cell? ⟨w.heap.size, 0, none⟩ = some (B (l0 a)) := RF0.out.cell 0
    replace d0_0 := cell_regrown d0_0
    have d0_1 : wF.cell? ⟨w.heap.size, 1, none⟩ = some (B (l1 a)) := RF0.out.cell 1
    replace d0_1 := cell_regrown d0_1
    have d0_2 : wF.cell? ⟨w.heap.size, 2, none⟩ = some (B (l2 a)) := RF0.out.cell 2
    replace d0_2 := cell_regrown d0_2
    have d0_3 : wF.cell? ⟨w.heap.size, 3, none⟩ = some (B (l3 a)) := RF0.out.cell 3
    replace d0_3 := cell_regrown d0_3
    have d1_0 : wF.cell? ⟨w.heap.size + 1, 0, none⟩ = some (B (l0 b)) := RF1.out.cell 0
    replace d1_0 := cell_regrown d1_0
    have d1_1 : wF.cell? ⟨w.heap.size + 1, 1, none⟩ = some (B (l1 b)) := RF1.out.cell 1
    replace d1_1 := cell_regrown d1_1
    have d1_2 : wF.cell? ⟨w.heap.size + 1, 2, none⟩ = some (B (l2 b)) := RF1.out.cell 2
    replace d1_2 := cell_regrown d1_2
    have d1_3 : wF.cell? ⟨w.heap.size + 1, 3, none⟩ = some (B (l3 b)) := RF1.out.cell 3
    replace d1_3 := cell_regrown d1_3
    refine wp_region_quiet_below (by kernel_rfl) (by kernel_rfl) ?_
    repeat (go_big_quiet_step (fail))
    go_big_quiet_step ((exact Calls.regrown_of (ha.out _)))
    repeat (go_big_quiet_step (fail))
    refine wpQuiet_nil ?_
    intro w2 hw'
    have hb2 : Below wF.heap.size wF w2 := by obtain ⟨p, rfl⟩ := hw'; exact below_regrown _ _ _
    clear hw'
    clear d0_0 d0_1 d0_2 d0_3
    clear d1_0 d1_1 d1_2 d1_3
    have R0_2 : Hid (HasRow w2 (w.heap.size) #[B (l0 a), B (l1 a), B (l2 a), B (l3 a)]) := RF0.out.below hb2
    have R1_2 : Hid (HasRow w2 (w.heap.size + 1) #[B (l0 b), B (l1 b), B (l2 b), B (l3 b)]) := RF1.out.below hb2
    have R2_2 : Hid (HasRow w2 (g9) #[.bool false, .bool true, .bool false]) := RF2.out.below hb2
    have B2 : Hid (Below w.heap.size w w2) := bel_call BF.out hb2
    clear hb2 BF RF0 RF1 RF2
    clear wF
    have q0_2 := R0_2.out.lt
    have q1_2 := R1_2.out.lt
    have q2_2 := R2_2.out.lt
    go_wp2
    go_ret
    exact ⟨rfl, B2.out⟩

set_option maxRecDepth 100000 in
set_option maxHeartbeats 4000000 in
theorem order4_ftf_01 (a b : Nat)
    (h1 : Hid (∀ w, Calls Try.prog 11 #[U a, U b] w fun e w' => e = .returned (.bool false) ∧ Below w.heap.size w w'))
    (h2 : Hid (∀ w, Calls Try.prog 11 #[U b, U a] w fun e w' => e = .returned (.bool true) ∧ Below w.heap.size w w'))
    (hE : ∀ w, (Op.equalIn 10000 24 (U a) (U b)).run Try.prog w = .ok false w)
    (ha : Hid (∀ w, Calls Try.prog 19 #[] w fun e w' => e = .returned (.bool true) ∧ Below w.heap.size w w'))
    (hta : (l3 a : Int) / 9223372036854775808 = 0)
    (htb : (l3 b : Int) / 9223372036854775808 = 1) (w : World) :
    Calls Try.prog 5 #[U a, U b] w fun e w' => e = .returned (.bool true) ∧ Below w.heap.size w w' := by
  go_enter Try.func5, Try.ntmps5
  go_wp2_with fail
  refine name_world _ ?_
  intro wF hF0
  have RF0 : Hid (HasRow wF (w.heap.size) #[B (l0 a), B (l1 a), B (l2 a), B (l3 a)]) := by rw [hF0]; exact (HasRow.old (HasRow.last (by simp)))
  have RF1 : Hid (HasRow wF (w.heap.size + 1) #[B (l0 b), B (l1 b), B (l2 b), B (l3 b)]) := by rw [hF0]; exact (HasRow.last (by simp))
  have BF : Hid (Below w.heap.size w wF) := by rw [hF0]; exact (bel_alloc (bel_alloc (Below.refl _ _) _) _)
  clear hF0
  obtain ⟨N0, hN0⟩ : ∃ n, n = wF.heap.size := ⟨_, rfl⟩
  have qF0 : w.heap.size < N0 := by rw [hN0]; exact RF0.out.lt
  have qF1 : w.heap.size + 1 < N0 := by rw [hN0]; exact RF1.out.lt
  refine wp_region_vals2 (by kernel_rfl) (by kernel_rfl) (by kernel_rfl) (COftf w N0 a b) ?_ ?_ ?_
  · refine ⟨BF.out.drew, by rw [hN0]; exact Nat.le_refl _, RF0.out, RF1.out, ?_, ?_, ?_, ?_, ?_, ?_, ?_, ?_, ?_, ?_, ?_, ?_⟩ <;> (intro h; simp [Array.getD] at h)
  · intro listed vs a' w' i o' hs ho hi hF cc
    have hin : i < 12 := by have := (Array.getElem?_eq_some_iff.1 ho).1; simpa using this
    have hcase : i = 0 ∨ i = 1 ∨ i = 2 ∨ i = 3 ∨ i = 4 ∨ i = 5 ∨ i = 6 ∨ i = 7 ∨ i = 8 ∨ i = 9 ∨ i = 10 ∨ i = 11 := by omega
    rcases hcase with rfl | rfl | rfl | rfl | rfl | rfl | rfl | rfl | rfl | rfl | rfl | rfl
    · simp at ho
      subst ho
      have T : ∀ j, j ≠ 0 → (listed.setIfInBounds 0 true).getD j false = true → listed.getD j false = true := fun j hj h => (done_set h).resolve_left hj
      have S : ∀ j, listed.getD j false = true → (listed.setIfInBounds 0 true).getD j false = true := fun j h => done_keep h
      exact wp_rowF 24 (.tmp 2) rfl (w.heap.size) ((hF.old (by kernel_rfl)).trans rfl) cc.R0 rfl Try.underlying24 (by kernel_rfl) ⟨_, rfl, ⟨cc.bw, cc.ms, cc.R0, cc.R1, fun _ => rfl, fun h => cc.c1 (T 1 (by decide) h), fun h => cc.c2 (T 2 (by decide) h), fun h => cc.c3 (T 3 (by decide) h), fun h => cc.c4 (T 4 (by decide) h), fun h => cc.c5 (T 5 (by decide) h), fun h => cc.c6 (T 6 (by decide) h), fun h => cc.c7 (T 7 (by decide) h), fun h => cc.c8 (T 8 (by decide) h), fun h => by obtain ⟨g', e', k1, k2⟩ := cc.c9 (T 9 (by decide) h); exact ⟨g', e', k1, k2⟩, fun h => cc.c10 (T 10 (by decide) h), fun h => cc.c11 (T 11 (by decide) h)⟩⟩
    · simp at ho
      subst ho
      have T : ∀ j, j ≠ 1 → (listed.setIfInBounds 1 true).getD j false = true → listed.getD j false = true := fun j hj h => (done_set h).resolve_left hj
      have S : ∀ j, listed.getD j false = true → (listed.setIfInBounds 1 true).getD j false = true := fun j h => done_keep h
      exact wp_rowF 24 (.tmp 3) rfl (w.heap.size + 1) ((hF.old (by kernel_rfl)).trans rfl) cc.R1 rfl Try.underlying24 (by kernel_rfl) ⟨_, rfl, ⟨cc.bw, cc.ms, cc.R0, cc.R1, fun h => cc.c0 (T 0 (by decide) h), fun _ => rfl, fun h => cc.c2 (T 2 (by decide) h), fun h => cc.c3 (T 3 (by decide) h), fun h => cc.c4 (T 4 (by decide) h), fun h => cc.c5 (T 5 (by decide) h), fun h => cc.c6 (T 6 (by decide) h), fun h => cc.c7 (T 7 (by decide) h), fun h => cc.c8 (T 8 (by decide) h), fun h => by obtain ⟨g', e', k1, k2⟩ := cc.c9 (T 9 (by decide) h); exact ⟨g', e', k1, k2⟩, fun h => cc.c10 (T 10 (by decide) h), fun h => cc.c11 (T 11 (by decide) h)⟩⟩
    · simp at ho
      subst ho
      have T : ∀ j, j ≠ 2 → (listed.setIfInBounds 2 true).getD j false = true → listed.getD j false = true := fun j hj h => (done_set h).resolve_left hj
      have S : ∀ j, listed.getD j false = true → (listed.setIfInBounds 2 true).getD j false = true := fun j h => done_keep h
      have hv0 := ((hF.new (t := 8) (i := 0) (by kernel_rfl) (by simp) (waits_done (i := 2) (j := 0) (by kernel_rfl) hi)).trans (cc.c0 (waits_done (i := 2) (j := 0) (by kernel_rfl) hi)))
      have hv1 := ((hF.new (t := 9) (i := 1) (by kernel_rfl) (by simp) (waits_done (i := 2) (j := 1) (by kernel_rfl) hi)).trans (cc.c1 (waits_done (i := 2) (j := 1) (by kernel_rfl) hi)))
      refine wp_callF (f := 11) (args := #[U a, U b]) (v := .bool false) (by simp [execOp_call_go, ev hv0, ev hv1, go_sem]) (h1.out w') ?_
      intro w'' hb''
      exact ⟨_, rfl, ⟨cc.bw.trans (hb''.mono cc.bw.size), Nat.le_trans cc.ms hb''.size, cc.R0.below hb'', cc.R1.below hb'', fun h => cc.c0 (T 0 (by decide) h), fun h => cc.c1 (T 1 (by decide) h), fun _ => rfl, fun h => cc.c3 (T 3 (by decide) h), fun h => cc.c4 (T 4 (by decide) h), fun h => cc.c5 (T 5 (by decide) h), fun h => cc.c6 (T 6 (by decide) h), fun h => cc.c7 (T 7 (by decide) h), fun h => cc.c8 (T 8 (by decide) h), fun h => by obtain ⟨g', e', k1, k2⟩ := cc.c9 (T 9 (by decide) h); exact ⟨g', e', k1, k2.below hb''⟩, fun h => cc.c10 (T 10 (by decide) h), fun h => cc.c11 (T 11 (by decide) h)⟩⟩
    · simp at ho
      subst ho
      have T : ∀ j, j ≠ 3 → (listed.setIfInBounds 3 true).getD j false = true → listed.getD j false = true := fun j hj h => (done_set h).resolve_left hj
      have S : ∀ j, listed.getD j false = true → (listed.setIfInBounds 3 true).getD j false = true := fun j h => done_keep h
      exact wp_rowF 24 (.tmp 3) rfl (w.heap.size + 1) ((hF.old (by kernel_rfl)).trans rfl) cc.R1 rfl Try.underlying24 (by kernel_rfl) ⟨_, rfl, ⟨cc.bw, cc.ms, cc.R0, cc.R1, fun h => cc.c0 (T 0 (by decide) h), fun h => cc.c1 (T 1 (by decide) h), fun h => cc.c2 (T 2 (by decide) h), fun _ => rfl, fun h => cc.c4 (T 4 (by decide) h), fun h => cc.c5 (T 5 (by decide) h), fun h => cc.c6 (T 6 (by decide) h), fun h => cc.c7 (T 7 (by decide) h), fun h => cc.c8 (T 8 (by decide) h), fun h => by obtain ⟨g', e', k1, k2⟩ := cc.c9 (T 9 (by decide) h); exact ⟨g', e', k1, k2⟩, fun h => cc.c10 (T 10 (by decide) h), fun h => cc.c11 (T 11 (by decide) h)⟩⟩
    · simp at ho
      subst ho
      have T : ∀ j, j ≠ 4 → (listed.setIfInBounds 4 true).getD j false = true → listed.getD j false = true := fun j hj h => (done_set h).resolve_left hj
      have S : ∀ j, listed.getD j false = true → (listed.setIfInBounds 4 true).getD j false = true := fun j h => done_keep h
      exact wp_rowF 24 (.tmp 2) rfl (w.heap.size) ((hF.old (by kernel_rfl)).trans rfl) cc.R0 rfl Try.underlying24 (by kernel_rfl) ⟨_, rfl, ⟨cc.bw, cc.ms, cc.R0, cc.R1, fun h => cc.c0 (T 0 (by decide) h), fun h => cc.c1 (T 1 (by decide) h), fun h => cc.c2 (T 2 (by decide) h), fun h => cc.c3 (T 3 (by decide) h), fun _ => rfl, fun h => cc.c5 (T 5 (by decide) h), fun h => cc.c6 (T 6 (by decide) h), fun h => cc.c7 (T 7 (by decide) h), fun h => cc.c8 (T 8 (by decide) h), fun h => by obtain ⟨g', e', k1, k2⟩ := cc.c9 (T 9 (by decide) h); exact ⟨g', e', k1, k2⟩, fun h => cc.c10 (T 10 (by decide) h), fun h => cc.c11 (T 11 (by decide) h)⟩⟩
    · simp at ho
      subst ho
      have T : ∀ j, j ≠ 5 → (listed.setIfInBounds 5 true).getD j false = true → listed.getD j false = true := fun j hj h => (done_set h).resolve_left hj
      have S : ∀ j, listed.getD j false = true → (listed.setIfInBounds 5 true).getD j false = true := fun j h => done_keep h
      have hv0 := ((hF.new (t := 11) (i := 3) (by kernel_rfl) (by simp) (waits_done (i := 5) (j := 3) (by kernel_rfl) hi)).trans (cc.c3 (waits_done (i := 5) (j := 3) (by kernel_rfl) hi)))
      have hv1 := ((hF.new (t := 12) (i := 4) (by kernel_rfl) (by simp) (waits_done (i := 5) (j := 4) (by kernel_rfl) hi)).trans (cc.c4 (waits_done (i := 5) (j := 4) (by kernel_rfl) hi)))
      refine wp_callF (f := 11) (args := #[U b, U a]) (v := .bool true) (by simp [execOp_call_go, ev hv0, ev hv1, go_sem]) (h2.out w') ?_
      intro w'' hb''
      exact ⟨_, rfl, ⟨cc.bw.trans (hb''.mono cc.bw.size), Nat.le_trans cc.ms hb''.size, cc.R0.below hb'', cc.R1.below hb'', fun h => cc.c0 (T 0 (by decide) h), fun h => cc.c1 (T 1 (by decide) h), fun h => cc.c2 (T 2 (by decide) h), fun h => cc.c3 (T 3 (by decide) h), fun h => cc.c4 (T 4 (by decide) h), fun _ => rfl, fun h => cc.c6 (T 6 (by decide) h), fun h => cc.c7 (T 7 (by decide) h), fun h => cc.c8 (T 8 (by decide) h), fun h => by obtain ⟨g', e', k1, k2⟩ := cc.c9 (T 9 (by decide) h); exact ⟨g', e', k1, k2.below hb''⟩, fun h => cc.c10 (T 10 (by decide) h), fun h => cc.c11 (T 11 (by decide) h)⟩⟩
    · simp at ho
      subst ho
      have T : ∀ j, j ≠ 6 → (listed.setIfInBounds 6 true).getD j false = true → listed.getD j false = true := fun j hj h => (done_set h).resolve_left hj
      have S : ∀ j, listed.getD j false = true → (listed.setIfInBounds 6 true).getD j false = true := fun j h => done_keep h
      exact wp_rowF 24 (.tmp 2) rfl (w.heap.size) ((hF.old (by kernel_rfl)).trans rfl) cc.R0 rfl Try.underlying24 (by kernel_rfl) ⟨_, rfl, ⟨cc.bw, cc.ms, cc.R0, cc.R1, fun h => cc.c0 (T 0 (by decide) h), fun h => cc.c1 (T 1 (by decide) h), fun h => cc.c2 (T 2 (by decide) h), fun h => cc.c3 (T 3 (by decide) h), fun h => cc.c4 (T 4 (by decide) h), fun h => cc.c5 (T 5 (by decide) h), fun _ => rfl, fun h => cc.c7 (T 7 (by decide) h), fun h => cc.c8 (T 8 (by decide) h), fun h => by obtain ⟨g', e', k1, k2⟩ := cc.c9 (T 9 (by decide) h); exact ⟨g', e', k1, k2⟩, fun h => cc.c10 (T 10 (by decide) h), fun h => cc.c11 (T 11 (by decide) h)⟩⟩
    · simp at ho
      subst ho
      have T : ∀ j, j ≠ 7 → (listed.setIfInBounds 7 true).getD j false = true → listed.getD j false = true := fun j hj h => (done_set h).resolve_left hj
      have S : ∀ j, listed.getD j false = true → (listed.setIfInBounds 7 true).getD j false = true := fun j h => done_keep h
      exact wp_rowF 24 (.tmp 3) rfl (w.heap.size + 1) ((hF.old (by kernel_rfl)).trans rfl) cc.R1 rfl Try.underlying24 (by kernel_rfl) ⟨_, rfl, ⟨cc.bw, cc.ms, cc.R0, cc.R1, fun h => cc.c0 (T 0 (by decide) h), fun h => cc.c1 (T 1 (by decide) h), fun h => cc.c2 (T 2 (by decide) h), fun h => cc.c3 (T 3 (by decide) h), fun h => cc.c4 (T 4 (by decide) h), fun h => cc.c5 (T 5 (by decide) h), fun h => cc.c6 (T 6 (by decide) h), fun _ => rfl, fun h => cc.c8 (T 8 (by decide) h), fun h => by obtain ⟨g', e', k1, k2⟩ := cc.c9 (T 9 (by decide) h); exact ⟨g', e', k1, k2⟩, fun h => cc.c10 (T 10 (by decide) h), fun h => cc.c11 (T 11 (by decide) h)⟩⟩
    · simp at ho
      subst ho
      have T : ∀ j, j ≠ 8 → (listed.setIfInBounds 8 true).getD j false = true → listed.getD j false = true := fun j hj h => (done_set h).resolve_left hj
      have S : ∀ j, listed.getD j false = true → (listed.setIfInBounds 8 true).getD j false = true := fun j h => done_keep h
      have hv0 := ((hF.new (t := 14) (i := 6) (by kernel_rfl) (by simp) (waits_done (i := 8) (j := 6) (by kernel_rfl) hi)).trans (cc.c6 (waits_done (i := 8) (j := 6) (by kernel_rfl) hi)))
      have hv1 := ((hF.new (t := 15) (i := 7) (by kernel_rfl) (by simp) (waits_done (i := 8) (j := 7) (by kernel_rfl) hi)).trans (cc.c7 (waits_done (i := 8) (j := 7) (by kernel_rfl) hi)))
      exact wp_valF (v := .bool false) (w1 := w') (by simp [execOp, go_sem, ev hv0, ev hv1, hE]) ⟨_, rfl, ⟨cc.bw, cc.ms, cc.R0, cc.R1, fun h => cc.c0 (T 0 (by decide) h), fun h => cc.c1 (T 1 (by decide) h), fun h => cc.c2 (T 2 (by decide) h), fun h => cc.c3 (T 3 (by decide) h), fun h => cc.c4 (T 4 (by decide) h), fun h => cc.c5 (T 5 (by decide) h), fun h => cc.c6 (T 6 (by decide) h), fun h => cc.c7 (T 7 (by decide) h), fun _ => rfl, fun h => by obtain ⟨g', e', k1, k2⟩ := cc.c9 (T 9 (by decide) h); exact ⟨g', e', k1, k2⟩, fun h => cc.c10 (T 10 (by decide) h), fun h => cc.c11 (T 11 (by decide) h)⟩⟩
    · simp at ho
      subst ho
      have T : ∀ j, j ≠ 9 → (listed.setIfInBounds 9 true).getD j false = true → listed.getD j false = true := fun j hj h => (done_set h).resolve_left hj
      have S : ∀ j, listed.getD j false = true → (listed.setIfInBounds 9 true).getD j false = true := fun j h => done_keep h
      have hv0 := ((hF.new (t := 10) (i := 2) (by kernel_rfl) (by simp) (waits_done (i := 9) (j := 2) (by kernel_rfl) hi)).trans (cc.c2 (waits_done (i := 9) (j := 2) (by kernel_rfl) hi)))
      have hv1 := ((hF.new (t := 13) (i := 5) (by kernel_rfl) (by simp) (waits_done (i := 9) (j := 5) (by kernel_rfl) hi)).trans (cc.c5 (waits_done (i := 9) (j := 5) (by kernel_rfl) hi)))
      have hv2 := ((hF.new (t := 16) (i := 8) (by kernel_rfl) (by simp) (waits_done (i := 9) (j := 8) (by kernel_rfl) hi)).trans (cc.c8 (waits_done (i := 9) (j := 8) (by kernel_rfl) hi)))
      exact wp_valF (v := .slice (some ⟨w'.heap.size, 0, none⟩) 3 3) (w1 := w'.alloc (.cells #[.bool false, .bool true, .bool false] 4)) (by simp [execOp, go_sem, ev hv0, ev hv1, ev hv2]) ⟨_, rfl, ⟨bel_alloc cc.bw _, by have := cc.ms; simp; omega, cc.R0.old, cc.R1.old, fun h => cc.c0 (T 0 (by decide) h), fun h => cc.c1 (T 1 (by decide) h), fun h => cc.c2 (T 2 (by decide) h), fun h => cc.c3 (T 3 (by decide) h), fun h => cc.c4 (T 4 (by decide) h), fun h => cc.c5 (T 5 (by decide) h), fun h => cc.c6 (T 6 (by decide) h), fun h => cc.c7 (T 7 (by decide) h), fun h => cc.c8 (T 8 (by decide) h), fun _ => ⟨w'.heap.size, rfl, cc.ms, HasRow.last rfl⟩, fun h => cc.c10 (T 10 (by decide) h), fun h => cc.c11 (T 11 (by decide) h)⟩⟩
    · simp at ho
      subst ho
      have T : ∀ j, j ≠ 10 → (listed.setIfInBounds 10 true).getD j false = true → listed.getD j false = true := fun j hj h => (done_set h).resolve_left hj
      have S : ∀ j, listed.getD j false = true → (listed.setIfInBounds 10 true).getD j false = true := fun j h => done_keep h
      obtain ⟨g, e, h1, h2⟩ := cc.c9 (waits_done (i := 10) (j := 9) (by kernel_rfl) hi)
      have hv := (hF.new (t := 17) (i := 9) (by kernel_rfl) (by simp) (waits_done (i := 10) (j := 9) (by kernel_rfl) hi)).trans e
      exact wp_valF (v := .int .i64 3) (w1 := w') (by simp [go_sem, ev hv]) ⟨_, rfl, ⟨cc.bw, cc.ms, cc.R0, cc.R1, fun h => cc.c0 (T 0 (by decide) h), fun h => cc.c1 (T 1 (by decide) h), fun h => cc.c2 (T 2 (by decide) h), fun h => cc.c3 (T 3 (by decide) h), fun h => cc.c4 (T 4 (by decide) h), fun h => cc.c5 (T 5 (by decide) h), fun h => cc.c6 (T 6 (by decide) h), fun h => cc.c7 (T 7 (by decide) h), fun h => cc.c8 (T 8 (by decide) h), fun h => by obtain ⟨g', e', k1, k2⟩ := cc.c9 (T 9 (by decide) h); exact ⟨g', e', k1, k2⟩, fun _ => rfl, fun h => cc.c11 (T 11 (by decide) h)⟩⟩
    · simp at ho
      subst ho
      have T : ∀ j, j ≠ 11 → (listed.setIfInBounds 11 true).getD j false = true → listed.getD j false = true := fun j hj h => (done_set h).resolve_left hj
      have S : ∀ j, listed.getD j false = true → (listed.setIfInBounds 11 true).getD j false = true := fun j h => done_keep h
      exact wp_valF (v := .int .i64 0) (w1 := w') (by simp [execOp, go_sem]) ⟨_, rfl, ⟨cc.bw, cc.ms, cc.R0, cc.R1, fun h => cc.c0 (T 0 (by decide) h), fun h => cc.c1 (T 1 (by decide) h), fun h => cc.c2 (T 2 (by decide) h), fun h => cc.c3 (T 3 (by decide) h), fun h => cc.c4 (T 4 (by decide) h), fun h => cc.c5 (T 5 (by decide) h), fun h => cc.c6 (T 6 (by decide) h), fun h => cc.c7 (T 7 (by decide) h), fun h => cc.c8 (T 8 (by decide) h), fun h => by obtain ⟨g', e', k1, k2⟩ := cc.c9 (T 9 (by decide) h); exact ⟨g', e', k1, k2⟩, fun h => cc.c10 (T 10 (by decide) h), fun _ => rfl⟩⟩
  · intro listed vs a' w1 hd hF cc
    have e : a' = ({ tmps := #[U a, U b, .pointer (some ⟨w.heap.size, 0, none⟩), .pointer (some ⟨w.heap.size + 1, 0, none⟩), .bool false, .int .i64 0, undef, undef, vs 0, vs 1, vs 2, vs 3, vs 4, vs 5, vs 6, vs 7, vs 8, vs 9, vs 10, vs 11, undef, undef, undef, undef, undef, undef, undef, undef, undef, undef, undef, undef, undef, undef, undef, undef, undef, undef, undef, undef, undef, undef, undef, undef, undef, undef, undef, undef, undef, undef, undef], defers := [] } : Act) := (hF.all hd).trans (by kernel_rfl)
    subst e
    obtain ⟨g9, e9, h19, h2⟩ := cc.c9 (hd 9 (by simp))
    have RX9 : Hid (HasRow w1 g9 #[.bool false, .bool true, .bool false]) := h2
    clear h2
    rw [cc.c10 (hd 10 (by simp))]
    rw [cc.c11 (hd 11 (by simp))]
    have R0_1 : Hid (HasRow w1 (w.heap.size) #[B (l0 a), B (l1 a), B (l2 a), B (l3 a)]) := cc.R0
    have R1_1 : Hid (HasRow w1 (w.heap.size + 1) #[B (l0 b), B (l1 b), B (l2 b), B (l3 b)]) := cc.R1
    have B1 : Hid (Below w.heap.size w w1) := cc.bw
    rw [e9]
    clear cc hd hF BF e9 RF0 RF1
    have R2_1 : Hid (HasRow w1 g9 #[.bool false, .bool true, .bool false]) := RX9
    clear RX9
    have q0_1 := R0_1.out.lt
    have q1_1 := R1_1.out.lt
    have q2_1 := R2_1.out.lt
    have c0_0_1 : w1.cell? ⟨w.heap.size, 0, none⟩ = some (B (l0 a)) := R0_1.out.cell 0
    have c0_1_1 : w1.cell? ⟨w.heap.size, 1, none⟩ = some (B (l1 a)) := R0_1.out.cell 1
    have c0_2_1 : w1.cell? ⟨w.heap.size, 2, none⟩ = some (B (l2 a)) := R0_1.out.cell 2
    have c0_3_1 : w1.cell? ⟨w.heap.size, 3, none⟩ = some (B (l3 a)) := R0_1.out.cell 3
    have c1_0_1 : w1.cell? ⟨w.heap.size + 1, 0, none⟩ = some (B (l0 b)) := R1_1.out.cell 0
    have c1_1_1 : w1.cell? ⟨w.heap.size + 1, 1, none⟩ = some (B (l1 b)) := R1_1.out.cell 1
    have c1_2_1 : w1.cell? ⟨w.heap.size + 1, 2, none⟩ = some (B (l2 b)) := R1_1.out.cell 2
    have c1_3_1 : w1.cell? ⟨w.heap.size + 1, 3, none⟩ = some (B (l3 b)) := R1_1.out.cell 3
    have c2_0_1 : w1.cell? ⟨g9, 0, none⟩ = some (.bool false) := R2_1.out.cell 0
    have c2_1_1 : w1.cell? ⟨g9, 1, none⟩ = some (.bool true) := R2_1.out.cell 1
    have c2_2_1 : w1.cell? ⟨g9, 2, none⟩ = some (.bool false) := R2_1.out.cell 2
    go_wp2
    refine wp_loop_rounds 4 ?_
    rw [rounds_succ]; go_wp2_with fail
    rw [rounds_succ]; go_wp2_with fail
    rw [rounds_succ]; go_wp2_with fail
    rw [rounds_succ]; go_wp2_with fail
    go_wp2_with fail
    refine name_world _ ?_
    intro wF hF
    have RF0 : Hid (HasRow wF (w.heap.size) #[B (l0 a), B (l1 a), B (l2 a), B (l3 a)]) := by rw [hF]; exact R0_1.out
    have RF1 : Hid (HasRow wF (w.heap.size + 1) #[B (l0 b), B (l1 b), B (l2 b), B (l3 b)]) := by rw [hF]; exact R1_1.out
    have RF2 : Hid (HasRow wF (g9) #[.bool false, .bool true, .bool false]) := by rw [hF]; exact R2_1.out
    have BF : Hid (Below w.heap.size w wF) := by rw [hF]; exact B1.out
    clear hF
    clear q0_1 q1_1 q2_1 c0_0_1 c0_1_1 c0_2_1 c0_3_1 c1_0_1 c1_1_1 c1_2_1 c1_3_1 c2_0_1 c2_1_1 c2_2_1
    clear B1 R0_1 R1_1 R2_1
    have d0_0 : wF.cell? ⟨w.heap.size, 0, none⟩ = some (B (l0 a)) := RF0.out.cell 0
    replace d0_0 := cell_regrown d0_0
    have d0_1 : wF.cell? ⟨w.heap.size, 1, none⟩ = some (B (l1 a)) := RF0.out.cell 1
    replace d0_1 := cell_regrown d0_1
    have d0_2 : wF.cell? ⟨w.heap.size, 2, none⟩ = some (B (l2 a)) := RF0.out.cell 2
    replace d0_2 := cell_regrown d0_2
    have d0_3 : wF.cell? ⟨w.heap.size, 3, none⟩ = some (B (l3 a)) := RF0.out.cell 3
    replace d0_3 := cell_regrown d0_3
    have d1_0 : wF.cell? ⟨w.heap.size + 1, 0, none⟩ = some (B (l0 b)) := RF1.out.cell 0
    replace d1_0 := cell_regrown d1_0
    have d1_1 : wF.cell? ⟨w.heap.size + 1, 1, none⟩ = some (B (l1 b)) := RF1.out.cell 1
    replace d1_1 := cell_regrown d1_1
    have d1_2 : wF.cell? ⟨w.heap.size + 1, 2, none⟩ = some (B (l2 b)) := RF1.out.cell 2
    replace d1_2 := cell_regrown d1_2
    have d1_3 : wF.cell? ⟨w.heap.size + 1, 3, none⟩ = some (B (l3 b)) := RF1.out.cell 3
    replace d1_3 := cell_regrown d1_3
    refine wp_region_quiet_below (by kernel_rfl) (by kernel_rfl) ?_
    repeat (go_big_quiet_step (fail))
    go_big_quiet_step ((exact Calls.regrown_of (h1.out _)))
    repeat (go_big_quiet_step (fail))
    go_big_quiet_step ((exact Calls.regrown_of (ha.out _)))
    repeat (go_big_quiet_step (fail))
    refine wpQuiet_nil ?_
    intro w2 hw'
    have hb2 : Below wF.heap.size wF w2 := by obtain ⟨p, rfl⟩ := hw'; exact below_regrown _ _ _
    clear hw'
    clear d0_0 d0_1 d0_2 d0_3
    clear d1_0 d1_1 d1_2 d1_3
    have R0_2 : Hid (HasRow w2 (w.heap.size) #[B (l0 a), B (l1 a), B (l2 a), B (l3 a)]) := RF0.out.below hb2
    have R1_2 : Hid (HasRow w2 (w.heap.size + 1) #[B (l0 b), B (l1 b), B (l2 b), B (l3 b)]) := RF1.out.below hb2
    have R2_2 : Hid (HasRow w2 (g9) #[.bool false, .bool true, .bool false]) := RF2.out.below hb2
    have B2 : Hid (Below w.heap.size w w2) := bel_call BF.out hb2
    clear hb2 BF RF0 RF1 RF2
    clear wF
    have q0_2 := R0_2.out.lt
    have q1_2 := R1_2.out.lt
    have q2_2 := R2_2.out.lt
    go_wp2
    go_ret
    exact ⟨rfl, B2.out⟩
structure COfft (w : World) (N0 : Nat) (a b : Nat) (listed : Array Bool) (vs : Nat → Value) (w' : World) : Prop where
  bw : Below w.heap.size w w'
  ms : N0 ≤ w'.heap.size
  R0 : HasRow w' (w.heap.size) #[B (l0 a), B (l1 a), B (l2 a), B (l3 a)]
  R1 : HasRow w' (w.heap.size + 1) #[B (l0 b), B (l1 b), B (l2 b), B (l3 b)]
  c0 : listed.getD 0 false = true → vs 0 = U a
  c1 : listed.getD 1 false = true → vs 1 = U b
  c2 : listed.getD 2 false = true → vs 2 = .bool false
  c3 : listed.getD 3 false = true → vs 3 = U b
  c4 : listed.getD 4 false = true → vs 4 = U a
  c5 : listed.getD 5 false = true → vs 5 = .bool false
  c6 : listed.getD 6 false = true → vs 6 = U a
  c7 : listed.getD 7 false = true → vs 7 = U b
  c8 : listed.getD 8 false = true → vs 8 = .bool true
  c9 : listed.getD 9 false = true → ∃ g, vs 9 = .slice (some ⟨g, 0, none⟩) 3 3 ∧ N0 ≤ g ∧ HasRow w' g #[.bool false, .bool false, .bool true]
  c10 : listed.getD 10 false = true → vs 10 = .int .i64 3
  c11 : listed.getD 11 false = true → vs 11 = .int .i64 0

set_option maxRecDepth 100000 in
set_option maxHeartbeats 4000000 in
theorem order4_fft_vv (a b : Nat) (v : Int)
    (h1 : Hid (∀ w, Calls Try.prog 11 #[U a, U b] w fun e w' => e = .returned (.bool false) ∧ Below w.heap.size w w'))
    (h2 : Hid (∀ w, Calls Try.prog 11 #[U b, U a] w fun e w' => e = .returned (.bool false) ∧ Below w.heap.size w w'))
    (hE : ∀ w, (Op.equalIn 10000 24 (U a) (U b)).run Try.prog w = .ok true w)
    (ha : Hid (∀ w, Calls Try.prog 19 #[] w fun e w' => e = .returned (.bool true) ∧ Below w.heap.size w w'))
    (hta : (l3 a : Int) / 9223372036854775808 = v)
    (htb : (l3 b : Int) / 9223372036854775808 = v) (w : World) :
    Calls Try.prog 5 #[U a, U b] w fun e w' => e = .returned (.bool true) ∧ Below w.heap.size w w' := by
  go_enter Try.func5, Try.ntmps5
  go_wp2_with fail
  refine name_world _ ?_
  intro wF hF0
  have RF0 : Hid (HasRow wF (w.heap.size) #[B (l0 a), B (l1 a), B (l2 a), B (l3 a)]) := by rw [hF0]; exact (HasRow.old (HasRow.last (by simp)))
  have RF1 : Hid (HasRow wF (w.heap.size + 1) #[B (l0 b), B (l1 b), B (l2 b), B (l3 b)]) := by rw [hF0]; exact (HasRow.last (by simp))
  have BF : Hid (Below w.heap.size w wF) := by rw [hF0]; exact (bel_alloc (bel_alloc (Below.refl _ _) _) _)
  clear hF0
  obtain ⟨N0, hN0⟩ : ∃ n, n = wF.heap.size := ⟨_, rfl⟩
  have qF0 : w.heap.size < N0 := by rw [hN0]; exact RF0.out.lt
  have qF1 : w.heap.size + 1 < N0 := by rw [hN0]; exact RF1.out.lt
  refine wp_region_vals2 (by kernel_rfl) (by kernel_rfl) (by kernel_rfl) (COfft w N0 a b) ?_ ?_ ?_
  · refine ⟨BF.out.drew, by rw [hN0]; exact Nat.le_refl _, RF0.out, RF1.out, ?_, ?_, ?_, ?_, ?_, ?_, ?_, ?_, ?_, ?_, ?_, ?_⟩ <;> (intro h; simp [Array.getD] at h)
  · intro listed vs a' w' i o' hs ho hi hF cc
    have hin : i < 12 := by have := (Array.getElem?_eq_some_iff.1 ho).1; simpa using this
    have hcase : i = 0 ∨ i = 1 ∨ i = 2 ∨ i = 3 ∨ i = 4 ∨ i = 5 ∨ i = 6 ∨ i = 7 ∨ i = 8 ∨ i = 9 ∨ i = 10 ∨ i = 11 := by omega
    rcases hcase with rfl | rfl | rfl | rfl | rfl | rfl | rfl | rfl | rfl | rfl | rfl | rfl
    · simp at ho
      subst ho
      have T : ∀ j, j ≠ 0 → (listed.setIfInBounds 0 true).getD j false = true → listed.getD j false = true := fun j hj h => (done_set h).resolve_left hj
      have S : ∀ j, listed.getD j false = true → (listed.setIfInBounds 0 true).getD j false = true := fun j h => done_keep h
      exact wp_rowF 24 (.tmp 2) rfl (w.heap.size) ((hF.old (by kernel_rfl)).trans rfl) cc.R0 rfl Try.underlying24 (by kernel_rfl) ⟨_, rfl, ⟨cc.bw, cc.ms, cc.R0, cc.R1, fun _ => rfl, fun h => cc.c1 (T 1 (by decide) h), fun h => cc.c2 (T 2 (by decide) h), fun h => cc.c3 (T 3 (by decide) h), fun h => cc.c4 (T 4 (by decide) h), fun h => cc.c5 (T 5 (by decide) h), fun h => cc.c6 (T 6 (by decide) h), fun h => cc.c7 (T 7 (by decide) h), fun h => cc.c8 (T 8 (by decide) h), fun h => by obtain ⟨g', e', k1, k2⟩ := cc.c9 (T 9 (by decide) h); exact ⟨g', e', k1, k2⟩, fun h => cc.c10 (T 10 (by decide) h), fun h => cc.c11 (T 11 (by decide) h)⟩⟩
    · simp at ho
      subst ho
      have T : ∀ j, j ≠ 1 → (listed.setIfInBounds 1 true).getD j false = true → listed.getD j false = true := fun j hj h => (done_set h).resolve_left hj
      have S : ∀ j, listed.getD j false = true → (listed.setIfInBounds 1 true).getD j false = true := fun j h => done_keep h
      exact wp_rowF 24 (.tmp 3) rfl (w.heap.size + 1) ((hF.old (by kernel_rfl)).trans rfl) cc.R1 rfl Try.underlying24 (by kernel_rfl) ⟨_, rfl, ⟨cc.bw, cc.ms, cc.R0, cc.R1, fun h => cc.c0 (T 0 (by decide) h), fun _ => rfl, fun h => cc.c2 (T 2 (by decide) h), fun h => cc.c3 (T 3 (by decide) h), fun h => cc.c4 (T 4 (by decide) h), fun h => cc.c5 (T 5 (by decide) h), fun h => cc.c6 (T 6 (by decide) h), fun h => cc.c7 (T 7 (by decide) h), fun h => cc.c8 (T 8 (by decide) h), fun h => by obtain ⟨g', e', k1, k2⟩ := cc.c9 (T 9 (by decide) h); exact ⟨g', e', k1, k2⟩, fun h => cc.c10 (T 10 (by decide) h), fun h => cc.c11 (T 11 (by decide) h)⟩⟩
    · simp at ho
      subst ho
      have T : ∀ j, j ≠ 2 → (listed.setIfInBounds 2 true).getD j false = true → listed.getD j false = true := fun j hj h => (done_set h).resolve_left hj
      have S : ∀ j, listed.getD j false = true → (listed.setIfInBounds 2 true).getD j false = true := fun j h => done_keep h
      have hv0 := ((hF.new (t := 8) (i := 0) (by kernel_rfl) (by simp) (waits_done (i := 2) (j := 0) (by kernel_rfl) hi)).trans (cc.c0 (waits_done (i := 2) (j := 0) (by kernel_rfl) hi)))
      have hv1 := ((hF.new (t := 9) (i := 1) (by kernel_rfl) (by simp) (waits_done (i := 2) (j := 1) (by kernel_rfl) hi)).trans (cc.c1 (waits_done (i := 2) (j := 1) (by kernel_rfl) hi)))
      refine wp_callF (f := 11) (args := #[U a, U b]) (v := .bool false) (by simp [execOp_call_go, ev hv0, ev hv1, go_sem]) (h1.out w') ?_
      intro w'' hb''
      exact ⟨_, rfl, ⟨cc.bw.trans (hb''.mono cc.bw.size), Nat.le_trans cc.ms hb''.size, cc.R0.below hb'', cc.R1.below hb'', fun h => cc.c0 (T 0 (by decide) h), fun h => cc.c1 (T 1 (by decide) h), fun _ => rfl, fun h => cc.c3 (T 3 (by decide) h), fun h => cc.c4 (T 4 (by decide) h), fun h => cc.c5 (T 5 (by decide) h), fun h => cc.c6 (T 6 (by decide) h), fun h => cc.c7 (T 7 (by decide) h), fun h => cc.c8 (T 8 (by decide) h), fun h => by obtain ⟨g', e', k1, k2⟩ := cc.c9 (T 9 (by decide) h); exact ⟨g', e', k1, k2.below hb''⟩, fun h => cc.c10 (T 10 (by decide) h), fun h => cc.c11 (T 11 (by decide) h)⟩⟩
    · simp at ho
      subst ho
      have T : ∀ j, j ≠ 3 → (listed.setIfInBounds 3 true).getD j false = true → listed.getD j false = true := fun j hj h => (done_set h).resolve_left hj
      have S : ∀ j, listed.getD j false = true → (listed.setIfInBounds 3 true).getD j false = true := fun j h => done_keep h
      exact wp_rowF 24 (.tmp 3) rfl (w.heap.size + 1) ((hF.old (by kernel_rfl)).trans rfl) cc.R1 rfl Try.underlying24 (by kernel_rfl) ⟨_, rfl, ⟨cc.bw, cc.ms, cc.R0, cc.R1, fun h => cc.c0 (T 0 (by decide) h), fun h => cc.c1 (T 1 (by decide) h), fun h => cc.c2 (T 2 (by decide) h), fun _ => rfl, fun h => cc.c4 (T 4 (by decide) h), fun h => cc.c5 (T 5 (by decide) h), fun h => cc.c6 (T 6 (by decide) h), fun h => cc.c7 (T 7 (by decide) h), fun h => cc.c8 (T 8 (by decide) h), fun h => by obtain ⟨g', e', k1, k2⟩ := cc.c9 (T 9 (by decide) h); exact ⟨g', e', k1, k2⟩, fun h => cc.c10 (T 10 (by decide) h), fun h => cc.c11 (T 11 (by decide) h)⟩⟩
    · simp at ho
      subst ho
      have T : ∀ j, j ≠ 4 → (listed.setIfInBounds 4 true).getD j false = true → listed.getD j false = true := fun j hj h => (done_set h).resolve_left hj
      have S : ∀ j, listed.getD j false = true → (listed.setIfInBounds 4 true).getD j false = true := fun j h => done_keep h
      exact wp_rowF 24 (.tmp 2) rfl (w.heap.size) ((hF.old (by kernel_rfl)).trans rfl) cc.R0 rfl Try.underlying24 (by kernel_rfl) ⟨_, rfl, ⟨cc.bw, cc.ms, cc.R0, cc.R1, fun h => cc.c0 (T 0 (by decide) h), fun h => cc.c1 (T 1 (by decide) h), fun h => cc.c2 (T 2 (by decide) h), fun h => cc.c3 (T 3 (by decide) h), fun _ => rfl, fun h => cc.c5 (T 5 (by decide) h), fun h => cc.c6 (T 6 (by decide) h), fun h => cc.c7 (T 7 (by decide) h), fun h => cc.c8 (T 8 (by decide) h), fun h => by obtain ⟨g', e', k1, k2⟩ := cc.c9 (T 9 (by decide) h); exact ⟨g', e', k1, k2⟩, fun h => cc.c10 (T 10 (by decide) h), fun h => cc.c11 (T 11 (by decide) h)⟩⟩
    · simp at ho
      subst ho
      have T : ∀ j, j ≠ 5 → (listed.setIfInBounds 5 true).getD j false = true → listed.getD j false = true := fun j hj h => (done_set h).resolve_left hj
      have S : ∀ j, listed.getD j false = true → (listed.setIfInBounds 5 true).getD j false = true := fun j h => done_keep h
      have hv0 := ((hF.new (t := 11) (i := 3) (by kernel_rfl) (by simp) (waits_done (i := 5) (j := 3) (by kernel_rfl) hi)).trans (cc.c3 (waits_done (i := 5) (j := 3) (by kernel_rfl) hi)))
      have hv1 := ((hF.new (t := 12) (i := 4) (by kernel_rfl) (by simp) (waits_done (i := 5) (j := 4) (by kernel_rfl) hi)).trans (cc.c4 (waits_done (i := 5) (j := 4) (by kernel_rfl) hi)))
      refine wp_callF (f := 11) (args := #[U b, U a]) (v := .bool false) (by simp [execOp_call_go, ev hv0, ev hv1, go_sem]) (h2.out w') ?_
      intro w'' hb''
      exact ⟨_, rfl, ⟨cc.bw.trans (hb''.mono cc.bw.size), Nat.le_trans cc.ms hb''.size, cc.R0.below hb'', cc.R1.below hb'', fun h => cc.c0 (T 0 (by decide) h), fun h => cc.c1 (T 1 (by decide) h), fun h => cc.c2 (T 2 (by decide) h), fun h => cc.c3 (T 3 (by decide) h), fun h => cc.c4 (T 4 (by decide) h), fun _ => rfl, fun h => cc.c6 (T 6 (by decide) h), fun h => cc.c7 (T 7 (by decide) h), fun h => cc.c8 (T 8 (by decide) h), fun h => by obtain ⟨g', e', k1, k2⟩ := cc.c9 (T 9 (by decide) h); exact ⟨g', e', k1, k2.below hb''⟩, fun h => cc.c10 (T 10 (by decide) h), fun h => cc.c11 (T 11 (by decide) h)⟩⟩
    · simp at ho
      subst ho
      have T : ∀ j, j ≠ 6 → (listed.setIfInBounds 6 true).getD j false = true → listed.getD j false = true := fun j hj h => (done_set h).resolve_left hj
      have S : ∀ j, listed.getD j false = true → (listed.setIfInBounds 6 true).getD j false = true := fun j h => done_keep h
      exact wp_rowF 24 (.tmp 2) rfl (w.heap.size) ((hF.old (by kernel_rfl)).trans rfl) cc.R0 rfl Try.underlying24 (by kernel_rfl) ⟨_, rfl, ⟨cc.bw, cc.ms, cc.R0, cc.R1, fun h => cc.c0 (T 0 (by decide) h), fun h => cc.c1 (T 1 (by decide) h), fun h => cc.c2 (T 2 (by decide) h), fun h => cc.c3 (T 3 (by decide) h), fun h => cc.c4 (T 4 (by decide) h), fun h => cc.c5 (T 5 (by decide) h), fun _ => rfl, fun h => cc.c7 (T 7 (by decide) h), fun h => cc.c8 (T 8 (by decide) h), fun h => by obtain ⟨g', e', k1, k2⟩ := cc.c9 (T 9 (by decide) h); exact ⟨g', e', k1, k2⟩, fun h => cc.c10 (T 10 (by decide) h), fun h => cc.c11 (T 11 (by decide) h)⟩⟩
    · simp at ho
      subst ho
      have T : ∀ j, j ≠ 7 → (listed.setIfInBounds 7 true).getD j false = true → listed.getD j false = true := fun j hj h => (done_set h).resolve_left hj
      have S : ∀ j, listed.getD j false = true → (listed.setIfInBounds 7 true).getD j false = true := fun j h => done_keep h
      exact wp_rowF 24 (.tmp 3) rfl (w.heap.size + 1) ((hF.old (by kernel_rfl)).trans rfl) cc.R1 rfl Try.underlying24 (by kernel_rfl) ⟨_, rfl, ⟨cc.bw, cc.ms, cc.R0, cc.R1, fun h => cc.c0 (T 0 (by decide) h), fun h => cc.c1 (T 1 (by decide) h), fun h => cc.c2 (T 2 (by decide) h), fun h => cc.c3 (T 3 (by decide) h), fun h => cc.c4 (T 4 (by decide) h), fun h => cc.c5 (T 5 (by decide) h), fun h => cc.c6 (T 6 (by decide) h), fun _ => rfl, fun h => cc.c8 (T 8 (by decide) h), fun h => by obtain ⟨g', e', k1, k2⟩ := cc.c9 (T 9 (by decide) h); exact ⟨g', e', k1, k2⟩, fun h => cc.c10 (T 10 (by decide) h), fun h => cc.c11 (T 11 (by decide) h)⟩⟩
    · simp at ho
      subst ho
      have T : ∀ j, j ≠ 8 → (listed.setIfInBounds 8 true).getD j false = true → listed.getD j false = true := fun j hj h => (done_set h).resolve_left hj
      have S : ∀ j, listed.getD j false = true → (listed.setIfInBounds 8 true).getD j false = true := fun j h => done_keep h
      have hv0 := ((hF.new (t := 14) (i := 6) (by kernel_rfl) (by simp) (waits_done (i := 8) (j := 6) (by kernel_rfl) hi)).trans (cc.c6 (waits_done (i := 8) (j := 6) (by kernel_rfl) hi)))
      have hv1 := ((hF.new (t := 15) (i := 7) (by kernel_rfl) (by simp) (waits_done (i := 8) (j := 7) (by kernel_rfl) hi)).trans (cc.c7 (waits_done (i := 8) (j := 7) (by kernel_rfl) hi)))
      exact wp_valF (v := .bool true) (w1 := w') (by simp [execOp, go_sem, ev hv0, ev hv1, hE]) ⟨_, rfl, ⟨cc.bw, cc.ms, cc.R0, cc.R1, fun h => cc.c0 (T 0 (by decide) h), fun h => cc.c1 (T 1 (by decide) h), fun h => cc.c2 (T 2 (by decide) h), fun h => cc.c3 (T 3 (by decide) h), fun h => cc.c4 (T 4 (by decide) h), fun h => cc.c5 (T 5 (by decide) h), fun h => cc.c6 (T 6 (by decide) h), fun h => cc.c7 (T 7 (by decide) h), fun _ => rfl, fun h => by obtain ⟨g', e', k1, k2⟩ := cc.c9 (T 9 (by decide) h); exact ⟨g', e', k1, k2⟩, fun h => cc.c10 (T 10 (by decide) h), fun h => cc.c11 (T 11 (by decide) h)⟩⟩
    · simp at ho
      subst ho
      have T : ∀ j, j ≠ 9 → (listed.setIfInBounds 9 true).getD j false = true → listed.getD j false = true := fun j hj h => (done_set h).resolve_left hj
      have S : ∀ j, listed.getD j false = true → (listed.setIfInBounds 9 true).getD j false = true := fun j h => done_keep h
      have hv0 := ((hF.new (t := 10) (i := 2) (by kernel_rfl) (by simp) (waits_done (i := 9) (j := 2) (by kernel_rfl) hi)).trans (cc.c2 (waits_done (i := 9) (j := 2) (by kernel_rfl) hi)))
      have hv1 := ((hF.new (t := 13) (i := 5) (by kernel_rfl) (by simp) (waits_done (i := 9) (j := 5) (by kernel_rfl) hi)).trans (cc.c5 (waits_done (i := 9) (j := 5) (by kernel_rfl) hi)))
      have hv2 := ((hF.new (t := 16) (i := 8) (by kernel_rfl) (by simp) (waits_done (i := 9) (j := 8) (by kernel_rfl) hi)).trans (cc.c8 (waits_done (i := 9) (j := 8) (by kernel_rfl) hi)))
      exact wp_valF (v := .slice (some ⟨w'.heap.size, 0, none⟩) 3 3) (w1 := w'.alloc (.cells #[.bool false, .bool false, .bool true] 4)) (by simp [execOp, go_sem, ev hv0, ev hv1, ev hv2]) ⟨_, rfl, ⟨bel_alloc cc.bw _, by have := cc.ms; simp; omega, cc.R0.old, cc.R1.old, fun h => cc.c0 (T 0 (by decide) h), fun h => cc.c1 (T 1 (by decide) h), fun h => cc.c2 (T 2 (by decide) h), fun h => cc.c3 (T 3 (by decide) h), fun h => cc.c4 (T 4 (by decide) h), fun h => cc.c5 (T 5 (by decide) h), fun h => cc.c6 (T 6 (by decide) h), fun h => cc.c7 (T 7 (by decide) h), fun h => cc.c8 (T 8 (by decide) h), fun _ => ⟨w'.heap.size, rfl, cc.ms, HasRow.last rfl⟩, fun h => cc.c10 (T 10 (by decide) h), fun h => cc.c11 (T 11 (by decide) h)⟩⟩
    · simp at ho
      subst ho
      have T : ∀ j, j ≠ 10 → (listed.setIfInBounds 10 true).getD j false = true → listed.getD j false = true := fun j hj h => (done_set h).resolve_left hj
      have S : ∀ j, listed.getD j false = true → (listed.setIfInBounds 10 true).getD j false = true := fun j h => done_keep h
      obtain ⟨g, e, h1, h2⟩ := cc.c9 (waits_done (i := 10) (j := 9) (by kernel_rfl) hi)
      have hv := (hF.new (t := 17) (i := 9) (by kernel_rfl) (by simp) (waits_done (i := 10) (j := 9) (by kernel_rfl) hi)).trans e
      exact wp_valF (v := .int .i64 3) (w1 := w') (by simp [go_sem, ev hv]) ⟨_, rfl, ⟨cc.bw, cc.ms, cc.R0, cc.R1, fun h => cc.c0 (T 0 (by decide) h), fun h => cc.c1 (T 1 (by decide) h), fun h => cc.c2 (T 2 (by decide) h), fun h => cc.c3 (T 3 (by decide) h), fun h => cc.c4 (T 4 (by decide) h), fun h => cc.c5 (T 5 (by decide) h), fun h => cc.c6 (T 6 (by decide) h), fun h => cc.c7 (T 7 (by decide) h), fun h => cc.c8 (T 8 (by decide) h), fun h => by obtain ⟨g', e', k1, k2⟩ := cc.c9 (T 9 (by decide) h); exact ⟨g', e', k1, k2⟩, fun _ => rfl, fun h => cc.c11 (T 11 (by decide) h)⟩⟩
    · simp at ho
      subst ho
      have T : ∀ j, j ≠ 11 → (listed.setIfInBounds 11 true).getD j false = true → listed.getD j false = true := fun j hj h => (done_set h).resolve_left hj
      have S : ∀ j, listed.getD j false = true → (listed.setIfInBounds 11 true).getD j false = true := fun j h => done_keep h
      exact wp_valF (v := .int .i64 0) (w1 := w') (by simp [execOp, go_sem]) ⟨_, rfl, ⟨cc.bw, cc.ms, cc.R0, cc.R1, fun h => cc.c0 (T 0 (by decide) h), fun h => cc.c1 (T 1 (by decide) h), fun h => cc.c2 (T 2 (by decide) h), fun h => cc.c3 (T 3 (by decide) h), fun h => cc.c4 (T 4 (by decide) h), fun h => cc.c5 (T 5 (by decide) h), fun h => cc.c6 (T 6 (by decide) h), fun h => cc.c7 (T 7 (by decide) h), fun h => cc.c8 (T 8 (by decide) h), fun h => by obtain ⟨g', e', k1, k2⟩ := cc.c9 (T 9 (by decide) h); exact ⟨g', e', k1, k2⟩, fun h => cc.c10 (T 10 (by decide) h), fun _ => rfl⟩⟩
  · intro listed vs a' w1 hd hF cc
    have e : a' = ({ tmps := #[U a, U b, .pointer (some ⟨w.heap.size, 0, none⟩), .pointer (some ⟨w.heap.size + 1, 0, none⟩), .bool false, .int .i64 0, undef, undef, vs 0, vs 1, vs 2, vs 3, vs 4, vs 5, vs 6, vs 7, vs 8, vs 9, vs 10, vs 11, undef, undef, undef, undef, undef, undef, undef, undef, undef, undef, undef, undef, undef, undef, undef, undef, undef, undef, undef, undef, undef, undef, undef, undef, undef, undef, undef, undef, undef, undef, undef], defers := [] } : Act) := (hF.all hd).trans (by kernel_rfl)
    subst e
    obtain ⟨g9, e9, h19, h2⟩ := cc.c9 (hd 9 (by simp))
    have RX9 : Hid (HasRow w1 g9 #[.bool false, .bool false, .bool true]) := h2
    clear h2
    rw [cc.c10 (hd 10 (by simp))]
    rw [cc.c11 (hd 11 (by simp))]
    have R0_1 : Hid (HasRow w1 (w.heap.size) #[B (l0 a), B (l1 a), B (l2 a), B (l3 a)]) := cc.R0
    have R1_1 : Hid (HasRow w1 (w.heap.size + 1) #[B (l0 b), B (l1 b), B (l2 b), B (l3 b)]) := cc.R1
    have B1 : Hid (Below w.heap.size w w1) := cc.bw
    rw [e9]
    clear cc hd hF BF e9 RF0 RF1
    have R2_1 : Hid (HasRow w1 g9 #[.bool false, .bool false, .bool true]) := RX9
    clear RX9
    have q0_1 := R0_1.out.lt
    have q1_1 := R1_1.out.lt
    have q2_1 := R2_1.out.lt
    have c0_0_1 : w1.cell? ⟨w.heap.size, 0, none⟩ = some (B (l0 a)) := R0_1.out.cell 0
    have c0_1_1 : w1.cell? ⟨w.heap.size, 1, none⟩ = some (B (l1 a)) := R0_1.out.cell 1
    have c0_2_1 : w1.cell? ⟨w.heap.size, 2, none⟩ = some (B (l2 a)) := R0_1.out.cell 2
    have c0_3_1 : w1.cell? ⟨w.heap.size, 3, none⟩ = some (B (l3 a)) := R0_1.out.cell 3
    have c1_0_1 : w1.cell? ⟨w.heap.size + 1, 0, none⟩ = some (B (l0 b)) := R1_1.out.cell 0
    have c1_1_1 : w1.cell? ⟨w.heap.size + 1, 1, none⟩ = some (B (l1 b)) := R1_1.out.cell 1
    have c1_2_1 : w1.cell? ⟨w.heap.size + 1, 2, none⟩ = some (B (l2 b)) := R1_1.out.cell 2
    have c1_3_1 : w1.cell? ⟨w.heap.size + 1, 3, none⟩ = some (B (l3 b)) := R1_1.out.cell 3
    have c2_0_1 : w1.cell? ⟨g9, 0, none⟩ = some (.bool false) := R2_1.out.cell 0
    have c2_1_1 : w1.cell? ⟨g9, 1, none⟩ = some (.bool false) := R2_1.out.cell 1
    have c2_2_1 : w1.cell? ⟨g9, 2, none⟩ = some (.bool true) := R2_1.out.cell 2
    go_wp2
    refine wp_loop_rounds 4 ?_
    rw [rounds_succ]; go_wp2_with fail
    rw [rounds_succ]; go_wp2_with fail
    rw [rounds_succ]; go_wp2_with fail
    rw [rounds_succ]; go_wp2_with fail
    go_wp2_with fail
    refine name_world _ ?_
    intro wF hF
    have RF0 : Hid (HasRow wF (w.heap.size) #[B (l0 a), B (l1 a), B (l2 a), B (l3 a)]) := by rw [hF]; exact R0_1.out
    have RF1 : Hid (HasRow wF (w.heap.size + 1) #[B (l0 b), B (l1 b), B (l2 b), B (l3 b)]) := by rw [hF]; exact R1_1.out
    have RF2 : Hid (HasRow wF (g9) #[.bool false, .bool false, .bool true]) := by rw [hF]; exact R2_1.out
    have BF : Hid (Below w.heap.size w wF) := by rw [hF]; exact B1.out
    clear hF
    clear q0_1 q1_1 q2_1 c0_0_1 c0_1_1 c0_2_1 c0_3_1 c1_0_1 c1_1_1 c1_2_1 c1_3_1 c2_0_1 c2_1_1 c2_2_1
    clear B1 R0_1 R1_1 R2_1
    have d0_0 : wF.cell? ⟨w.heap.size, 0, none⟩ = some (B (l0 a)) := RF0.out.cell 0
    replace d0_0 := cell_regrown d0_0
    have d0_1 : wF.cell? ⟨w.heap.size, 1, none⟩ = some (B (l1 a)) := RF0.out.cell 1
    replace d0_1 := cell_regrown d0_1
    have d0_2 : wF.cell? ⟨w.heap.size, 2, none⟩ = some (B (l2 a)) := RF0.out.cell 2
    replace d0_2 := cell_regrown d0_2
    have d0_3 : wF.cell? ⟨w.heap.size, 3, none⟩ = some (B (l3 a)) := RF0.out.cell 3
    replace d0_3 := cell_regrown d0_3
    have d1_0 : wF.cell? ⟨w.heap.size + 1, 0, none⟩ = some (B (l0 b)) := RF1.out.cell 0
    replace d1_0 := cell_regrown d1_0
    have d1_1 : wF.cell? ⟨w.heap.size + 1, 1, none⟩ = some (B (l1 b)) := RF1.out.cell 1
    replace d1_1 := cell_regrown d1_1
    have d1_2 : wF.cell? ⟨w.heap.size + 1, 2, none⟩ = some (B (l2 b)) := RF1.out.cell 2
    replace d1_2 := cell_regrown d1_2
    have d1_3 : wF.cell? ⟨w.heap.size + 1, 3, none⟩ = some (B (l3 b)) := RF1.out.cell 3
    replace d1_3 := cell_regrown d1_3
    refine wp_region_quiet_below (by kernel_rfl) (by kernel_rfl) ?_
    repeat (go_big_quiet_step (fail))
    go_big_quiet_step ((exact Calls.regrown_of (ha.out _)))
    repeat (go_big_quiet_step (fail))
    refine wpQuiet_nil ?_
    intro w2 hw'
    have hb2 : Below wF.heap.size wF w2 := by obtain ⟨p, rfl⟩ := hw'; exact below_regrown _ _ _
    clear hw'
    clear d0_0 d0_1 d0_2 d0_3
    clear d1_0 d1_1 d1_2 d1_3
    have R0_2 : Hid (HasRow w2 (w.heap.size) #[B (l0 a), B (l1 a), B (l2 a), B (l3 a)]) := RF0.out.below hb2
    have R1_2 : Hid (HasRow w2 (w.heap.size + 1) #[B (l0 b), B (l1 b), B (l2 b), B (l3 b)]) := RF1.out.below hb2
    have R2_2 : Hid (HasRow w2 (g9) #[.bool false, .bool false, .bool true]) := RF2.out.below hb2
    have B2 : Hid (Below w.heap.size w w2) := bel_call BF.out hb2
    clear hb2 BF RF0 RF1 RF2
    clear wF
    have q0_2 := R0_2.out.lt
    have q1_2 := R1_2.out.lt
    have q2_2 := R2_2.out.lt
    go_wp2
    go_ret
    exact ⟨rfl, B2.out⟩

theorem top_int (a : Nat) (h : a < W) : (l3 a : Int) / 9223372036854775808 = ((if ng a = true then 1 else 0 : Nat) : Int) := by
  rw [← ng_top a h]; simp
theorem order4_walk (a b : Nat) (ha : a < W) (hb : b < W) (hw : ∀ w, Calls Try.prog 19 #[] w fun e w' => e = .returned (.bool true) ∧ Below w.heap.size w w') (w : World) :
    Calls Try.prog 5 #[U a, U b] w fun e w' => e = .returned (.bool true) ∧ Below w.heap.size w w' := by
  have h1 := less_any a b ha hb
  have h2 := less_any b a hb ha
  have hE := run_eqU a b ha hb
  have ta := top_int a ha
  have tb := top_int b hb
  by_cases hab : a = b
  · subst hab
    rw [ls_self] at h1
    simp only [decide_true] at hE
    exact order4_fft_vv a a _ h1 h1 hE hw ta ta w
  · rw [ls_one a b hab] at h2
    rw [decide_eq_false hab] at hE
    by_cases hs : ng a = ng b
    · rw [← hs] at tb
      cases hl : ls a b <;> rw [hl] at h1 h2
      · exact order4_ftf_vv a b _ h1 h2 hE hw ta tb w
      · exact order4_tff_vv a b _ h1 h2 hE hw ta tb w
    · rw [ls_signs a b hs] at h1 h2
      cases hp : ng a <;> cases hq : ng b <;> rw [hp] at ta h1 h2 <;> rw [hq] at tb
      · exact absurd (hp.trans hq.symm) hs
      · exact order4_ftf_01 a b h1 h2 hE hw ta tb w
      · exact order4_tff_10 a b h1 h2 hE hw ta tb w
      · exact absurd (hp.trans hq.symm) hs
end Go.Proofs.Ytbfgeinneglpdaa
