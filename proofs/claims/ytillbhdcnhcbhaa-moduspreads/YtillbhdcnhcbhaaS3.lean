/- The law ModuSpreads, walked. -/
import Derived.Test.YtillbhdcnhcbhaaMx
import Derived.Lib.QuietBelow
import Derived.BigQuiet
import Derived.WalkMore
namespace Go.Proofs.Ytillbhdcnhcbhaa
open Go.RowKit Go.Sort
set_option linter.unusedVariables false
attribute [local go_sem] run_eq4 run_eqU_same
structure CSA (w : World) (N0 : Nat) (a b c s p k : Nat) (listed : Array Bool) (vs : Nat → Value) (w' : World) : Prop where
  bw : Below w.heap.size w w'
  ms : N0 ≤ w'.heap.size
  R0 : HasRow w' (w.heap.size) #[B (l0 a), B (l1 a), B (l2 a), B (l3 a)]
  R1 : HasRow w' (w.heap.size + 1) #[B (l0 b), B (l1 b), B (l2 b), B (l3 b)]
  R2 : HasRow w' (w.heap.size + 1 + 1) #[B (l0 c), B (l1 c), B (l2 c), B (l3 c)]
  R3 : HasRow w' (w.heap.size + 1 + 1 + 1) #[.int .u64 0, .int .u64 0, .int .u64 0, .int .u64 0]
  c0 : listed.getD 0 false = true → vs 0 = U a
  c1 : listed.getD 1 false = true → vs 1 = U b
  c2 : listed.getD 2 false = true → vs 2 = U c
  c3 : listed.getD 3 false = true → vs 3 = I4 0 0 0 0
  c4 : listed.getD 4 false = true → vs 4 = U s
  c5 : listed.getD 5 false = true → vs 5 = I4 0 0 0 0
  c6 : listed.getD 6 false = true → vs 6 = I4 0 0 0 0
  c7 : listed.getD 7 false = true → ∃ g c, vs 7 = .pointer (some ⟨g, 0, none⟩) ∧ N0 ≤ g ∧ HasRow w' g c ∧ c.size = 4 ∧ (listed.getD 8 false = true → c = #[.int .u64 0, .int .u64 0, .int .u64 0, .int .u64 0])
  c8 : listed.getD 8 false = true → listed.getD 7 false = true
structure CSC (w : World) (N0 : Nat) (g9 : Nat) (a b c s p k : Nat) (listed : Array Bool) (vs : Nat → Value) (w' : World) : Prop where
  bw : Below w.heap.size w w'
  ms : N0 ≤ w'.heap.size
  R0 : HasRow w' (w.heap.size) #[B (l0 a), B (l1 a), B (l2 a), B (l3 a)]
  R1 : HasRow w' (w.heap.size + 1) #[B (l0 b), B (l1 b), B (l2 b), B (l3 b)]
  R2 : HasRow w' (w.heap.size + 1 + 1) #[B (l0 c), B (l1 c), B (l2 c), B (l3 c)]
  R3 : HasRow w' (w.heap.size + 1 + 1 + 1) #[.int .u64 0, .int .u64 0, .int .u64 0, .int .u64 0]
  R4 : HasRow w' (g9) #[.int .u64 0, .int .u64 0, .int .u64 0, .int .u64 0]
  c0 : listed.getD 0 false = true → vs 0 = U a
  c1 : listed.getD 1 false = true → vs 1 = U b
  c2 : listed.getD 2 false = true → vs 2 = I4 0 0 0 0
  c3 : listed.getD 3 false = true → vs 3 = U p
  c4 : listed.getD 4 false = true → vs 4 = U a
  c5 : listed.getD 5 false = true → vs 5 = U c
  c6 : listed.getD 6 false = true → vs 6 = I4 0 0 0 0
  c7 : listed.getD 7 false = true → vs 7 = U k
  c8 : listed.getD 8 false = true → vs 8 = I4 0 0 0 0
  c9 : listed.getD 9 false = true → vs 9 = I4 0 0 0 0
  c10 : listed.getD 10 false = true → ∃ g c, vs 10 = .pointer (some ⟨g, 0, none⟩) ∧ N0 ≤ g ∧ HasRow w' g c ∧ c.size = 4 ∧ (listed.getD 11 false = true → c = #[.int .u64 0, .int .u64 0, .int .u64 0, .int .u64 0])
  c11 : listed.getD 11 false = true → listed.getD 10 false = true

set_option maxRecDepth 100000 in
set_option maxHeartbeats 4000000 in
theorem spreads0_raw (a b c s p k t : Nat)
    (h1 : Hid (∀ w, Calls Try.prog 16 #[U b, U c, I4 0 0 0 0] w fun e w' => e = .returned (U s) ∧ Below w.heap.size w w'))
    (h2 : Hid (∀ w, Calls Try.prog 18 #[U a, U s, I4 0 0 0 0] w fun e w' => e = .returned (I4 0 0 0 0) ∧ Below w.heap.size w w'))
    (h3 : Hid (∀ w, Calls Try.prog 18 #[U a, U b, I4 0 0 0 0] w fun e w' => e = .returned (U p) ∧ Below w.heap.size w w'))
    (h4 : Hid (∀ w, Calls Try.prog 18 #[U a, U c, I4 0 0 0 0] w fun e w' => e = .returned (U k) ∧ Below w.heap.size w w'))
    (h5 : Hid (∀ w, Calls Try.prog 16 #[U p, U k, I4 0 0 0 0] w fun e w' => e = .returned (I4 0 0 0 0) ∧ Below w.heap.size w w'))
    (h6 : Hid (∀ w, Calls Try.prog 18 #[U b, U a, I4 0 0 0 0] w fun e w' => e = .returned (U p) ∧ Below w.heap.size w w'))
    (h7 : Hid (∀ w, Calls Try.prog 16 #[U a, U b, I4 0 0 0 0] w fun e w' => e = .returned (U t) ∧ Below w.heap.size w w'))
    (h8 : Hid (∀ w, Calls Try.prog 16 #[U b, U a, I4 0 0 0 0] w fun e w' => e = .returned (U t) ∧ Below w.heap.size w w'))
    (ha : Hid (∀ w, Calls Try.prog 24 #[] w fun e w' => e = .returned (.bool true) ∧ Below w.heap.size w w')) (w : World) :
    Calls Try.prog 7 #[U a, U b, U c, I4 0 0 0 0] w fun e w' => e = .returned (.bool true) ∧ Below w.heap.size w w' := by
  go_enter Try.func7, Try.ntmps7
  go_wp2_with fail
  refine name_world _ ?_
  intro wF hF0
  have r0 : Hid (HasRow wF (w.heap.size) #[B (l0 a), B (l1 a), B (l2 a), B (l3 a)]) := by rw [hF0]; exact (HasRow.old (HasRow.old (HasRow.old (HasRow.last rfl))))
  have r1 : Hid (HasRow wF (w.heap.size + 1) #[B (l0 b), B (l1 b), B (l2 b), B (l3 b)]) := by rw [hF0]; exact (HasRow.old (HasRow.old (HasRow.last (by simp))))
  have r2 : Hid (HasRow wF (w.heap.size + 1 + 1) #[B (l0 c), B (l1 c), B (l2 c), B (l3 c)]) := by rw [hF0]; exact (HasRow.old (HasRow.last (by simp)))
  have r3 : Hid (HasRow wF (w.heap.size + 1 + 1 + 1) #[.int .u64 0, .int .u64 0, .int .u64 0, .int .u64 0]) := by rw [hF0]; exact (HasRow.last (by simp))
  have rB : Hid (Below w.heap.size w wF) := by rw [hF0]; exact (by (repeat (first | exact Below.refl _ _ | refine bel_alloc ?_ _)))
  obtain ⟨N0, hN0⟩ : ∃ n, n = wF.heap.size := ⟨_, rfl⟩
  have hN : w.heap.size + 1 + 1 + 1 < N0 := by rw [hN0]; exact r3.out.lt
  clear hF0
  refine wp_region_vals2 (by kernel_rfl) (by kernel_rfl) (by kernel_rfl) (CSA w N0 a b c s p k) ?_ ?_ ?_
  · refine ⟨rB.out.drew, by rw [hN0]; exact Nat.le_refl _, r0.out, r1.out, r2.out, r3.out, ?_, ?_, ?_, ?_, ?_, ?_, ?_, ?_, ?_⟩ <;> (intro h; simp [Array.getD] at h)
  · intro listed vs a' w' i o' hs ho hi hF cc
    have hin : i < 9 := by have := (Array.getElem?_eq_some_iff.1 ho).1; simpa using this
    have hcase : i = 0 ∨ i = 1 ∨ i = 2 ∨ i = 3 ∨ i = 4 ∨ i = 5 ∨ i = 6 ∨ i = 7 ∨ i = 8 := by omega
    rcases hcase with rfl | rfl | rfl | rfl | rfl | rfl | rfl | rfl | rfl
    · simp at ho
      subst ho
      have T : ∀ j, j ≠ 0 → (listed.setIfInBounds 0 true).getD j false = true → listed.getD j false = true := fun j hj h => (done_set h).resolve_left hj
      have S : ∀ j, listed.getD j false = true → (listed.setIfInBounds 0 true).getD j false = true := fun j h => done_keep h
      exact wp_rowF 24 (.tmp 4) rfl (w.heap.size) ((hF.old (by kernel_rfl)).trans rfl) cc.R0 rfl Try.underlying24 (by kernel_rfl) ⟨_, rfl, ⟨cc.bw, cc.ms, cc.R0, cc.R1, cc.R2, cc.R3, fun _ => rfl, fun h => cc.c1 (T 1 (by decide) h), fun h => cc.c2 (T 2 (by decide) h), fun h => cc.c3 (T 3 (by decide) h), fun h => cc.c4 (T 4 (by decide) h), fun h => cc.c5 (T 5 (by decide) h), fun h => cc.c6 (T 6 (by decide) h), fun h => by obtain ⟨g', c', e', k1, k2, k3, k4⟩ := cc.c7 (T 7 (by decide) h); exact ⟨g', c', e', k1, k2, k3, fun h6 => k4 (T 8 (by decide) h6)⟩, fun h => S 7 (cc.c8 (T 8 (by decide) h))⟩⟩
    · simp at ho
      subst ho
      have T : ∀ j, j ≠ 1 → (listed.setIfInBounds 1 true).getD j false = true → listed.getD j false = true := fun j hj h => (done_set h).resolve_left hj
      have S : ∀ j, listed.getD j false = true → (listed.setIfInBounds 1 true).getD j false = true := fun j h => done_keep h
      exact wp_rowF 24 (.tmp 5) rfl (w.heap.size + 1) ((hF.old (by kernel_rfl)).trans rfl) cc.R1 rfl Try.underlying24 (by kernel_rfl) ⟨_, rfl, ⟨cc.bw, cc.ms, cc.R0, cc.R1, cc.R2, cc.R3, fun h => cc.c0 (T 0 (by decide) h), fun _ => rfl, fun h => cc.c2 (T 2 (by decide) h), fun h => cc.c3 (T 3 (by decide) h), fun h => cc.c4 (T 4 (by decide) h), fun h => cc.c5 (T 5 (by decide) h), fun h => cc.c6 (T 6 (by decide) h), fun h => by obtain ⟨g', c', e', k1, k2, k3, k4⟩ := cc.c7 (T 7 (by decide) h); exact ⟨g', c', e', k1, k2, k3, fun h6 => k4 (T 8 (by decide) h6)⟩, fun h => S 7 (cc.c8 (T 8 (by decide) h))⟩⟩
    · simp at ho
      subst ho
      have T : ∀ j, j ≠ 2 → (listed.setIfInBounds 2 true).getD j false = true → listed.getD j false = true := fun j hj h => (done_set h).resolve_left hj
      have S : ∀ j, listed.getD j false = true → (listed.setIfInBounds 2 true).getD j false = true := fun j h => done_keep h
      exact wp_rowF 24 (.tmp 6) rfl (w.heap.size + 1 + 1) ((hF.old (by kernel_rfl)).trans rfl) cc.R2 rfl Try.underlying24 (by kernel_rfl) ⟨_, rfl, ⟨cc.bw, cc.ms, cc.R0, cc.R1, cc.R2, cc.R3, fun h => cc.c0 (T 0 (by decide) h), fun h => cc.c1 (T 1 (by decide) h), fun _ => rfl, fun h => cc.c3 (T 3 (by decide) h), fun h => cc.c4 (T 4 (by decide) h), fun h => cc.c5 (T 5 (by decide) h), fun h => cc.c6 (T 6 (by decide) h), fun h => by obtain ⟨g', c', e', k1, k2, k3, k4⟩ := cc.c7 (T 7 (by decide) h); exact ⟨g', c', e', k1, k2, k3, fun h6 => k4 (T 8 (by decide) h6)⟩, fun h => S 7 (cc.c8 (T 8 (by decide) h))⟩⟩
    · simp at ho
      subst ho
      have T : ∀ j, j ≠ 3 → (listed.setIfInBounds 3 true).getD j false = true → listed.getD j false = true := fun j hj h => (done_set h).resolve_left hj
      have S : ∀ j, listed.getD j false = true → (listed.setIfInBounds 3 true).getD j false = true := fun j h => done_keep h
      exact wp_rowF 24 (.tmp 7) rfl (w.heap.size + 1 + 1 + 1) ((hF.old (by kernel_rfl)).trans rfl) cc.R3 rfl Try.underlying24 (by kernel_rfl) ⟨_, rfl, ⟨cc.bw, cc.ms, cc.R0, cc.R1, cc.R2, cc.R3, fun h => cc.c0 (T 0 (by decide) h), fun h => cc.c1 (T 1 (by decide) h), fun h => cc.c2 (T 2 (by decide) h), fun _ => rfl, fun h => cc.c4 (T 4 (by decide) h), fun h => cc.c5 (T 5 (by decide) h), fun h => cc.c6 (T 6 (by decide) h), fun h => by obtain ⟨g', c', e', k1, k2, k3, k4⟩ := cc.c7 (T 7 (by decide) h); exact ⟨g', c', e', k1, k2, k3, fun h6 => k4 (T 8 (by decide) h6)⟩, fun h => S 7 (cc.c8 (T 8 (by decide) h))⟩⟩
    · simp at ho
      subst ho
      have T : ∀ j, j ≠ 4 → (listed.setIfInBounds 4 true).getD j false = true → listed.getD j false = true := fun j hj h => (done_set h).resolve_left hj
      have S : ∀ j, listed.getD j false = true → (listed.setIfInBounds 4 true).getD j false = true := fun j h => done_keep h
      have hv0 := ((hF.new (t := 12) (i := 1) (by kernel_rfl) (by simp) (waits_done (i := 4) (j := 1) (by kernel_rfl) hi)).trans (cc.c1 (waits_done (i := 4) (j := 1) (by kernel_rfl) hi)))
      have hv1 := ((hF.new (t := 13) (i := 2) (by kernel_rfl) (by simp) (waits_done (i := 4) (j := 2) (by kernel_rfl) hi)).trans (cc.c2 (waits_done (i := 4) (j := 2) (by kernel_rfl) hi)))
      have hv2 := ((hF.new (t := 14) (i := 3) (by kernel_rfl) (by simp) (waits_done (i := 4) (j := 3) (by kernel_rfl) hi)).trans (cc.c3 (waits_done (i := 4) (j := 3) (by kernel_rfl) hi)))
      refine wp_callF (f := 16) (args := #[U b, U c, I4 0 0 0 0]) (v := U s) (by simp [execOp_call_go, ev hv0, ev hv1, ev hv2, go_sem]) (h1.out w') ?_
      intro w'' hb''
      exact ⟨_, rfl, ⟨cc.bw.trans (hb''.mono cc.bw.size), Nat.le_trans cc.ms hb''.size, cc.R0.below hb'', cc.R1.below hb'', cc.R2.below hb'', cc.R3.below hb'', fun h => cc.c0 (T 0 (by decide) h), fun h => cc.c1 (T 1 (by decide) h), fun h => cc.c2 (T 2 (by decide) h), fun h => cc.c3 (T 3 (by decide) h), fun _ => rfl, fun h => cc.c5 (T 5 (by decide) h), fun h => cc.c6 (T 6 (by decide) h), fun h => by obtain ⟨g', c', e', k1, k2, k3, k4⟩ := cc.c7 (T 7 (by decide) h); exact ⟨g', c', e', k1, k2.below hb'', k3, fun h6 => k4 (T 8 (by decide) h6)⟩, fun h => S 7 (cc.c8 (T 8 (by decide) h))⟩⟩
    · simp at ho
      subst ho
      have T : ∀ j, j ≠ 5 → (listed.setIfInBounds 5 true).getD j false = true → listed.getD j false = true := fun j hj h => (done_set h).resolve_left hj
      have S : ∀ j, listed.getD j false = true → (listed.setIfInBounds 5 true).getD j false = true := fun j h => done_keep h
      exact wp_rowF 24 (.tmp 7) rfl (w.heap.size + 1 + 1 + 1) ((hF.old (by kernel_rfl)).trans rfl) cc.R3 rfl Try.underlying24 (by kernel_rfl) ⟨_, rfl, ⟨cc.bw, cc.ms, cc.R0, cc.R1, cc.R2, cc.R3, fun h => cc.c0 (T 0 (by decide) h), fun h => cc.c1 (T 1 (by decide) h), fun h => cc.c2 (T 2 (by decide) h), fun h => cc.c3 (T 3 (by decide) h), fun h => cc.c4 (T 4 (by decide) h), fun _ => rfl, fun h => cc.c6 (T 6 (by decide) h), fun h => by obtain ⟨g', c', e', k1, k2, k3, k4⟩ := cc.c7 (T 7 (by decide) h); exact ⟨g', c', e', k1, k2, k3, fun h6 => k4 (T 8 (by decide) h6)⟩, fun h => S 7 (cc.c8 (T 8 (by decide) h))⟩⟩
    · simp at ho
      subst ho
      have T : ∀ j, j ≠ 6 → (listed.setIfInBounds 6 true).getD j false = true → listed.getD j false = true := fun j hj h => (done_set h).resolve_left hj
      have S : ∀ j, listed.getD j false = true → (listed.setIfInBounds 6 true).getD j false = true := fun j h => done_keep h
      have hv0 := ((hF.new (t := 11) (i := 0) (by kernel_rfl) (by simp) (waits_done (i := 6) (j := 0) (by kernel_rfl) hi)).trans (cc.c0 (waits_done (i := 6) (j := 0) (by kernel_rfl) hi)))
      have hv1 := ((hF.new (t := 15) (i := 4) (by kernel_rfl) (by simp) (waits_done (i := 6) (j := 4) (by kernel_rfl) hi)).trans (cc.c4 (waits_done (i := 6) (j := 4) (by kernel_rfl) hi)))
      have hv2 := ((hF.new (t := 16) (i := 5) (by kernel_rfl) (by simp) (waits_done (i := 6) (j := 5) (by kernel_rfl) hi)).trans (cc.c5 (waits_done (i := 6) (j := 5) (by kernel_rfl) hi)))
      refine wp_callF (f := 18) (args := #[U a, U s, I4 0 0 0 0]) (v := I4 0 0 0 0) (by simp [execOp_call_go, ev hv0, ev hv1, ev hv2, go_sem]) (h2.out w') ?_
      intro w'' hb''
      exact ⟨_, rfl, ⟨cc.bw.trans (hb''.mono cc.bw.size), Nat.le_trans cc.ms hb''.size, cc.R0.below hb'', cc.R1.below hb'', cc.R2.below hb'', cc.R3.below hb'', fun h => cc.c0 (T 0 (by decide) h), fun h => cc.c1 (T 1 (by decide) h), fun h => cc.c2 (T 2 (by decide) h), fun h => cc.c3 (T 3 (by decide) h), fun h => cc.c4 (T 4 (by decide) h), fun h => cc.c5 (T 5 (by decide) h), fun _ => rfl, fun h => by obtain ⟨g', c', e', k1, k2, k3, k4⟩ := cc.c7 (T 7 (by decide) h); exact ⟨g', c', e', k1, k2.below hb'', k3, fun h6 => k4 (T 8 (by decide) h6)⟩, fun h => S 7 (cc.c8 (T 8 (by decide) h))⟩⟩
    · simp at ho
      subst ho
      have T : ∀ j, j ≠ 7 → (listed.setIfInBounds 7 true).getD j false = true → listed.getD j false = true := fun j hj h => (done_set h).resolve_left hj
      have S : ∀ j, listed.getD j false = true → (listed.setIfInBounds 7 true).getD j false = true := fun j h => done_keep h
      have hun : ¬ listed.getD 7 false = true := fun h => undone hi hs h
      exact wp_valF (v := .pointer (some ⟨w'.heap.size, 0, none⟩)) (w1 := w'.alloc (.cells #[.int .u64 0, .int .u64 0, .int .u64 0, .int .u64 0] 24)) (by simp [execOp, go_sem]) ⟨_, rfl, ⟨bel_alloc cc.bw _, by have := cc.ms; simp; omega, cc.R0.old, cc.R1.old, cc.R2.old, cc.R3.old, fun h => cc.c0 (T 0 (by decide) h), fun h => cc.c1 (T 1 (by decide) h), fun h => cc.c2 (T 2 (by decide) h), fun h => cc.c3 (T 3 (by decide) h), fun h => cc.c4 (T 4 (by decide) h), fun h => cc.c5 (T 5 (by decide) h), fun h => cc.c6 (T 6 (by decide) h), fun _ => ⟨w'.heap.size, #[.int .u64 0, .int .u64 0, .int .u64 0, .int .u64 0], rfl, cc.ms, HasRow.last rfl, rfl, fun h6 => absurd (cc.c8 (T 8 (by decide) h6)) hun⟩, fun h => S 7 (cc.c8 (T 8 (by decide) h))⟩⟩
    · simp at ho
      subst ho
      have T : ∀ j, j ≠ 8 → (listed.setIfInBounds 8 true).getD j false = true → listed.getD j false = true := fun j hj h => (done_set h).resolve_left hj
      have S : ∀ j, listed.getD j false = true → (listed.setIfInBounds 8 true).getD j false = true := fun j h => done_keep h
      have d4 := (waits_done (i := 8) (j := 7) (by kernel_rfl) hi)
      obtain ⟨g, c, e, h1, h2, h3, h4⟩ := cc.c7 d4
      have hx := (hF.new (t := 9) (i := 7) (by kernel_rfl) (by simp) d4).trans e
      have hv := ((hF.new (t := 17) (i := 6) (by kernel_rfl) (by simp) (waits_done (i := 8) (j := 6) (by kernel_rfl) hi)).trans (cc.c6 (waits_done (i := 8) (j := 6) (by kernel_rfl) hi)))
      exact wp_rowS 24 (.tmp 9) (.tmp 17) rfl g (c' := #[.int .u64 0, .int .u64 0, .int .u64 0, .int .u64 0]) hx hv h2 h3 rfl (by simp [Value.oneCell']) (by kernel_rfl) ⟨_, rfl, ⟨below_setRow cc.bw (by omega) _, by rw [size_setRow]; exact cc.ms, cc.R0.set_other _ (by omega), cc.R1.set_other _ (by omega), cc.R2.set_other _ (by omega), cc.R3.set_other _ (by omega), fun h => cc.c0 (T 0 (by decide) h), fun h => cc.c1 (T 1 (by decide) h), fun h => cc.c2 (T 2 (by decide) h), fun h => cc.c3 (T 3 (by decide) h), fun h => cc.c4 (T 4 (by decide) h), fun h => cc.c5 (T 5 (by decide) h), fun h => cc.c6 (T 6 (by decide) h), fun h => ⟨g, _, e, h1, h2.set_same _, rfl, fun _ => rfl⟩, fun _ => S 7 d4⟩⟩
  · intro listed vs a' w' hd hF cc

    have e : a' = ({ tmps := #[U a, U b, U c, I4 0 0 0 0, .pointer (some ⟨w.heap.size, 0, none⟩), .pointer (some ⟨w.heap.size + 1, 0, none⟩), .pointer (some ⟨w.heap.size + 1 + 1, 0, none⟩), .pointer (some ⟨w.heap.size + 1 + 1 + 1, 0, none⟩), .bool false, vs 7, undef, vs 0, vs 1, vs 2, vs 3, vs 4, vs 5, vs 6, undef, undef, undef, undef, undef, undef, undef, undef, undef, undef, undef, undef, undef, undef, undef, undef, undef, undef, undef, undef, undef, undef, undef, undef, undef, undef, undef, undef, undef, undef, undef, undef, undef, undef, undef, undef, undef, undef, undef, undef, undef, undef, undef, undef, undef, undef, undef, undef, undef, undef, undef, undef, undef, undef], defers := [] } : Act) := (hF.all hd).trans (by kernel_rfl)
    subst e
    obtain ⟨g9, c9, e9, a1, a2, a3, a4⟩ := cc.c7 (hd 7 (by simp))
    have V1 : Hid (HasRow w' (w.heap.size) #[B (l0 a), B (l1 a), B (l2 a), B (l3 a)] ∧ HasRow w' (w.heap.size + 1) #[B (l0 b), B (l1 b), B (l2 b), B (l3 b)] ∧ HasRow w' (w.heap.size + 1 + 1) #[B (l0 c), B (l1 c), B (l2 c), B (l3 c)] ∧ HasRow w' (w.heap.size + 1 + 1 + 1) #[.int .u64 0, .int .u64 0, .int .u64 0, .int .u64 0] ∧ HasRow w' g9 #[.int .u64 0, .int .u64 0, .int .u64 0, .int .u64 0] ∧ Below w.heap.size w w') := ⟨cc.R0, cc.R1, cc.R2, cc.R3, a4 (hd 8 (by simp)) ▸ a2, cc.bw⟩
    rw [e9]
    generalize vs 0 = p11
    generalize vs 1 = p12
    generalize vs 2 = p13
    generalize vs 3 = p14
    generalize vs 4 = p15
    generalize vs 5 = p16
    generalize vs 6 = p17
    clear cc hd hF e9 a1 a2 a3 a4 hN hN0
    go_wp2_with fail
    generalize w' = wA at *
    obtain ⟨N1, hN1⟩ : ∃ n, n = wA.heap.size := ⟨_, rfl⟩
    have hN : w.heap.size + 1 + 1 + 1 < N1 := by rw [hN1]; exact V1.out.2.2.2.1.lt
    have hN9 : g9 < N1 := by rw [hN1]; exact V1.out.2.2.2.2.1.lt
    refine wp_region_vals2 (by kernel_rfl) (by kernel_rfl) (by kernel_rfl) (CSC w N1 g9 a b c s p k) ?_ ?_ ?_
    · refine ⟨V1.out.2.2.2.2.2.drew, by rw [hN1]; exact Nat.le_refl _, V1.out.1, V1.out.2.1, V1.out.2.2.1, V1.out.2.2.2.1, V1.out.2.2.2.2.1, ?_, ?_, ?_, ?_, ?_, ?_, ?_, ?_, ?_, ?_, ?_, ?_⟩ <;> (intro h; simp [Array.getD] at h)
    · intro listed vs a' w' i o' hs ho hi hF cc
      have hin : i < 12 := by have := (Array.getElem?_eq_some_iff.1 ho).1; simpa using this
      have hcase : i = 0 ∨ i = 1 ∨ i = 2 ∨ i = 3 ∨ i = 4 ∨ i = 5 ∨ i = 6 ∨ i = 7 ∨ i = 8 ∨ i = 9 ∨ i = 10 ∨ i = 11 := by omega
      rcases hcase with rfl | rfl | rfl | rfl | rfl | rfl | rfl | rfl | rfl | rfl | rfl | rfl
      · simp at ho
        subst ho
        have T : ∀ j, j ≠ 0 → (listed.setIfInBounds 0 true).getD j false = true → listed.getD j false = true := fun j hj h => (done_set h).resolve_left hj
        have S : ∀ j, listed.getD j false = true → (listed.setIfInBounds 0 true).getD j false = true := fun j h => done_keep h
        exact wp_rowF 24 (.tmp 4) rfl (w.heap.size) ((hF.old (by kernel_rfl)).trans rfl) cc.R0 rfl Try.underlying24 (by kernel_rfl) ⟨_, rfl, ⟨cc.bw, cc.ms, cc.R0, cc.R1, cc.R2, cc.R3, cc.R4, fun _ => rfl, fun h => cc.c1 (T 1 (by decide) h), fun h => cc.c2 (T 2 (by decide) h), fun h => cc.c3 (T 3 (by decide) h), fun h => cc.c4 (T 4 (by decide) h), fun h => cc.c5 (T 5 (by decide) h), fun h => cc.c6 (T 6 (by decide) h), fun h => cc.c7 (T 7 (by decide) h), fun h => cc.c8 (T 8 (by decide) h), fun h => cc.c9 (T 9 (by decide) h), fun h => by obtain ⟨g', c', e', k1, k2, k3, k4⟩ := cc.c10 (T 10 (by decide) h); exact ⟨g', c', e', k1, k2, k3, fun h6 => k4 (T 11 (by decide) h6)⟩, fun h => S 10 (cc.c11 (T 11 (by decide) h))⟩⟩
      · simp at ho
        subst ho
        have T : ∀ j, j ≠ 1 → (listed.setIfInBounds 1 true).getD j false = true → listed.getD j false = true := fun j hj h => (done_set h).resolve_left hj
        have S : ∀ j, listed.getD j false = true → (listed.setIfInBounds 1 true).getD j false = true := fun j h => done_keep h
        exact wp_rowF 24 (.tmp 5) rfl (w.heap.size + 1) ((hF.old (by kernel_rfl)).trans rfl) cc.R1 rfl Try.underlying24 (by kernel_rfl) ⟨_, rfl, ⟨cc.bw, cc.ms, cc.R0, cc.R1, cc.R2, cc.R3, cc.R4, fun h => cc.c0 (T 0 (by decide) h), fun _ => rfl, fun h => cc.c2 (T 2 (by decide) h), fun h => cc.c3 (T 3 (by decide) h), fun h => cc.c4 (T 4 (by decide) h), fun h => cc.c5 (T 5 (by decide) h), fun h => cc.c6 (T 6 (by decide) h), fun h => cc.c7 (T 7 (by decide) h), fun h => cc.c8 (T 8 (by decide) h), fun h => cc.c9 (T 9 (by decide) h), fun h => by obtain ⟨g', c', e', k1, k2, k3, k4⟩ := cc.c10 (T 10 (by decide) h); exact ⟨g', c', e', k1, k2, k3, fun h6 => k4 (T 11 (by decide) h6)⟩, fun h => S 10 (cc.c11 (T 11 (by decide) h))⟩⟩
      · simp at ho
        subst ho
        have T : ∀ j, j ≠ 2 → (listed.setIfInBounds 2 true).getD j false = true → listed.getD j false = true := fun j hj h => (done_set h).resolve_left hj
        have S : ∀ j, listed.getD j false = true → (listed.setIfInBounds 2 true).getD j false = true := fun j h => done_keep h
        exact wp_rowF 24 (.tmp 7) rfl (w.heap.size + 1 + 1 + 1) ((hF.old (by kernel_rfl)).trans rfl) cc.R3 rfl Try.underlying24 (by kernel_rfl) ⟨_, rfl, ⟨cc.bw, cc.ms, cc.R0, cc.R1, cc.R2, cc.R3, cc.R4, fun h => cc.c0 (T 0 (by decide) h), fun h => cc.c1 (T 1 (by decide) h), fun _ => rfl, fun h => cc.c3 (T 3 (by decide) h), fun h => cc.c4 (T 4 (by decide) h), fun h => cc.c5 (T 5 (by decide) h), fun h => cc.c6 (T 6 (by decide) h), fun h => cc.c7 (T 7 (by decide) h), fun h => cc.c8 (T 8 (by decide) h), fun h => cc.c9 (T 9 (by decide) h), fun h => by obtain ⟨g', c', e', k1, k2, k3, k4⟩ := cc.c10 (T 10 (by decide) h); exact ⟨g', c', e', k1, k2, k3, fun h6 => k4 (T 11 (by decide) h6)⟩, fun h => S 10 (cc.c11 (T 11 (by decide) h))⟩⟩
      · simp at ho
        subst ho
        have T : ∀ j, j ≠ 3 → (listed.setIfInBounds 3 true).getD j false = true → listed.getD j false = true := fun j hj h => (done_set h).resolve_left hj
        have S : ∀ j, listed.getD j false = true → (listed.setIfInBounds 3 true).getD j false = true := fun j h => done_keep h
        have hv0 := ((hF.new (t := 18) (i := 0) (by kernel_rfl) (by simp) (waits_done (i := 3) (j := 0) (by kernel_rfl) hi)).trans (cc.c0 (waits_done (i := 3) (j := 0) (by kernel_rfl) hi)))
        have hv1 := ((hF.new (t := 19) (i := 1) (by kernel_rfl) (by simp) (waits_done (i := 3) (j := 1) (by kernel_rfl) hi)).trans (cc.c1 (waits_done (i := 3) (j := 1) (by kernel_rfl) hi)))
        have hv2 := ((hF.new (t := 20) (i := 2) (by kernel_rfl) (by simp) (waits_done (i := 3) (j := 2) (by kernel_rfl) hi)).trans (cc.c2 (waits_done (i := 3) (j := 2) (by kernel_rfl) hi)))
        refine wp_callF (f := 18) (args := #[U a, U b, I4 0 0 0 0]) (v := U p) (by simp [execOp_call_go, ev hv0, ev hv1, ev hv2, go_sem]) (h3.out w') ?_
        intro w'' hb''
        exact ⟨_, rfl, ⟨cc.bw.trans (hb''.mono cc.bw.size), Nat.le_trans cc.ms hb''.size, cc.R0.below hb'', cc.R1.below hb'', cc.R2.below hb'', cc.R3.below hb'', cc.R4.below hb'', fun h => cc.c0 (T 0 (by decide) h), fun h => cc.c1 (T 1 (by decide) h), fun h => cc.c2 (T 2 (by decide) h), fun _ => rfl, fun h => cc.c4 (T 4 (by decide) h), fun h => cc.c5 (T 5 (by decide) h), fun h => cc.c6 (T 6 (by decide) h), fun h => cc.c7 (T 7 (by decide) h), fun h => cc.c8 (T 8 (by decide) h), fun h => cc.c9 (T 9 (by decide) h), fun h => by obtain ⟨g', c', e', k1, k2, k3, k4⟩ := cc.c10 (T 10 (by decide) h); exact ⟨g', c', e', k1, k2.below hb'', k3, fun h6 => k4 (T 11 (by decide) h6)⟩, fun h => S 10 (cc.c11 (T 11 (by decide) h))⟩⟩
      · simp at ho
        subst ho
        have T : ∀ j, j ≠ 4 → (listed.setIfInBounds 4 true).getD j false = true → listed.getD j false = true := fun j hj h => (done_set h).resolve_left hj
        have S : ∀ j, listed.getD j false = true → (listed.setIfInBounds 4 true).getD j false = true := fun j h => done_keep h
        exact wp_rowF 24 (.tmp 4) rfl (w.heap.size) ((hF.old (by kernel_rfl)).trans rfl) cc.R0 rfl Try.underlying24 (by kernel_rfl) ⟨_, rfl, ⟨cc.bw, cc.ms, cc.R0, cc.R1, cc.R2, cc.R3, cc.R4, fun h => cc.c0 (T 0 (by decide) h), fun h => cc.c1 (T 1 (by decide) h), fun h => cc.c2 (T 2 (by decide) h), fun h => cc.c3 (T 3 (by decide) h), fun _ => rfl, fun h => cc.c5 (T 5 (by decide) h), fun h => cc.c6 (T 6 (by decide) h), fun h => cc.c7 (T 7 (by decide) h), fun h => cc.c8 (T 8 (by decide) h), fun h => cc.c9 (T 9 (by decide) h), fun h => by obtain ⟨g', c', e', k1, k2, k3, k4⟩ := cc.c10 (T 10 (by decide) h); exact ⟨g', c', e', k1, k2, k3, fun h6 => k4 (T 11 (by decide) h6)⟩, fun h => S 10 (cc.c11 (T 11 (by decide) h))⟩⟩
      · simp at ho
        subst ho
        have T : ∀ j, j ≠ 5 → (listed.setIfInBounds 5 true).getD j false = true → listed.getD j false = true := fun j hj h => (done_set h).resolve_left hj
        have S : ∀ j, listed.getD j false = true → (listed.setIfInBounds 5 true).getD j false = true := fun j h => done_keep h
        exact wp_rowF 24 (.tmp 6) rfl (w.heap.size + 1 + 1) ((hF.old (by kernel_rfl)).trans rfl) cc.R2 rfl Try.underlying24 (by kernel_rfl) ⟨_, rfl, ⟨cc.bw, cc.ms, cc.R0, cc.R1, cc.R2, cc.R3, cc.R4, fun h => cc.c0 (T 0 (by decide) h), fun h => cc.c1 (T 1 (by decide) h), fun h => cc.c2 (T 2 (by decide) h), fun h => cc.c3 (T 3 (by decide) h), fun h => cc.c4 (T 4 (by decide) h), fun _ => rfl, fun h => cc.c6 (T 6 (by decide) h), fun h => cc.c7 (T 7 (by decide) h), fun h => cc.c8 (T 8 (by decide) h), fun h => cc.c9 (T 9 (by decide) h), fun h => by obtain ⟨g', c', e', k1, k2, k3, k4⟩ := cc.c10 (T 10 (by decide) h); exact ⟨g', c', e', k1, k2, k3, fun h6 => k4 (T 11 (by decide) h6)⟩, fun h => S 10 (cc.c11 (T 11 (by decide) h))⟩⟩
      · simp at ho
        subst ho
        have T : ∀ j, j ≠ 6 → (listed.setIfInBounds 6 true).getD j false = true → listed.getD j false = true := fun j hj h => (done_set h).resolve_left hj
        have S : ∀ j, listed.getD j false = true → (listed.setIfInBounds 6 true).getD j false = true := fun j h => done_keep h
        exact wp_rowF 24 (.tmp 7) rfl (w.heap.size + 1 + 1 + 1) ((hF.old (by kernel_rfl)).trans rfl) cc.R3 rfl Try.underlying24 (by kernel_rfl) ⟨_, rfl, ⟨cc.bw, cc.ms, cc.R0, cc.R1, cc.R2, cc.R3, cc.R4, fun h => cc.c0 (T 0 (by decide) h), fun h => cc.c1 (T 1 (by decide) h), fun h => cc.c2 (T 2 (by decide) h), fun h => cc.c3 (T 3 (by decide) h), fun h => cc.c4 (T 4 (by decide) h), fun h => cc.c5 (T 5 (by decide) h), fun _ => rfl, fun h => cc.c7 (T 7 (by decide) h), fun h => cc.c8 (T 8 (by decide) h), fun h => cc.c9 (T 9 (by decide) h), fun h => by obtain ⟨g', c', e', k1, k2, k3, k4⟩ := cc.c10 (T 10 (by decide) h); exact ⟨g', c', e', k1, k2, k3, fun h6 => k4 (T 11 (by decide) h6)⟩, fun h => S 10 (cc.c11 (T 11 (by decide) h))⟩⟩
      · simp at ho
        subst ho
        have T : ∀ j, j ≠ 7 → (listed.setIfInBounds 7 true).getD j false = true → listed.getD j false = true := fun j hj h => (done_set h).resolve_left hj
        have S : ∀ j, listed.getD j false = true → (listed.setIfInBounds 7 true).getD j false = true := fun j h => done_keep h
        have hv0 := ((hF.new (t := 22) (i := 4) (by kernel_rfl) (by simp) (waits_done (i := 7) (j := 4) (by kernel_rfl) hi)).trans (cc.c4 (waits_done (i := 7) (j := 4) (by kernel_rfl) hi)))
        have hv1 := ((hF.new (t := 23) (i := 5) (by kernel_rfl) (by simp) (waits_done (i := 7) (j := 5) (by kernel_rfl) hi)).trans (cc.c5 (waits_done (i := 7) (j := 5) (by kernel_rfl) hi)))
        have hv2 := ((hF.new (t := 24) (i := 6) (by kernel_rfl) (by simp) (waits_done (i := 7) (j := 6) (by kernel_rfl) hi)).trans (cc.c6 (waits_done (i := 7) (j := 6) (by kernel_rfl) hi)))
        refine wp_callF (f := 18) (args := #[U a, U c, I4 0 0 0 0]) (v := U k) (by simp [execOp_call_go, ev hv0, ev hv1, ev hv2, go_sem]) (h4.out w') ?_
        intro w'' hb''
        exact ⟨_, rfl, ⟨cc.bw.trans (hb''.mono cc.bw.size), Nat.le_trans cc.ms hb''.size, cc.R0.below hb'', cc.R1.below hb'', cc.R2.below hb'', cc.R3.below hb'', cc.R4.below hb'', fun h => cc.c0 (T 0 (by decide) h), fun h => cc.c1 (T 1 (by decide) h), fun h => cc.c2 (T 2 (by decide) h), fun h => cc.c3 (T 3 (by decide) h), fun h => cc.c4 (T 4 (by decide) h), fun h => cc.c5 (T 5 (by decide) h), fun h => cc.c6 (T 6 (by decide) h), fun _ => rfl, fun h => cc.c8 (T 8 (by decide) h), fun h => cc.c9 (T 9 (by decide) h), fun h => by obtain ⟨g', c', e', k1, k2, k3, k4⟩ := cc.c10 (T 10 (by decide) h); exact ⟨g', c', e', k1, k2.below hb'', k3, fun h6 => k4 (T 11 (by decide) h6)⟩, fun h => S 10 (cc.c11 (T 11 (by decide) h))⟩⟩
      · simp at ho
        subst ho
        have T : ∀ j, j ≠ 8 → (listed.setIfInBounds 8 true).getD j false = true → listed.getD j false = true := fun j hj h => (done_set h).resolve_left hj
        have S : ∀ j, listed.getD j false = true → (listed.setIfInBounds 8 true).getD j false = true := fun j h => done_keep h
        exact wp_rowF 24 (.tmp 7) rfl (w.heap.size + 1 + 1 + 1) ((hF.old (by kernel_rfl)).trans rfl) cc.R3 rfl Try.underlying24 (by kernel_rfl) ⟨_, rfl, ⟨cc.bw, cc.ms, cc.R0, cc.R1, cc.R2, cc.R3, cc.R4, fun h => cc.c0 (T 0 (by decide) h), fun h => cc.c1 (T 1 (by decide) h), fun h => cc.c2 (T 2 (by decide) h), fun h => cc.c3 (T 3 (by decide) h), fun h => cc.c4 (T 4 (by decide) h), fun h => cc.c5 (T 5 (by decide) h), fun h => cc.c6 (T 6 (by decide) h), fun h => cc.c7 (T 7 (by decide) h), fun _ => rfl, fun h => cc.c9 (T 9 (by decide) h), fun h => by obtain ⟨g', c', e', k1, k2, k3, k4⟩ := cc.c10 (T 10 (by decide) h); exact ⟨g', c', e', k1, k2, k3, fun h6 => k4 (T 11 (by decide) h6)⟩, fun h => S 10 (cc.c11 (T 11 (by decide) h))⟩⟩
      · simp at ho
        subst ho
        have T : ∀ j, j ≠ 9 → (listed.setIfInBounds 9 true).getD j false = true → listed.getD j false = true := fun j hj h => (done_set h).resolve_left hj
        have S : ∀ j, listed.getD j false = true → (listed.setIfInBounds 9 true).getD j false = true := fun j h => done_keep h
        have hv0 := ((hF.new (t := 21) (i := 3) (by kernel_rfl) (by simp) (waits_done (i := 9) (j := 3) (by kernel_rfl) hi)).trans (cc.c3 (waits_done (i := 9) (j := 3) (by kernel_rfl) hi)))
        have hv1 := ((hF.new (t := 25) (i := 7) (by kernel_rfl) (by simp) (waits_done (i := 9) (j := 7) (by kernel_rfl) hi)).trans (cc.c7 (waits_done (i := 9) (j := 7) (by kernel_rfl) hi)))
        have hv2 := ((hF.new (t := 26) (i := 8) (by kernel_rfl) (by simp) (waits_done (i := 9) (j := 8) (by kernel_rfl) hi)).trans (cc.c8 (waits_done (i := 9) (j := 8) (by kernel_rfl) hi)))
        refine wp_callF (f := 16) (args := #[U p, U k, I4 0 0 0 0]) (v := I4 0 0 0 0) (by simp [execOp_call_go, ev hv0, ev hv1, ev hv2, go_sem]) (h5.out w') ?_
        intro w'' hb''
        exact ⟨_, rfl, ⟨cc.bw.trans (hb''.mono cc.bw.size), Nat.le_trans cc.ms hb''.size, cc.R0.below hb'', cc.R1.below hb'', cc.R2.below hb'', cc.R3.below hb'', cc.R4.below hb'', fun h => cc.c0 (T 0 (by decide) h), fun h => cc.c1 (T 1 (by decide) h), fun h => cc.c2 (T 2 (by decide) h), fun h => cc.c3 (T 3 (by decide) h), fun h => cc.c4 (T 4 (by decide) h), fun h => cc.c5 (T 5 (by decide) h), fun h => cc.c6 (T 6 (by decide) h), fun h => cc.c7 (T 7 (by decide) h), fun h => cc.c8 (T 8 (by decide) h), fun _ => rfl, fun h => by obtain ⟨g', c', e', k1, k2, k3, k4⟩ := cc.c10 (T 10 (by decide) h); exact ⟨g', c', e', k1, k2.below hb'', k3, fun h6 => k4 (T 11 (by decide) h6)⟩, fun h => S 10 (cc.c11 (T 11 (by decide) h))⟩⟩
      · simp at ho
        subst ho
        have T : ∀ j, j ≠ 10 → (listed.setIfInBounds 10 true).getD j false = true → listed.getD j false = true := fun j hj h => (done_set h).resolve_left hj
        have S : ∀ j, listed.getD j false = true → (listed.setIfInBounds 10 true).getD j false = true := fun j h => done_keep h
        have hun : ¬ listed.getD 10 false = true := fun h => undone hi hs h
        exact wp_valF (v := .pointer (some ⟨w'.heap.size, 0, none⟩)) (w1 := w'.alloc (.cells #[.int .u64 0, .int .u64 0, .int .u64 0, .int .u64 0] 24)) (by simp [execOp, go_sem]) ⟨_, rfl, ⟨bel_alloc cc.bw _, by have := cc.ms; simp; omega, cc.R0.old, cc.R1.old, cc.R2.old, cc.R3.old, cc.R4.old, fun h => cc.c0 (T 0 (by decide) h), fun h => cc.c1 (T 1 (by decide) h), fun h => cc.c2 (T 2 (by decide) h), fun h => cc.c3 (T 3 (by decide) h), fun h => cc.c4 (T 4 (by decide) h), fun h => cc.c5 (T 5 (by decide) h), fun h => cc.c6 (T 6 (by decide) h), fun h => cc.c7 (T 7 (by decide) h), fun h => cc.c8 (T 8 (by decide) h), fun h => cc.c9 (T 9 (by decide) h), fun _ => ⟨w'.heap.size, #[.int .u64 0, .int .u64 0, .int .u64 0, .int .u64 0], rfl, cc.ms, HasRow.last rfl, rfl, fun h6 => absurd (cc.c11 (T 11 (by decide) h6)) hun⟩, fun h => S 10 (cc.c11 (T 11 (by decide) h))⟩⟩
      · simp at ho
        subst ho
        have T : ∀ j, j ≠ 11 → (listed.setIfInBounds 11 true).getD j false = true → listed.getD j false = true := fun j hj h => (done_set h).resolve_left hj
        have S : ∀ j, listed.getD j false = true → (listed.setIfInBounds 11 true).getD j false = true := fun j h => done_keep h
        have d4 := (waits_done (i := 11) (j := 10) (by kernel_rfl) hi)
        obtain ⟨g, c, e, h1, h2, h3, h4⟩ := cc.c10 d4
        have hx := (hF.new (t := 10) (i := 10) (by kernel_rfl) (by simp) d4).trans e
        have hv := ((hF.new (t := 27) (i := 9) (by kernel_rfl) (by simp) (waits_done (i := 11) (j := 9) (by kernel_rfl) hi)).trans (cc.c9 (waits_done (i := 11) (j := 9) (by kernel_rfl) hi)))
        exact wp_rowS 24 (.tmp 10) (.tmp 27) rfl g (c' := #[.int .u64 0, .int .u64 0, .int .u64 0, .int .u64 0]) hx hv h2 h3 rfl (by simp [Value.oneCell']) (by kernel_rfl) ⟨_, rfl, ⟨below_setRow cc.bw (by omega) _, by rw [size_setRow]; exact cc.ms, cc.R0.set_other _ (by omega), cc.R1.set_other _ (by omega), cc.R2.set_other _ (by omega), cc.R3.set_other _ (by omega), cc.R4.set_other _ (by omega), fun h => cc.c0 (T 0 (by decide) h), fun h => cc.c1 (T 1 (by decide) h), fun h => cc.c2 (T 2 (by decide) h), fun h => cc.c3 (T 3 (by decide) h), fun h => cc.c4 (T 4 (by decide) h), fun h => cc.c5 (T 5 (by decide) h), fun h => cc.c6 (T 6 (by decide) h), fun h => cc.c7 (T 7 (by decide) h), fun h => cc.c8 (T 8 (by decide) h), fun h => cc.c9 (T 9 (by decide) h), fun h => ⟨g, _, e, h1, h2.set_same _, rfl, fun _ => rfl⟩, fun _ => S 10 d4⟩⟩
    · intro listed vs a' w' hd hF cc

      have e : a' = ({ tmps := #[U a, U b, U c, I4 0 0 0 0, .pointer (some ⟨w.heap.size, 0, none⟩), .pointer (some ⟨w.heap.size + 1, 0, none⟩), .pointer (some ⟨w.heap.size + 1 + 1, 0, none⟩), .pointer (some ⟨w.heap.size + 1 + 1 + 1, 0, none⟩), .bool false, .pointer (some ⟨g9, 0, none⟩), vs 10, p11, p12, p13, p14, p15, p16, p17, vs 0, vs 1, vs 2, vs 3, vs 4, vs 5, vs 6, vs 7, vs 8, vs 9, undef, undef, undef, undef, undef, undef, undef, undef, undef, undef, undef, undef, undef, undef, undef, undef, undef, undef, undef, undef, undef, undef, undef, undef, undef, undef, undef, undef, undef, undef, undef, undef, undef, undef, undef, undef, undef, undef, undef, undef, undef, undef, undef, undef], defers := [] } : Act) := (hF.all hd).trans (by kernel_rfl)
      subst e
      obtain ⟨g10, c10, e10, a1, a2, a3, a4⟩ := cc.c10 (hd 10 (by simp))
      have V : Hid (HasRow w' (w.heap.size) #[B (l0 a), B (l1 a), B (l2 a), B (l3 a)] ∧ HasRow w' (w.heap.size + 1) #[B (l0 b), B (l1 b), B (l2 b), B (l3 b)] ∧ HasRow w' (w.heap.size + 1 + 1) #[B (l0 c), B (l1 c), B (l2 c), B (l3 c)] ∧ HasRow w' (w.heap.size + 1 + 1 + 1) #[.int .u64 0, .int .u64 0, .int .u64 0, .int .u64 0] ∧ HasRow w' g9 #[.int .u64 0, .int .u64 0, .int .u64 0, .int .u64 0] ∧ HasRow w' g10 #[.int .u64 0, .int .u64 0, .int .u64 0, .int .u64 0] ∧ Below w.heap.size w w') := ⟨cc.R0, cc.R1, cc.R2, cc.R3, cc.R4, a4 (hd 11 (by simp)) ▸ a2, cc.bw⟩
      rw [e10]
      generalize vs 0 = p18
      generalize vs 1 = p19
      generalize vs 2 = p20
      generalize vs 3 = p21
      generalize vs 4 = p22
      generalize vs 5 = p23
      generalize vs 6 = p24
      generalize vs 7 = p25
      generalize vs 8 = p26
      generalize vs 9 = p27
      clear cc hd hF e10 a1 a2 a3 a4
      go_wp2_with fail
      have d0_0 : w'.cell? ⟨w.heap.size, 0, none⟩ = some (B (l0 a)) := V.out.1.cell 0
      have d0_1 : w'.cell? ⟨w.heap.size, 1, none⟩ = some (B (l1 a)) := V.out.1.cell 1
      have d0_2 : w'.cell? ⟨w.heap.size, 2, none⟩ = some (B (l2 a)) := V.out.1.cell 2
      have d0_3 : w'.cell? ⟨w.heap.size, 3, none⟩ = some (B (l3 a)) := V.out.1.cell 3
      have d1_0 : w'.cell? ⟨w.heap.size + 1, 0, none⟩ = some (B (l0 b)) := V.out.2.1.cell 0
      have d1_1 : w'.cell? ⟨w.heap.size + 1, 1, none⟩ = some (B (l1 b)) := V.out.2.1.cell 1
      have d1_2 : w'.cell? ⟨w.heap.size + 1, 2, none⟩ = some (B (l2 b)) := V.out.2.1.cell 2
      have d1_3 : w'.cell? ⟨w.heap.size + 1, 3, none⟩ = some (B (l3 b)) := V.out.2.1.cell 3
      have d2_0 : w'.cell? ⟨w.heap.size + 1 + 1 + 1, 0, none⟩ = some (.int .u64 0) := V.out.2.2.2.1.cell 0
      have d2_1 : w'.cell? ⟨w.heap.size + 1 + 1 + 1, 1, none⟩ = some (.int .u64 0) := V.out.2.2.2.1.cell 1
      have d2_2 : w'.cell? ⟨w.heap.size + 1 + 1 + 1, 2, none⟩ = some (.int .u64 0) := V.out.2.2.2.1.cell 2
      have d2_3 : w'.cell? ⟨w.heap.size + 1 + 1 + 1, 3, none⟩ = some (.int .u64 0) := V.out.2.2.2.1.cell 3
      have d3_0 : w'.cell? ⟨g9, 0, none⟩ = some (.int .u64 0) := V.out.2.2.2.2.1.cell 0
      have d3_1 : w'.cell? ⟨g9, 1, none⟩ = some (.int .u64 0) := V.out.2.2.2.2.1.cell 1
      have d3_2 : w'.cell? ⟨g9, 2, none⟩ = some (.int .u64 0) := V.out.2.2.2.2.1.cell 2
      have d3_3 : w'.cell? ⟨g9, 3, none⟩ = some (.int .u64 0) := V.out.2.2.2.2.1.cell 3
      have d4_0 : w'.cell? ⟨g10, 0, none⟩ = some (.int .u64 0) := V.out.2.2.2.2.2.1.cell 0
      have d4_1 : w'.cell? ⟨g10, 1, none⟩ = some (.int .u64 0) := V.out.2.2.2.2.2.1.cell 1
      have d4_2 : w'.cell? ⟨g10, 2, none⟩ = some (.int .u64 0) := V.out.2.2.2.2.2.1.cell 2
      have d4_3 : w'.cell? ⟨g10, 3, none⟩ = some (.int .u64 0) := V.out.2.2.2.2.2.1.cell 3
      replace d0_0 := cell_regrown d0_0
      replace d0_1 := cell_regrown d0_1
      replace d0_2 := cell_regrown d0_2
      replace d0_3 := cell_regrown d0_3
      replace d1_0 := cell_regrown d1_0
      replace d1_1 := cell_regrown d1_1
      replace d1_2 := cell_regrown d1_2
      replace d1_3 := cell_regrown d1_3
      replace d2_0 := cell_regrown d2_0
      replace d2_1 := cell_regrown d2_1
      replace d2_2 := cell_regrown d2_2
      replace d2_3 := cell_regrown d2_3
      replace d3_0 := cell_regrown d3_0
      replace d3_1 := cell_regrown d3_1
      replace d3_2 := cell_regrown d3_2
      replace d3_3 := cell_regrown d3_3
      replace d4_0 := cell_regrown d4_0
      replace d4_1 := cell_regrown d4_1
      replace d4_2 := cell_regrown d4_2
      replace d4_3 := cell_regrown d4_3
      refine wp_region_quiet_below (by kernel_rfl) (by kernel_rfl) ?_
      repeat (go_big_quiet_step (fail))
      go_big_quiet_step ((exact Calls.regrown_of (h3.out _)))
      repeat (go_big_quiet_step (fail))
      go_big_quiet_step ((exact Calls.regrown_of (h6.out _)))
      repeat (go_big_quiet_step (fail))
      go_big_quiet_step ((exact Calls.regrown_of (h7.out _)))
      repeat (go_big_quiet_step (fail))
      go_big_quiet_step ((exact Calls.regrown_of (h8.out _)))
      repeat (go_big_quiet_step (fail))
      go_big_quiet_step ((exact Calls.regrown_of (ha.out _)))
      repeat (go_big_quiet_step (fail))
      refine wpQuiet_nil ?_
      intro _ hw'
      obtain ⟨⟨dq', osq⟩, hw''⟩ := hw'
      subst hw''
      go_wp2
      go_ret
      exact ⟨rfl, bel_call V.out.2.2.2.2.2.2 (below_regrown w' dq' osq)⟩
structure CSB (w : World) (N0 : Nat) (a b c m s p k x : Nat) (listed : Array Bool) (vs : Nat → Value) (w' : World) : Prop where
  bw : Below w.heap.size w w'
  ms : N0 ≤ w'.heap.size
  R0 : HasRow w' (w.heap.size) #[B (l0 a), B (l1 a), B (l2 a), B (l3 a)]
  R1 : HasRow w' (w.heap.size + 1) #[B (l0 b), B (l1 b), B (l2 b), B (l3 b)]
  R2 : HasRow w' (w.heap.size + 1 + 1) #[B (l0 c), B (l1 c), B (l2 c), B (l3 c)]
  R3 : HasRow w' (w.heap.size + 1 + 1 + 1) #[B (l0 m), B (l1 m), B (l2 m), B (l3 m)]
  c0 : listed.getD 0 false = true → vs 0 = U a
  c1 : listed.getD 1 false = true → vs 1 = U b
  c2 : listed.getD 2 false = true → vs 2 = U c
  c3 : listed.getD 3 false = true → vs 3 = U m
  c4 : listed.getD 4 false = true → vs 4 = U s
  c5 : listed.getD 5 false = true → vs 5 = U m
  c6 : listed.getD 6 false = true → vs 6 = U x
  c7 : listed.getD 7 false = true → ∃ g c, vs 7 = .pointer (some ⟨g, 0, none⟩) ∧ N0 ≤ g ∧ HasRow w' g c ∧ c.size = 4 ∧ (listed.getD 8 false = true → c = #[B (l0 x), B (l1 x), B (l2 x), B (l3 x)])
  c8 : listed.getD 8 false = true → listed.getD 7 false = true
structure CSD (w : World) (N0 : Nat) (g9 : Nat) (a b c m s p k x : Nat) (listed : Array Bool) (vs : Nat → Value) (w' : World) : Prop where
  bw : Below w.heap.size w w'
  ms : N0 ≤ w'.heap.size
  R0 : HasRow w' (w.heap.size) #[B (l0 a), B (l1 a), B (l2 a), B (l3 a)]
  R1 : HasRow w' (w.heap.size + 1) #[B (l0 b), B (l1 b), B (l2 b), B (l3 b)]
  R2 : HasRow w' (w.heap.size + 1 + 1) #[B (l0 c), B (l1 c), B (l2 c), B (l3 c)]
  R3 : HasRow w' (w.heap.size + 1 + 1 + 1) #[B (l0 m), B (l1 m), B (l2 m), B (l3 m)]
  R4 : HasRow w' (g9) #[B (l0 x), B (l1 x), B (l2 x), B (l3 x)]
  c0 : listed.getD 0 false = true → vs 0 = U a
  c1 : listed.getD 1 false = true → vs 1 = U b
  c2 : listed.getD 2 false = true → vs 2 = U m
  c3 : listed.getD 3 false = true → vs 3 = U p
  c4 : listed.getD 4 false = true → vs 4 = U a
  c5 : listed.getD 5 false = true → vs 5 = U c
  c6 : listed.getD 6 false = true → vs 6 = U m
  c7 : listed.getD 7 false = true → vs 7 = U k
  c8 : listed.getD 8 false = true → vs 8 = U m
  c9 : listed.getD 9 false = true → vs 9 = U x
  c10 : listed.getD 10 false = true → ∃ g c, vs 10 = .pointer (some ⟨g, 0, none⟩) ∧ N0 ≤ g ∧ HasRow w' g c ∧ c.size = 4 ∧ (listed.getD 11 false = true → c = #[B (l0 x), B (l1 x), B (l2 x), B (l3 x)])
  c11 : listed.getD 11 false = true → listed.getD 10 false = true

set_option maxRecDepth 100000 in
set_option maxHeartbeats 4000000 in
theorem spreads1_raw (a b c m s p k x t : Nat)
    (h1 : Hid (∀ w, Calls Try.prog 16 #[U b, U c, U m] w fun e w' => e = .returned (U s) ∧ Below w.heap.size w w'))
    (h2 : Hid (∀ w, Calls Try.prog 18 #[U a, U s, U m] w fun e w' => e = .returned (U x) ∧ Below w.heap.size w w'))
    (h3 : Hid (∀ w, Calls Try.prog 18 #[U a, U b, U m] w fun e w' => e = .returned (U p) ∧ Below w.heap.size w w'))
    (h4 : Hid (∀ w, Calls Try.prog 18 #[U a, U c, U m] w fun e w' => e = .returned (U k) ∧ Below w.heap.size w w'))
    (h5 : Hid (∀ w, Calls Try.prog 16 #[U p, U k, U m] w fun e w' => e = .returned (U x) ∧ Below w.heap.size w w'))
    (h6 : Hid (∀ w, Calls Try.prog 18 #[U b, U a, U m] w fun e w' => e = .returned (U p) ∧ Below w.heap.size w w'))
    (h7 : Hid (∀ w, Calls Try.prog 16 #[U a, U b, U m] w fun e w' => e = .returned (U t) ∧ Below w.heap.size w w'))
    (h8 : Hid (∀ w, Calls Try.prog 16 #[U b, U a, U m] w fun e w' => e = .returned (U t) ∧ Below w.heap.size w w'))
    (h9 : Hid (∀ w, Calls Try.prog 26 #[U x, U m] w fun e w' => e = .returned (.int .i64 (-1)) ∧ Below w.heap.size w w'))
    (he : ∀ w, (Op.equalIn 10000 24 (U m) (I4 0 0 0 0)).run Try.prog w = .ok false w)
    (ha : Hid (∀ w, Calls Try.prog 24 #[] w fun e w' => e = .returned (.bool true) ∧ Below w.heap.size w w')) (w : World) :
    Calls Try.prog 7 #[U a, U b, U c, U m] w fun e w' => e = .returned (.bool true) ∧ Below w.heap.size w w' := by
  go_enter Try.func7, Try.ntmps7
  go_wp2_with fail
  refine name_world _ ?_
  intro wF hF0
  have r0 : Hid (HasRow wF (w.heap.size) #[B (l0 a), B (l1 a), B (l2 a), B (l3 a)]) := by rw [hF0]; exact (HasRow.old (HasRow.old (HasRow.old (HasRow.last rfl))))
  have r1 : Hid (HasRow wF (w.heap.size + 1) #[B (l0 b), B (l1 b), B (l2 b), B (l3 b)]) := by rw [hF0]; exact (HasRow.old (HasRow.old (HasRow.last (by simp))))
  have r2 : Hid (HasRow wF (w.heap.size + 1 + 1) #[B (l0 c), B (l1 c), B (l2 c), B (l3 c)]) := by rw [hF0]; exact (HasRow.old (HasRow.last (by simp)))
  have r3 : Hid (HasRow wF (w.heap.size + 1 + 1 + 1) #[B (l0 m), B (l1 m), B (l2 m), B (l3 m)]) := by rw [hF0]; exact (HasRow.last (by simp))
  have rB : Hid (Below w.heap.size w wF) := by rw [hF0]; exact (by (repeat (first | exact Below.refl _ _ | refine bel_alloc ?_ _)))
  obtain ⟨N0, hN0⟩ : ∃ n, n = wF.heap.size := ⟨_, rfl⟩
  have hN : w.heap.size + 1 + 1 + 1 < N0 := by rw [hN0]; exact r3.out.lt
  clear hF0
  refine wp_region_vals2 (by kernel_rfl) (by kernel_rfl) (by kernel_rfl) (CSB w N0 a b c m s p k x) ?_ ?_ ?_
  · refine ⟨rB.out.drew, by rw [hN0]; exact Nat.le_refl _, r0.out, r1.out, r2.out, r3.out, ?_, ?_, ?_, ?_, ?_, ?_, ?_, ?_, ?_⟩ <;> (intro h; simp [Array.getD] at h)
  · intro listed vs a' w' i o' hs ho hi hF cc
    have hin : i < 9 := by have := (Array.getElem?_eq_some_iff.1 ho).1; simpa using this
    have hcase : i = 0 ∨ i = 1 ∨ i = 2 ∨ i = 3 ∨ i = 4 ∨ i = 5 ∨ i = 6 ∨ i = 7 ∨ i = 8 := by omega
    rcases hcase with rfl | rfl | rfl | rfl | rfl | rfl | rfl | rfl | rfl
    · simp at ho
      subst ho
      have T : ∀ j, j ≠ 0 → (listed.setIfInBounds 0 true).getD j false = true → listed.getD j false = true := fun j hj h => (done_set h).resolve_left hj
      have S : ∀ j, listed.getD j false = true → (listed.setIfInBounds 0 true).getD j false = true := fun j h => done_keep h
      exact wp_rowF 24 (.tmp 4) rfl (w.heap.size) ((hF.old (by kernel_rfl)).trans rfl) cc.R0 rfl Try.underlying24 (by kernel_rfl) ⟨_, rfl, ⟨cc.bw, cc.ms, cc.R0, cc.R1, cc.R2, cc.R3, fun _ => rfl, fun h => cc.c1 (T 1 (by decide) h), fun h => cc.c2 (T 2 (by decide) h), fun h => cc.c3 (T 3 (by decide) h), fun h => cc.c4 (T 4 (by decide) h), fun h => cc.c5 (T 5 (by decide) h), fun h => cc.c6 (T 6 (by decide) h), fun h => by obtain ⟨g', c', e', k1, k2, k3, k4⟩ := cc.c7 (T 7 (by decide) h); exact ⟨g', c', e', k1, k2, k3, fun h6 => k4 (T 8 (by decide) h6)⟩, fun h => S 7 (cc.c8 (T 8 (by decide) h))⟩⟩
    · simp at ho
      subst ho
      have T : ∀ j, j ≠ 1 → (listed.setIfInBounds 1 true).getD j false = true → listed.getD j false = true := fun j hj h => (done_set h).resolve_left hj
      have S : ∀ j, listed.getD j false = true → (listed.setIfInBounds 1 true).getD j false = true := fun j h => done_keep h
      exact wp_rowF 24 (.tmp 5) rfl (w.heap.size + 1) ((hF.old (by kernel_rfl)).trans rfl) cc.R1 rfl Try.underlying24 (by kernel_rfl) ⟨_, rfl, ⟨cc.bw, cc.ms, cc.R0, cc.R1, cc.R2, cc.R3, fun h => cc.c0 (T 0 (by decide) h), fun _ => rfl, fun h => cc.c2 (T 2 (by decide) h), fun h => cc.c3 (T 3 (by decide) h), fun h => cc.c4 (T 4 (by decide) h), fun h => cc.c5 (T 5 (by decide) h), fun h => cc.c6 (T 6 (by decide) h), fun h => by obtain ⟨g', c', e', k1, k2, k3, k4⟩ := cc.c7 (T 7 (by decide) h); exact ⟨g', c', e', k1, k2, k3, fun h6 => k4 (T 8 (by decide) h6)⟩, fun h => S 7 (cc.c8 (T 8 (by decide) h))⟩⟩
    · simp at ho
      subst ho
      have T : ∀ j, j ≠ 2 → (listed.setIfInBounds 2 true).getD j false = true → listed.getD j false = true := fun j hj h => (done_set h).resolve_left hj
      have S : ∀ j, listed.getD j false = true → (listed.setIfInBounds 2 true).getD j false = true := fun j h => done_keep h
      exact wp_rowF 24 (.tmp 6) rfl (w.heap.size + 1 + 1) ((hF.old (by kernel_rfl)).trans rfl) cc.R2 rfl Try.underlying24 (by kernel_rfl) ⟨_, rfl, ⟨cc.bw, cc.ms, cc.R0, cc.R1, cc.R2, cc.R3, fun h => cc.c0 (T 0 (by decide) h), fun h => cc.c1 (T 1 (by decide) h), fun _ => rfl, fun h => cc.c3 (T 3 (by decide) h), fun h => cc.c4 (T 4 (by decide) h), fun h => cc.c5 (T 5 (by decide) h), fun h => cc.c6 (T 6 (by decide) h), fun h => by obtain ⟨g', c', e', k1, k2, k3, k4⟩ := cc.c7 (T 7 (by decide) h); exact ⟨g', c', e', k1, k2, k3, fun h6 => k4 (T 8 (by decide) h6)⟩, fun h => S 7 (cc.c8 (T 8 (by decide) h))⟩⟩
    · simp at ho
      subst ho
      have T : ∀ j, j ≠ 3 → (listed.setIfInBounds 3 true).getD j false = true → listed.getD j false = true := fun j hj h => (done_set h).resolve_left hj
      have S : ∀ j, listed.getD j false = true → (listed.setIfInBounds 3 true).getD j false = true := fun j h => done_keep h
      exact wp_rowF 24 (.tmp 7) rfl (w.heap.size + 1 + 1 + 1) ((hF.old (by kernel_rfl)).trans rfl) cc.R3 rfl Try.underlying24 (by kernel_rfl) ⟨_, rfl, ⟨cc.bw, cc.ms, cc.R0, cc.R1, cc.R2, cc.R3, fun h => cc.c0 (T 0 (by decide) h), fun h => cc.c1 (T 1 (by decide) h), fun h => cc.c2 (T 2 (by decide) h), fun _ => rfl, fun h => cc.c4 (T 4 (by decide) h), fun h => cc.c5 (T 5 (by decide) h), fun h => cc.c6 (T 6 (by decide) h), fun h => by obtain ⟨g', c', e', k1, k2, k3, k4⟩ := cc.c7 (T 7 (by decide) h); exact ⟨g', c', e', k1, k2, k3, fun h6 => k4 (T 8 (by decide) h6)⟩, fun h => S 7 (cc.c8 (T 8 (by decide) h))⟩⟩
    · simp at ho
      subst ho
      have T : ∀ j, j ≠ 4 → (listed.setIfInBounds 4 true).getD j false = true → listed.getD j false = true := fun j hj h => (done_set h).resolve_left hj
      have S : ∀ j, listed.getD j false = true → (listed.setIfInBounds 4 true).getD j false = true := fun j h => done_keep h
      have hv0 := ((hF.new (t := 12) (i := 1) (by kernel_rfl) (by simp) (waits_done (i := 4) (j := 1) (by kernel_rfl) hi)).trans (cc.c1 (waits_done (i := 4) (j := 1) (by kernel_rfl) hi)))
      have hv1 := ((hF.new (t := 13) (i := 2) (by kernel_rfl) (by simp) (waits_done (i := 4) (j := 2) (by kernel_rfl) hi)).trans (cc.c2 (waits_done (i := 4) (j := 2) (by kernel_rfl) hi)))
      have hv2 := ((hF.new (t := 14) (i := 3) (by kernel_rfl) (by simp) (waits_done (i := 4) (j := 3) (by kernel_rfl) hi)).trans (cc.c3 (waits_done (i := 4) (j := 3) (by kernel_rfl) hi)))
      refine wp_callF (f := 16) (args := #[U b, U c, U m]) (v := U s) (by simp [execOp_call_go, ev hv0, ev hv1, ev hv2, go_sem]) (h1.out w') ?_
      intro w'' hb''
      exact ⟨_, rfl, ⟨cc.bw.trans (hb''.mono cc.bw.size), Nat.le_trans cc.ms hb''.size, cc.R0.below hb'', cc.R1.below hb'', cc.R2.below hb'', cc.R3.below hb'', fun h => cc.c0 (T 0 (by decide) h), fun h => cc.c1 (T 1 (by decide) h), fun h => cc.c2 (T 2 (by decide) h), fun h => cc.c3 (T 3 (by decide) h), fun _ => rfl, fun h => cc.c5 (T 5 (by decide) h), fun h => cc.c6 (T 6 (by decide) h), fun h => by obtain ⟨g', c', e', k1, k2, k3, k4⟩ := cc.c7 (T 7 (by decide) h); exact ⟨g', c', e', k1, k2.below hb'', k3, fun h6 => k4 (T 8 (by decide) h6)⟩, fun h => S 7 (cc.c8 (T 8 (by decide) h))⟩⟩
    · simp at ho
      subst ho
      have T : ∀ j, j ≠ 5 → (listed.setIfInBounds 5 true).getD j false = true → listed.getD j false = true := fun j hj h => (done_set h).resolve_left hj
      have S : ∀ j, listed.getD j false = true → (listed.setIfInBounds 5 true).getD j false = true := fun j h => done_keep h
      exact wp_rowF 24 (.tmp 7) rfl (w.heap.size + 1 + 1 + 1) ((hF.old (by kernel_rfl)).trans rfl) cc.R3 rfl Try.underlying24 (by kernel_rfl) ⟨_, rfl, ⟨cc.bw, cc.ms, cc.R0, cc.R1, cc.R2, cc.R3, fun h => cc.c0 (T 0 (by decide) h), fun h => cc.c1 (T 1 (by decide) h), fun h => cc.c2 (T 2 (by decide) h), fun h => cc.c3 (T 3 (by decide) h), fun h => cc.c4 (T 4 (by decide) h), fun _ => rfl, fun h => cc.c6 (T 6 (by decide) h), fun h => by obtain ⟨g', c', e', k1, k2, k3, k4⟩ := cc.c7 (T 7 (by decide) h); exact ⟨g', c', e', k1, k2, k3, fun h6 => k4 (T 8 (by decide) h6)⟩, fun h => S 7 (cc.c8 (T 8 (by decide) h))⟩⟩
    · simp at ho
      subst ho
      have T : ∀ j, j ≠ 6 → (listed.setIfInBounds 6 true).getD j false = true → listed.getD j false = true := fun j hj h => (done_set h).resolve_left hj
      have S : ∀ j, listed.getD j false = true → (listed.setIfInBounds 6 true).getD j false = true := fun j h => done_keep h
      have hv0 := ((hF.new (t := 11) (i := 0) (by kernel_rfl) (by simp) (waits_done (i := 6) (j := 0) (by kernel_rfl) hi)).trans (cc.c0 (waits_done (i := 6) (j := 0) (by kernel_rfl) hi)))
      have hv1 := ((hF.new (t := 15) (i := 4) (by kernel_rfl) (by simp) (waits_done (i := 6) (j := 4) (by kernel_rfl) hi)).trans (cc.c4 (waits_done (i := 6) (j := 4) (by kernel_rfl) hi)))
      have hv2 := ((hF.new (t := 16) (i := 5) (by kernel_rfl) (by simp) (waits_done (i := 6) (j := 5) (by kernel_rfl) hi)).trans (cc.c5 (waits_done (i := 6) (j := 5) (by kernel_rfl) hi)))
      refine wp_callF (f := 18) (args := #[U a, U s, U m]) (v := U x) (by simp [execOp_call_go, ev hv0, ev hv1, ev hv2, go_sem]) (h2.out w') ?_
      intro w'' hb''
      exact ⟨_, rfl, ⟨cc.bw.trans (hb''.mono cc.bw.size), Nat.le_trans cc.ms hb''.size, cc.R0.below hb'', cc.R1.below hb'', cc.R2.below hb'', cc.R3.below hb'', fun h => cc.c0 (T 0 (by decide) h), fun h => cc.c1 (T 1 (by decide) h), fun h => cc.c2 (T 2 (by decide) h), fun h => cc.c3 (T 3 (by decide) h), fun h => cc.c4 (T 4 (by decide) h), fun h => cc.c5 (T 5 (by decide) h), fun _ => rfl, fun h => by obtain ⟨g', c', e', k1, k2, k3, k4⟩ := cc.c7 (T 7 (by decide) h); exact ⟨g', c', e', k1, k2.below hb'', k3, fun h6 => k4 (T 8 (by decide) h6)⟩, fun h => S 7 (cc.c8 (T 8 (by decide) h))⟩⟩
    · simp at ho
      subst ho
      have T : ∀ j, j ≠ 7 → (listed.setIfInBounds 7 true).getD j false = true → listed.getD j false = true := fun j hj h => (done_set h).resolve_left hj
      have S : ∀ j, listed.getD j false = true → (listed.setIfInBounds 7 true).getD j false = true := fun j h => done_keep h
      have hun : ¬ listed.getD 7 false = true := fun h => undone hi hs h
      exact wp_valF (v := .pointer (some ⟨w'.heap.size, 0, none⟩)) (w1 := w'.alloc (.cells #[.int .u64 0, .int .u64 0, .int .u64 0, .int .u64 0] 24)) (by simp [execOp, go_sem]) ⟨_, rfl, ⟨bel_alloc cc.bw _, by have := cc.ms; simp; omega, cc.R0.old, cc.R1.old, cc.R2.old, cc.R3.old, fun h => cc.c0 (T 0 (by decide) h), fun h => cc.c1 (T 1 (by decide) h), fun h => cc.c2 (T 2 (by decide) h), fun h => cc.c3 (T 3 (by decide) h), fun h => cc.c4 (T 4 (by decide) h), fun h => cc.c5 (T 5 (by decide) h), fun h => cc.c6 (T 6 (by decide) h), fun _ => ⟨w'.heap.size, #[.int .u64 0, .int .u64 0, .int .u64 0, .int .u64 0], rfl, cc.ms, HasRow.last rfl, rfl, fun h6 => absurd (cc.c8 (T 8 (by decide) h6)) hun⟩, fun h => S 7 (cc.c8 (T 8 (by decide) h))⟩⟩
    · simp at ho
      subst ho
      have T : ∀ j, j ≠ 8 → (listed.setIfInBounds 8 true).getD j false = true → listed.getD j false = true := fun j hj h => (done_set h).resolve_left hj
      have S : ∀ j, listed.getD j false = true → (listed.setIfInBounds 8 true).getD j false = true := fun j h => done_keep h
      have d4 := (waits_done (i := 8) (j := 7) (by kernel_rfl) hi)
      obtain ⟨g, c, e, h1, h2, h3, h4⟩ := cc.c7 d4
      have hx := (hF.new (t := 9) (i := 7) (by kernel_rfl) (by simp) d4).trans e
      have hv := ((hF.new (t := 17) (i := 6) (by kernel_rfl) (by simp) (waits_done (i := 8) (j := 6) (by kernel_rfl) hi)).trans (cc.c6 (waits_done (i := 8) (j := 6) (by kernel_rfl) hi)))
      exact wp_rowS 24 (.tmp 9) (.tmp 17) rfl g (c' := #[B (l0 x), B (l1 x), B (l2 x), B (l3 x)]) hx hv h2 h3 rfl (by simp [Value.oneCell']) (by kernel_rfl) ⟨_, rfl, ⟨below_setRow cc.bw (by omega) _, by rw [size_setRow]; exact cc.ms, cc.R0.set_other _ (by omega), cc.R1.set_other _ (by omega), cc.R2.set_other _ (by omega), cc.R3.set_other _ (by omega), fun h => cc.c0 (T 0 (by decide) h), fun h => cc.c1 (T 1 (by decide) h), fun h => cc.c2 (T 2 (by decide) h), fun h => cc.c3 (T 3 (by decide) h), fun h => cc.c4 (T 4 (by decide) h), fun h => cc.c5 (T 5 (by decide) h), fun h => cc.c6 (T 6 (by decide) h), fun h => ⟨g, _, e, h1, h2.set_same _, rfl, fun _ => rfl⟩, fun _ => S 7 d4⟩⟩
  · intro listed vs a' w' hd hF cc

    have e : a' = ({ tmps := #[U a, U b, U c, U m, .pointer (some ⟨w.heap.size, 0, none⟩), .pointer (some ⟨w.heap.size + 1, 0, none⟩), .pointer (some ⟨w.heap.size + 1 + 1, 0, none⟩), .pointer (some ⟨w.heap.size + 1 + 1 + 1, 0, none⟩), .bool false, vs 7, undef, vs 0, vs 1, vs 2, vs 3, vs 4, vs 5, vs 6, undef, undef, undef, undef, undef, undef, undef, undef, undef, undef, undef, undef, undef, undef, undef, undef, undef, undef, undef, undef, undef, undef, undef, undef, undef, undef, undef, undef, undef, undef, undef, undef, undef, undef, undef, undef, undef, undef, undef, undef, undef, undef, undef, undef, undef, undef, undef, undef, undef, undef, undef, undef, undef, undef], defers := [] } : Act) := (hF.all hd).trans (by kernel_rfl)
    subst e
    obtain ⟨g9, c9, e9, a1, a2, a3, a4⟩ := cc.c7 (hd 7 (by simp))
    have V1 : Hid (HasRow w' (w.heap.size) #[B (l0 a), B (l1 a), B (l2 a), B (l3 a)] ∧ HasRow w' (w.heap.size + 1) #[B (l0 b), B (l1 b), B (l2 b), B (l3 b)] ∧ HasRow w' (w.heap.size + 1 + 1) #[B (l0 c), B (l1 c), B (l2 c), B (l3 c)] ∧ HasRow w' (w.heap.size + 1 + 1 + 1) #[B (l0 m), B (l1 m), B (l2 m), B (l3 m)] ∧ HasRow w' g9 #[B (l0 x), B (l1 x), B (l2 x), B (l3 x)] ∧ Below w.heap.size w w') := ⟨cc.R0, cc.R1, cc.R2, cc.R3, a4 (hd 8 (by simp)) ▸ a2, cc.bw⟩
    rw [e9]
    generalize vs 0 = p11
    generalize vs 1 = p12
    generalize vs 2 = p13
    generalize vs 3 = p14
    generalize vs 4 = p15
    generalize vs 5 = p16
    generalize vs 6 = p17
    clear cc hd hF e9 a1 a2 a3 a4 hN hN0
    go_wp2_with fail
    generalize w' = wA at *
    obtain ⟨N1, hN1⟩ : ∃ n, n = wA.heap.size := ⟨_, rfl⟩
    have hN : w.heap.size + 1 + 1 + 1 < N1 := by rw [hN1]; exact V1.out.2.2.2.1.lt
    have hN9 : g9 < N1 := by rw [hN1]; exact V1.out.2.2.2.2.1.lt
    refine wp_region_vals2 (by kernel_rfl) (by kernel_rfl) (by kernel_rfl) (CSD w N1 g9 a b c m s p k x) ?_ ?_ ?_
    · refine ⟨V1.out.2.2.2.2.2.drew, by rw [hN1]; exact Nat.le_refl _, V1.out.1, V1.out.2.1, V1.out.2.2.1, V1.out.2.2.2.1, V1.out.2.2.2.2.1, ?_, ?_, ?_, ?_, ?_, ?_, ?_, ?_, ?_, ?_, ?_, ?_⟩ <;> (intro h; simp [Array.getD] at h)
    · intro listed vs a' w' i o' hs ho hi hF cc
      have hin : i < 12 := by have := (Array.getElem?_eq_some_iff.1 ho).1; simpa using this
      have hcase : i = 0 ∨ i = 1 ∨ i = 2 ∨ i = 3 ∨ i = 4 ∨ i = 5 ∨ i = 6 ∨ i = 7 ∨ i = 8 ∨ i = 9 ∨ i = 10 ∨ i = 11 := by omega
      rcases hcase with rfl | rfl | rfl | rfl | rfl | rfl | rfl | rfl | rfl | rfl | rfl | rfl
      · simp at ho
        subst ho
        have T : ∀ j, j ≠ 0 → (listed.setIfInBounds 0 true).getD j false = true → listed.getD j false = true := fun j hj h => (done_set h).resolve_left hj
        have S : ∀ j, listed.getD j false = true → (listed.setIfInBounds 0 true).getD j false = true := fun j h => done_keep h
        exact wp_rowF 24 (.tmp 4) rfl (w.heap.size) ((hF.old (by kernel_rfl)).trans rfl) cc.R0 rfl Try.underlying24 (by kernel_rfl) ⟨_, rfl, ⟨cc.bw, cc.ms, cc.R0, cc.R1, cc.R2, cc.R3, cc.R4, fun _ => rfl, fun h => cc.c1 (T 1 (by decide) h), fun h => cc.c2 (T 2 (by decide) h), fun h => cc.c3 (T 3 (by decide) h), fun h => cc.c4 (T 4 (by decide) h), fun h => cc.c5 (T 5 (by decide) h), fun h => cc.c6 (T 6 (by decide) h), fun h => cc.c7 (T 7 (by decide) h), fun h => cc.c8 (T 8 (by decide) h), fun h => cc.c9 (T 9 (by decide) h), fun h => by obtain ⟨g', c', e', k1, k2, k3, k4⟩ := cc.c10 (T 10 (by decide) h); exact ⟨g', c', e', k1, k2, k3, fun h6 => k4 (T 11 (by decide) h6)⟩, fun h => S 10 (cc.c11 (T 11 (by decide) h))⟩⟩
      · simp at ho
        subst ho
        have T : ∀ j, j ≠ 1 → (listed.setIfInBounds 1 true).getD j false = true → listed.getD j false = true := fun j hj h => (done_set h).resolve_left hj
        have S : ∀ j, listed.getD j false = true → (listed.setIfInBounds 1 true).getD j false = true := fun j h => done_keep h
        exact wp_rowF 24 (.tmp 5) rfl (w.heap.size + 1) ((hF.old (by kernel_rfl)).trans rfl) cc.R1 rfl Try.underlying24 (by kernel_rfl) ⟨_, rfl, ⟨cc.bw, cc.ms, cc.R0, cc.R1, cc.R2, cc.R3, cc.R4, fun h => cc.c0 (T 0 (by decide) h), fun _ => rfl, fun h => cc.c2 (T 2 (by decide) h), fun h => cc.c3 (T 3 (by decide) h), fun h => cc.c4 (T 4 (by decide) h), fun h => cc.c5 (T 5 (by decide) h), fun h => cc.c6 (T 6 (by decide) h), fun h => cc.c7 (T 7 (by decide) h), fun h => cc.c8 (T 8 (by decide) h), fun h => cc.c9 (T 9 (by decide) h), fun h => by obtain ⟨g', c', e', k1, k2, k3, k4⟩ := cc.c10 (T 10 (by decide) h); exact ⟨g', c', e', k1, k2, k3, fun h6 => k4 (T 11 (by decide) h6)⟩, fun h => S 10 (cc.c11 (T 11 (by decide) h))⟩⟩
      · simp at ho
        subst ho
        have T : ∀ j, j ≠ 2 → (listed.setIfInBounds 2 true).getD j false = true → listed.getD j false = true := fun j hj h => (done_set h).resolve_left hj
        have S : ∀ j, listed.getD j false = true → (listed.setIfInBounds 2 true).getD j false = true := fun j h => done_keep h
        exact wp_rowF 24 (.tmp 7) rfl (w.heap.size + 1 + 1 + 1) ((hF.old (by kernel_rfl)).trans rfl) cc.R3 rfl Try.underlying24 (by kernel_rfl) ⟨_, rfl, ⟨cc.bw, cc.ms, cc.R0, cc.R1, cc.R2, cc.R3, cc.R4, fun h => cc.c0 (T 0 (by decide) h), fun h => cc.c1 (T 1 (by decide) h), fun _ => rfl, fun h => cc.c3 (T 3 (by decide) h), fun h => cc.c4 (T 4 (by decide) h), fun h => cc.c5 (T 5 (by decide) h), fun h => cc.c6 (T 6 (by decide) h), fun h => cc.c7 (T 7 (by decide) h), fun h => cc.c8 (T 8 (by decide) h), fun h => cc.c9 (T 9 (by decide) h), fun h => by obtain ⟨g', c', e', k1, k2, k3, k4⟩ := cc.c10 (T 10 (by decide) h); exact ⟨g', c', e', k1, k2, k3, fun h6 => k4 (T 11 (by decide) h6)⟩, fun h => S 10 (cc.c11 (T 11 (by decide) h))⟩⟩
      · simp at ho
        subst ho
        have T : ∀ j, j ≠ 3 → (listed.setIfInBounds 3 true).getD j false = true → listed.getD j false = true := fun j hj h => (done_set h).resolve_left hj
        have S : ∀ j, listed.getD j false = true → (listed.setIfInBounds 3 true).getD j false = true := fun j h => done_keep h
        have hv0 := ((hF.new (t := 18) (i := 0) (by kernel_rfl) (by simp) (waits_done (i := 3) (j := 0) (by kernel_rfl) hi)).trans (cc.c0 (waits_done (i := 3) (j := 0) (by kernel_rfl) hi)))
        have hv1 := ((hF.new (t := 19) (i := 1) (by kernel_rfl) (by simp) (waits_done (i := 3) (j := 1) (by kernel_rfl) hi)).trans (cc.c1 (waits_done (i := 3) (j := 1) (by kernel_rfl) hi)))
        have hv2 := ((hF.new (t := 20) (i := 2) (by kernel_rfl) (by simp) (waits_done (i := 3) (j := 2) (by kernel_rfl) hi)).trans (cc.c2 (waits_done (i := 3) (j := 2) (by kernel_rfl) hi)))
        refine wp_callF (f := 18) (args := #[U a, U b, U m]) (v := U p) (by simp [execOp_call_go, ev hv0, ev hv1, ev hv2, go_sem]) (h3.out w') ?_
        intro w'' hb''
        exact ⟨_, rfl, ⟨cc.bw.trans (hb''.mono cc.bw.size), Nat.le_trans cc.ms hb''.size, cc.R0.below hb'', cc.R1.below hb'', cc.R2.below hb'', cc.R3.below hb'', cc.R4.below hb'', fun h => cc.c0 (T 0 (by decide) h), fun h => cc.c1 (T 1 (by decide) h), fun h => cc.c2 (T 2 (by decide) h), fun _ => rfl, fun h => cc.c4 (T 4 (by decide) h), fun h => cc.c5 (T 5 (by decide) h), fun h => cc.c6 (T 6 (by decide) h), fun h => cc.c7 (T 7 (by decide) h), fun h => cc.c8 (T 8 (by decide) h), fun h => cc.c9 (T 9 (by decide) h), fun h => by obtain ⟨g', c', e', k1, k2, k3, k4⟩ := cc.c10 (T 10 (by decide) h); exact ⟨g', c', e', k1, k2.below hb'', k3, fun h6 => k4 (T 11 (by decide) h6)⟩, fun h => S 10 (cc.c11 (T 11 (by decide) h))⟩⟩
      · simp at ho
        subst ho
        have T : ∀ j, j ≠ 4 → (listed.setIfInBounds 4 true).getD j false = true → listed.getD j false = true := fun j hj h => (done_set h).resolve_left hj
        have S : ∀ j, listed.getD j false = true → (listed.setIfInBounds 4 true).getD j false = true := fun j h => done_keep h
        exact wp_rowF 24 (.tmp 4) rfl (w.heap.size) ((hF.old (by kernel_rfl)).trans rfl) cc.R0 rfl Try.underlying24 (by kernel_rfl) ⟨_, rfl, ⟨cc.bw, cc.ms, cc.R0, cc.R1, cc.R2, cc.R3, cc.R4, fun h => cc.c0 (T 0 (by decide) h), fun h => cc.c1 (T 1 (by decide) h), fun h => cc.c2 (T 2 (by decide) h), fun h => cc.c3 (T 3 (by decide) h), fun _ => rfl, fun h => cc.c5 (T 5 (by decide) h), fun h => cc.c6 (T 6 (by decide) h), fun h => cc.c7 (T 7 (by decide) h), fun h => cc.c8 (T 8 (by decide) h), fun h => cc.c9 (T 9 (by decide) h), fun h => by obtain ⟨g', c', e', k1, k2, k3, k4⟩ := cc.c10 (T 10 (by decide) h); exact ⟨g', c', e', k1, k2, k3, fun h6 => k4 (T 11 (by decide) h6)⟩, fun h => S 10 (cc.c11 (T 11 (by decide) h))⟩⟩
      · simp at ho
        subst ho
        have T : ∀ j, j ≠ 5 → (listed.setIfInBounds 5 true).getD j false = true → listed.getD j false = true := fun j hj h => (done_set h).resolve_left hj
        have S : ∀ j, listed.getD j false = true → (listed.setIfInBounds 5 true).getD j false = true := fun j h => done_keep h
        exact wp_rowF 24 (.tmp 6) rfl (w.heap.size + 1 + 1) ((hF.old (by kernel_rfl)).trans rfl) cc.R2 rfl Try.underlying24 (by kernel_rfl) ⟨_, rfl, ⟨cc.bw, cc.ms, cc.R0, cc.R1, cc.R2, cc.R3, cc.R4, fun h => cc.c0 (T 0 (by decide) h), fun h => cc.c1 (T 1 (by decide) h), fun h => cc.c2 (T 2 (by decide) h), fun h => cc.c3 (T 3 (by decide) h), fun h => cc.c4 (T 4 (by decide) h), fun _ => rfl, fun h => cc.c6 (T 6 (by decide) h), fun h => cc.c7 (T 7 (by decide) h), fun h => cc.c8 (T 8 (by decide) h), fun h => cc.c9 (T 9 (by decide) h), fun h => by obtain ⟨g', c', e', k1, k2, k3, k4⟩ := cc.c10 (T 10 (by decide) h); exact ⟨g', c', e', k1, k2, k3, fun h6 => k4 (T 11 (by decide) h6)⟩, fun h => S 10 (cc.c11 (T 11 (by decide) h))⟩⟩
      · simp at ho
        subst ho
        have T : ∀ j, j ≠ 6 → (listed.setIfInBounds 6 true).getD j false = true → listed.getD j false = true := fun j hj h => (done_set h).resolve_left hj
        have S : ∀ j, listed.getD j false = true → (listed.setIfInBounds 6 true).getD j false = true := fun j h => done_keep h
        exact wp_rowF 24 (.tmp 7) rfl (w.heap.size + 1 + 1 + 1) ((hF.old (by kernel_rfl)).trans rfl) cc.R3 rfl Try.underlying24 (by kernel_rfl) ⟨_, rfl, ⟨cc.bw, cc.ms, cc.R0, cc.R1, cc.R2, cc.R3, cc.R4, fun h => cc.c0 (T 0 (by decide) h), fun h => cc.c1 (T 1 (by decide) h), fun h => cc.c2 (T 2 (by decide) h), fun h => cc.c3 (T 3 (by decide) h), fun h => cc.c4 (T 4 (by decide) h), fun h => cc.c5 (T 5 (by decide) h), fun _ => rfl, fun h => cc.c7 (T 7 (by decide) h), fun h => cc.c8 (T 8 (by decide) h), fun h => cc.c9 (T 9 (by decide) h), fun h => by obtain ⟨g', c', e', k1, k2, k3, k4⟩ := cc.c10 (T 10 (by decide) h); exact ⟨g', c', e', k1, k2, k3, fun h6 => k4 (T 11 (by decide) h6)⟩, fun h => S 10 (cc.c11 (T 11 (by decide) h))⟩⟩
      · simp at ho
        subst ho
        have T : ∀ j, j ≠ 7 → (listed.setIfInBounds 7 true).getD j false = true → listed.getD j false = true := fun j hj h => (done_set h).resolve_left hj
        have S : ∀ j, listed.getD j false = true → (listed.setIfInBounds 7 true).getD j false = true := fun j h => done_keep h
        have hv0 := ((hF.new (t := 22) (i := 4) (by kernel_rfl) (by simp) (waits_done (i := 7) (j := 4) (by kernel_rfl) hi)).trans (cc.c4 (waits_done (i := 7) (j := 4) (by kernel_rfl) hi)))
        have hv1 := ((hF.new (t := 23) (i := 5) (by kernel_rfl) (by simp) (waits_done (i := 7) (j := 5) (by kernel_rfl) hi)).trans (cc.c5 (waits_done (i := 7) (j := 5) (by kernel_rfl) hi)))
        have hv2 := ((hF.new (t := 24) (i := 6) (by kernel_rfl) (by simp) (waits_done (i := 7) (j := 6) (by kernel_rfl) hi)).trans (cc.c6 (waits_done (i := 7) (j := 6) (by kernel_rfl) hi)))
        refine wp_callF (f := 18) (args := #[U a, U c, U m]) (v := U k) (by simp [execOp_call_go, ev hv0, ev hv1, ev hv2, go_sem]) (h4.out w') ?_
        intro w'' hb''
        exact ⟨_, rfl, ⟨cc.bw.trans (hb''.mono cc.bw.size), Nat.le_trans cc.ms hb''.size, cc.R0.below hb'', cc.R1.below hb'', cc.R2.below hb'', cc.R3.below hb'', cc.R4.below hb'', fun h => cc.c0 (T 0 (by decide) h), fun h => cc.c1 (T 1 (by decide) h), fun h => cc.c2 (T 2 (by decide) h), fun h => cc.c3 (T 3 (by decide) h), fun h => cc.c4 (T 4 (by decide) h), fun h => cc.c5 (T 5 (by decide) h), fun h => cc.c6 (T 6 (by decide) h), fun _ => rfl, fun h => cc.c8 (T 8 (by decide) h), fun h => cc.c9 (T 9 (by decide) h), fun h => by obtain ⟨g', c', e', k1, k2, k3, k4⟩ := cc.c10 (T 10 (by decide) h); exact ⟨g', c', e', k1, k2.below hb'', k3, fun h6 => k4 (T 11 (by decide) h6)⟩, fun h => S 10 (cc.c11 (T 11 (by decide) h))⟩⟩
      · simp at ho
        subst ho
        have T : ∀ j, j ≠ 8 → (listed.setIfInBounds 8 true).getD j false = true → listed.getD j false = true := fun j hj h => (done_set h).resolve_left hj
        have S : ∀ j, listed.getD j false = true → (listed.setIfInBounds 8 true).getD j false = true := fun j h => done_keep h
        exact wp_rowF 24 (.tmp 7) rfl (w.heap.size + 1 + 1 + 1) ((hF.old (by kernel_rfl)).trans rfl) cc.R3 rfl Try.underlying24 (by kernel_rfl) ⟨_, rfl, ⟨cc.bw, cc.ms, cc.R0, cc.R1, cc.R2, cc.R3, cc.R4, fun h => cc.c0 (T 0 (by decide) h), fun h => cc.c1 (T 1 (by decide) h), fun h => cc.c2 (T 2 (by decide) h), fun h => cc.c3 (T 3 (by decide) h), fun h => cc.c4 (T 4 (by decide) h), fun h => cc.c5 (T 5 (by decide) h), fun h => cc.c6 (T 6 (by decide) h), fun h => cc.c7 (T 7 (by decide) h), fun _ => rfl, fun h => cc.c9 (T 9 (by decide) h), fun h => by obtain ⟨g', c', e', k1, k2, k3, k4⟩ := cc.c10 (T 10 (by decide) h); exact ⟨g', c', e', k1, k2, k3, fun h6 => k4 (T 11 (by decide) h6)⟩, fun h => S 10 (cc.c11 (T 11 (by decide) h))⟩⟩
      · simp at ho
        subst ho
        have T : ∀ j, j ≠ 9 → (listed.setIfInBounds 9 true).getD j false = true → listed.getD j false = true := fun j hj h => (done_set h).resolve_left hj
        have S : ∀ j, listed.getD j false = true → (listed.setIfInBounds 9 true).getD j false = true := fun j h => done_keep h
        have hv0 := ((hF.new (t := 21) (i := 3) (by kernel_rfl) (by simp) (waits_done (i := 9) (j := 3) (by kernel_rfl) hi)).trans (cc.c3 (waits_done (i := 9) (j := 3) (by kernel_rfl) hi)))
        have hv1 := ((hF.new (t := 25) (i := 7) (by kernel_rfl) (by simp) (waits_done (i := 9) (j := 7) (by kernel_rfl) hi)).trans (cc.c7 (waits_done (i := 9) (j := 7) (by kernel_rfl) hi)))
        have hv2 := ((hF.new (t := 26) (i := 8) (by kernel_rfl) (by simp) (waits_done (i := 9) (j := 8) (by kernel_rfl) hi)).trans (cc.c8 (waits_done (i := 9) (j := 8) (by kernel_rfl) hi)))
        refine wp_callF (f := 16) (args := #[U p, U k, U m]) (v := U x) (by simp [execOp_call_go, ev hv0, ev hv1, ev hv2, go_sem]) (h5.out w') ?_
        intro w'' hb''
        exact ⟨_, rfl, ⟨cc.bw.trans (hb''.mono cc.bw.size), Nat.le_trans cc.ms hb''.size, cc.R0.below hb'', cc.R1.below hb'', cc.R2.below hb'', cc.R3.below hb'', cc.R4.below hb'', fun h => cc.c0 (T 0 (by decide) h), fun h => cc.c1 (T 1 (by decide) h), fun h => cc.c2 (T 2 (by decide) h), fun h => cc.c3 (T 3 (by decide) h), fun h => cc.c4 (T 4 (by decide) h), fun h => cc.c5 (T 5 (by decide) h), fun h => cc.c6 (T 6 (by decide) h), fun h => cc.c7 (T 7 (by decide) h), fun h => cc.c8 (T 8 (by decide) h), fun _ => rfl, fun h => by obtain ⟨g', c', e', k1, k2, k3, k4⟩ := cc.c10 (T 10 (by decide) h); exact ⟨g', c', e', k1, k2.below hb'', k3, fun h6 => k4 (T 11 (by decide) h6)⟩, fun h => S 10 (cc.c11 (T 11 (by decide) h))⟩⟩
      · simp at ho
        subst ho
        have T : ∀ j, j ≠ 10 → (listed.setIfInBounds 10 true).getD j false = true → listed.getD j false = true := fun j hj h => (done_set h).resolve_left hj
        have S : ∀ j, listed.getD j false = true → (listed.setIfInBounds 10 true).getD j false = true := fun j h => done_keep h
        have hun : ¬ listed.getD 10 false = true := fun h => undone hi hs h
        exact wp_valF (v := .pointer (some ⟨w'.heap.size, 0, none⟩)) (w1 := w'.alloc (.cells #[.int .u64 0, .int .u64 0, .int .u64 0, .int .u64 0] 24)) (by simp [execOp, go_sem]) ⟨_, rfl, ⟨bel_alloc cc.bw _, by have := cc.ms; simp; omega, cc.R0.old, cc.R1.old, cc.R2.old, cc.R3.old, cc.R4.old, fun h => cc.c0 (T 0 (by decide) h), fun h => cc.c1 (T 1 (by decide) h), fun h => cc.c2 (T 2 (by decide) h), fun h => cc.c3 (T 3 (by decide) h), fun h => cc.c4 (T 4 (by decide) h), fun h => cc.c5 (T 5 (by decide) h), fun h => cc.c6 (T 6 (by decide) h), fun h => cc.c7 (T 7 (by decide) h), fun h => cc.c8 (T 8 (by decide) h), fun h => cc.c9 (T 9 (by decide) h), fun _ => ⟨w'.heap.size, #[.int .u64 0, .int .u64 0, .int .u64 0, .int .u64 0], rfl, cc.ms, HasRow.last rfl, rfl, fun h6 => absurd (cc.c11 (T 11 (by decide) h6)) hun⟩, fun h => S 10 (cc.c11 (T 11 (by decide) h))⟩⟩
      · simp at ho
        subst ho
        have T : ∀ j, j ≠ 11 → (listed.setIfInBounds 11 true).getD j false = true → listed.getD j false = true := fun j hj h => (done_set h).resolve_left hj
        have S : ∀ j, listed.getD j false = true → (listed.setIfInBounds 11 true).getD j false = true := fun j h => done_keep h
        have d4 := (waits_done (i := 11) (j := 10) (by kernel_rfl) hi)
        obtain ⟨g, c, e, h1, h2, h3, h4⟩ := cc.c10 d4
        have hx := (hF.new (t := 10) (i := 10) (by kernel_rfl) (by simp) d4).trans e
        have hv := ((hF.new (t := 27) (i := 9) (by kernel_rfl) (by simp) (waits_done (i := 11) (j := 9) (by kernel_rfl) hi)).trans (cc.c9 (waits_done (i := 11) (j := 9) (by kernel_rfl) hi)))
        exact wp_rowS 24 (.tmp 10) (.tmp 27) rfl g (c' := #[B (l0 x), B (l1 x), B (l2 x), B (l3 x)]) hx hv h2 h3 rfl (by simp [Value.oneCell']) (by kernel_rfl) ⟨_, rfl, ⟨below_setRow cc.bw (by omega) _, by rw [size_setRow]; exact cc.ms, cc.R0.set_other _ (by omega), cc.R1.set_other _ (by omega), cc.R2.set_other _ (by omega), cc.R3.set_other _ (by omega), cc.R4.set_other _ (by omega), fun h => cc.c0 (T 0 (by decide) h), fun h => cc.c1 (T 1 (by decide) h), fun h => cc.c2 (T 2 (by decide) h), fun h => cc.c3 (T 3 (by decide) h), fun h => cc.c4 (T 4 (by decide) h), fun h => cc.c5 (T 5 (by decide) h), fun h => cc.c6 (T 6 (by decide) h), fun h => cc.c7 (T 7 (by decide) h), fun h => cc.c8 (T 8 (by decide) h), fun h => cc.c9 (T 9 (by decide) h), fun h => ⟨g, _, e, h1, h2.set_same _, rfl, fun _ => rfl⟩, fun _ => S 10 d4⟩⟩
    · intro listed vs a' w' hd hF cc

      have e : a' = ({ tmps := #[U a, U b, U c, U m, .pointer (some ⟨w.heap.size, 0, none⟩), .pointer (some ⟨w.heap.size + 1, 0, none⟩), .pointer (some ⟨w.heap.size + 1 + 1, 0, none⟩), .pointer (some ⟨w.heap.size + 1 + 1 + 1, 0, none⟩), .bool false, .pointer (some ⟨g9, 0, none⟩), vs 10, p11, p12, p13, p14, p15, p16, p17, vs 0, vs 1, vs 2, vs 3, vs 4, vs 5, vs 6, vs 7, vs 8, vs 9, undef, undef, undef, undef, undef, undef, undef, undef, undef, undef, undef, undef, undef, undef, undef, undef, undef, undef, undef, undef, undef, undef, undef, undef, undef, undef, undef, undef, undef, undef, undef, undef, undef, undef, undef, undef, undef, undef, undef, undef, undef, undef, undef, undef], defers := [] } : Act) := (hF.all hd).trans (by kernel_rfl)
      subst e
      obtain ⟨g10, c10, e10, a1, a2, a3, a4⟩ := cc.c10 (hd 10 (by simp))
      have V : Hid (HasRow w' (w.heap.size) #[B (l0 a), B (l1 a), B (l2 a), B (l3 a)] ∧ HasRow w' (w.heap.size + 1) #[B (l0 b), B (l1 b), B (l2 b), B (l3 b)] ∧ HasRow w' (w.heap.size + 1 + 1) #[B (l0 c), B (l1 c), B (l2 c), B (l3 c)] ∧ HasRow w' (w.heap.size + 1 + 1 + 1) #[B (l0 m), B (l1 m), B (l2 m), B (l3 m)] ∧ HasRow w' g9 #[B (l0 x), B (l1 x), B (l2 x), B (l3 x)] ∧ HasRow w' g10 #[B (l0 x), B (l1 x), B (l2 x), B (l3 x)] ∧ Below w.heap.size w w') := ⟨cc.R0, cc.R1, cc.R2, cc.R3, cc.R4, a4 (hd 11 (by simp)) ▸ a2, cc.bw⟩
      rw [e10]
      generalize vs 0 = p18
      generalize vs 1 = p19
      generalize vs 2 = p20
      generalize vs 3 = p21
      generalize vs 4 = p22
      generalize vs 5 = p23
      generalize vs 6 = p24
      generalize vs 7 = p25
      generalize vs 8 = p26
      generalize vs 9 = p27
      clear cc hd hF e10 a1 a2 a3 a4
      go_wp2_with fail
      have d0_0 : w'.cell? ⟨w.heap.size, 0, none⟩ = some (B (l0 a)) := V.out.1.cell 0
      have d0_1 : w'.cell? ⟨w.heap.size, 1, none⟩ = some (B (l1 a)) := V.out.1.cell 1
      have d0_2 : w'.cell? ⟨w.heap.size, 2, none⟩ = some (B (l2 a)) := V.out.1.cell 2
      have d0_3 : w'.cell? ⟨w.heap.size, 3, none⟩ = some (B (l3 a)) := V.out.1.cell 3
      have d1_0 : w'.cell? ⟨w.heap.size + 1, 0, none⟩ = some (B (l0 b)) := V.out.2.1.cell 0
      have d1_1 : w'.cell? ⟨w.heap.size + 1, 1, none⟩ = some (B (l1 b)) := V.out.2.1.cell 1
      have d1_2 : w'.cell? ⟨w.heap.size + 1, 2, none⟩ = some (B (l2 b)) := V.out.2.1.cell 2
      have d1_3 : w'.cell? ⟨w.heap.size + 1, 3, none⟩ = some (B (l3 b)) := V.out.2.1.cell 3
      have d2_0 : w'.cell? ⟨w.heap.size + 1 + 1 + 1, 0, none⟩ = some (B (l0 m)) := V.out.2.2.2.1.cell 0
      have d2_1 : w'.cell? ⟨w.heap.size + 1 + 1 + 1, 1, none⟩ = some (B (l1 m)) := V.out.2.2.2.1.cell 1
      have d2_2 : w'.cell? ⟨w.heap.size + 1 + 1 + 1, 2, none⟩ = some (B (l2 m)) := V.out.2.2.2.1.cell 2
      have d2_3 : w'.cell? ⟨w.heap.size + 1 + 1 + 1, 3, none⟩ = some (B (l3 m)) := V.out.2.2.2.1.cell 3
      have d3_0 : w'.cell? ⟨g9, 0, none⟩ = some (B (l0 x)) := V.out.2.2.2.2.1.cell 0
      have d3_1 : w'.cell? ⟨g9, 1, none⟩ = some (B (l1 x)) := V.out.2.2.2.2.1.cell 1
      have d3_2 : w'.cell? ⟨g9, 2, none⟩ = some (B (l2 x)) := V.out.2.2.2.2.1.cell 2
      have d3_3 : w'.cell? ⟨g9, 3, none⟩ = some (B (l3 x)) := V.out.2.2.2.2.1.cell 3
      have d4_0 : w'.cell? ⟨g10, 0, none⟩ = some (B (l0 x)) := V.out.2.2.2.2.2.1.cell 0
      have d4_1 : w'.cell? ⟨g10, 1, none⟩ = some (B (l1 x)) := V.out.2.2.2.2.2.1.cell 1
      have d4_2 : w'.cell? ⟨g10, 2, none⟩ = some (B (l2 x)) := V.out.2.2.2.2.2.1.cell 2
      have d4_3 : w'.cell? ⟨g10, 3, none⟩ = some (B (l3 x)) := V.out.2.2.2.2.2.1.cell 3
      replace d0_0 := cell_regrown d0_0
      replace d0_1 := cell_regrown d0_1
      replace d0_2 := cell_regrown d0_2
      replace d0_3 := cell_regrown d0_3
      replace d1_0 := cell_regrown d1_0
      replace d1_1 := cell_regrown d1_1
      replace d1_2 := cell_regrown d1_2
      replace d1_3 := cell_regrown d1_3
      replace d2_0 := cell_regrown d2_0
      replace d2_1 := cell_regrown d2_1
      replace d2_2 := cell_regrown d2_2
      replace d2_3 := cell_regrown d2_3
      replace d3_0 := cell_regrown d3_0
      replace d3_1 := cell_regrown d3_1
      replace d3_2 := cell_regrown d3_2
      replace d3_3 := cell_regrown d3_3
      replace d4_0 := cell_regrown d4_0
      replace d4_1 := cell_regrown d4_1
      replace d4_2 := cell_regrown d4_2
      replace d4_3 := cell_regrown d4_3
      refine wp_region_quiet_below (by kernel_rfl) (by kernel_rfl) ?_
      repeat (go_big_quiet_step (fail))
      go_big_quiet_step ((exact Calls.regrown_of (h3.out _)))
      repeat (go_big_quiet_step (fail))
      go_big_quiet_step ((exact Calls.regrown_of (h6.out _)))
      repeat (go_big_quiet_step (fail))
      go_big_quiet_step ((exact Calls.regrown_of (h7.out _)))
      repeat (go_big_quiet_step (fail))
      go_big_quiet_step ((exact Calls.regrown_of (h8.out _)))
      repeat (go_big_quiet_step (fail))
      go_big_quiet_step ((exact Calls.regrown_of (h9.out _)))
      repeat (go_big_quiet_step (fail))
      go_big_quiet_step ((exact Calls.regrown_of (ha.out _)))
      repeat (go_big_quiet_step (fail))
      refine wpQuiet_nil ?_
      intro _ hw'
      obtain ⟨⟨dq', osq⟩, hw''⟩ := hw'
      subst hw''
      go_wp2
      go_ret
      exact ⟨rfl, bel_call V.out.2.2.2.2.2.2 (below_regrown w' dq' osq)⟩

theorem spreads3_walk (a b c m : Nat) (ha : a < W) (hb : b < W) (hc : c < W) (hm : m < W) (w : World) : Calls Try.prog 7 #[U a, U b, U c, U m] w fun e w' => e = .returned (.bool true) ∧ Below w.heap.size w w' := by
  have e1 : rm (a * rm (b + c) m) m = rm (a * (b + c)) m := rm_mul_right _ _ _
  have e2 : rm (rm (a * b) m + rm (a * c) m) m = rm (a * (b + c)) m := by rw [rm_add, Nat.mul_add]
  have H1 := addmod_any b c m hb hc hm
  have H2 : ∀ w, Calls Try.prog 18 #[U a, U (rm (b + c) m), U m] w fun e w' => e = .returned (U (rm (a * (b + c)) m)) ∧ Below w.heap.size w w' := fun w => by
    have h := mulmod_any a (rm (b + c) m) m ha (rm_lt _ hm) hm w
    rw [e1] at h; exact h
  have H3 := mulmod_any a b m ha hb hm
  have H4 := mulmod_any a c m ha hc hm
  have H5 : ∀ w, Calls Try.prog 16 #[U (rm (a * b) m), U (rm (a * c) m), U m] w fun e w' => e = .returned (U (rm (a * (b + c)) m)) ∧ Below w.heap.size w w' := fun w => by
    have h := addmod_any (rm (a * b) m) (rm (a * c) m) m (rm_lt _ hm) (rm_lt _ hm) hm w
    rw [e2] at h; exact h
  have H6 : ∀ w, Calls Try.prog 18 #[U b, U a, U m] w fun e w' => e = .returned (U (rm (a * b) m)) ∧ Below w.heap.size w w' := fun w => by
    have h := mulmod_any b a m hb ha hm w
    rw [Nat.mul_comm b a] at h; exact h
  have H7 := addmod_any a b m ha hb hm
  have H8 : ∀ w, Calls Try.prog 16 #[U b, U a, U m] w fun e w' => e = .returned (U (rm (a + b) m)) ∧ Below w.heap.size w w' := fun w => by
    have h := addmod_any b a m hb ha hm w
    rw [Nat.add_comm b a] at h; exact h
  rcases Nat.eq_zero_or_pos m with h0 | h0
  · subst h0
    simp only [rm_zero, U_zero] at H1 H2 H3 H4 H5 H6 H7 H8
    rw [U_zero]
    have eZ : (I4 0 0 0 0) = U 0 := U_zero.symm
    refine spreads0_raw a b c 0 0 0 0 ?_ ?_ ?_ ?_ ?_ ?_ ?_ ?_ awake3_any w
    · rw [U_zero]; exact H1
    · rw [U_zero]; exact H2
    · rw [U_zero]; exact H3
    · rw [U_zero]; exact H4
    · rw [U_zero]; exact H5
    · rw [U_zero]; exact H6
    · rw [U_zero]; exact H7
    · rw [U_zero]; exact H8
  · refine spreads1_raw a b c m _ _ _ _ _ H1 H2 H3 H4 H5 H6 H7 H8 (fun w => ?_) (fun w => ?_) awake3_any w
    · have h := rcmp_any (rm (a * (b + c)) m) m (rm_lt _ hm) hm w
      have e : cmpN (rm (a * (b + c)) m) m = -1 := by unfold cmpN; rw [if_pos (rm_small _ h0)]
      rw [e] at h
      exact h
    · have h := eqU_lit m 0 hm W_pos _ U_zero w
      rw [decide_eq_false (by omega)] at h
      exact h
end Go.Proofs.Ytillbhdcnhcbhaa
