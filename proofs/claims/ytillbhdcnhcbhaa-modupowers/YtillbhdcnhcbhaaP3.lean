/- The law ModuPowers, walked. -/
import Derived.Test.YtillbhdcnhcbhaaMx
import Derived.Lib.QuietBelow
import Derived.BigQuiet
import Derived.WalkMore
namespace Go.Proofs.Ytillbhdcnhcbhaa
open Go.RowKit Go.Sort
set_option linter.unusedVariables false
attribute [local go_sem] run_eq4 run_eqU_same
structure CP2 (w : World) (N0 : Nat) (a m i k n x1 x2 x3 : Nat) (listed : Array Bool) (vs : Nat → Value) (w' : World) : Prop where
  bw : Below w.heap.size w w'
  ms : N0 ≤ w'.heap.size
  R0 : HasRow w' (w.heap.size) #[B (l0 a), B (l1 a), B (l2 a), B (l3 a)]
  R1 : HasRow w' (w.heap.size + 1) #[B (l0 m), B (l1 m), B (l2 m), B (l3 m)]
  R2 : HasRow w' (w.heap.size + 1 + 1) #[.int .u64 (n : Nat), .int .u64 0, .int .u64 0, .int .u64 0]
  c0 : listed.getD 0 false = true → vs 0 = U a
  c1 : listed.getD 1 false = true → vs 1 = .int .u32 (i : Nat)
  c2 : listed.getD 2 false = true → vs 2 = .int .u64 (i : Nat)
  c3 : listed.getD 3 false = true → vs 3 = I4 (i : Nat) 0 0 0
  c4 : listed.getD 4 false = true → vs 4 = U x1
  c5 : listed.getD 5 false = true → vs 5 = U a
  c6 : listed.getD 6 false = true → vs 6 = .int .u32 (k : Nat)
  c7 : listed.getD 7 false = true → vs 7 = .int .u64 (k : Nat)
  c8 : listed.getD 8 false = true → vs 8 = I4 (k : Nat) 0 0 0
  c9 : listed.getD 9 false = true → vs 9 = U x2
  c10 : listed.getD 10 false = true → vs 10 = U x3
  c11 : listed.getD 11 false = true → ∃ g c, vs 11 = .pointer (some ⟨g, 0, none⟩) ∧ N0 ≤ g ∧ HasRow w' g c ∧ c.size = 4 ∧ (listed.getD 12 false = true → c = #[B (l0 x3), B (l1 x3), B (l2 x3), B (l3 x3)])
  c12 : listed.getD 12 false = true → listed.getD 11 false = true
structure CP3 (w : World) (N0 : Nat) (g10 a m i k n x3 y1 y2 h l : Nat) (listed : Array Bool) (vs : Nat → Value) (w' : World) : Prop where
  bw : Below w.heap.size w w'
  ms : N0 ≤ w'.heap.size
  R0 : HasRow w' (w.heap.size) #[B (l0 a), B (l1 a), B (l2 a), B (l3 a)]
  R1 : HasRow w' (w.heap.size + 1) #[B (l0 m), B (l1 m), B (l2 m), B (l3 m)]
  R2 : HasRow w' (w.heap.size + 1 + 1) #[.int .u64 (n : Nat), .int .u64 0, .int .u64 0, .int .u64 0]
  R3 : HasRow w' (g10) #[B (l0 x3), B (l1 x3), B (l2 x3), B (l3 x3)]
  c0 : listed.getD 0 false = true → vs 0 = U a
  c1 : listed.getD 1 false = true → vs 1 = .int .u32 (i : Nat)
  c2 : listed.getD 2 false = true → vs 2 = .int .u64 (i : Nat)
  c3 : listed.getD 3 false = true → vs 3 = I4 (i : Nat) 0 0 0
  c4 : listed.getD 4 false = true → vs 4 = U m
  c5 : listed.getD 5 false = true → vs 5 = U y1
  c6 : listed.getD 6 false = true → vs 6 = U a
  c7 : listed.getD 7 false = true → vs 7 = .int .u32 (k : Nat)
  c8 : listed.getD 8 false = true → vs 8 = .int .u64 (k : Nat)
  c9 : listed.getD 9 false = true → vs 9 = I4 (k : Nat) 0 0 0
  c10 : listed.getD 10 false = true → vs 10 = U m
  c11 : listed.getD 11 false = true → vs 11 = U y2
  c12 : listed.getD 12 false = true → vs 12 = .tuple #[U h, U l]
  c13 : listed.getD 13 false = true → vs 13 = .tuple #[U h, U l]
  c14 : listed.getD 14 false = true → vs 14 = U h
  c15 : listed.getD 15 false = true → vs 15 = U l
  c16 : listed.getD 16 false = true → ∃ g c, vs 16 = .pointer (some ⟨g, 0, none⟩) ∧ N0 ≤ g ∧ HasRow w' g c ∧ c.size = 4 ∧ (listed.getD 18 false = true → c = #[B (l0 h), B (l1 h), B (l2 h), B (l3 h)])
  c17 : listed.getD 17 false = true → ∃ g c, vs 17 = .pointer (some ⟨g, 0, none⟩) ∧ N0 ≤ g ∧ HasRow w' g c ∧ c.size = 4 ∧ (listed.getD 19 false = true → c = #[B (l0 l), B (l1 l), B (l2 l), B (l3 l)])
  c18 : listed.getD 18 false = true → listed.getD 16 false = true
  c19 : listed.getD 19 false = true → listed.getD 17 false = true
  ne16_17 : listed.getD 16 false = true → listed.getD 17 false = true → vs 16 ≠ vs 17

set_option maxRecDepth 100000 in
set_option maxHeartbeats 4000000 in
theorem powers_gen (a m i k n x1 x2 x3 y1 y2 h l y : Nat)
    (hi : i < 4294967296)
    (hk : k < 4294967296)
    (ei : IntKind.u64.wrap (i : Int) = (i : Int))
    (ek : IntKind.u64.wrap (k : Int) = (k : Int))
    (en : IntKind.u64.wrap ((i : Int) + (k : Int)) = (n : Int))
    (x1c : Hid (∀ w, Calls Try.prog 20 #[U a, I4 (i : Nat) 0 0 0] w fun e w' => e = .returned (U x1) ∧ Below w.heap.size w w'))
    (x2c : Hid (∀ w, Calls Try.prog 20 #[U a, I4 (k : Nat) 0 0 0] w fun e w' => e = .returned (U x2) ∧ Below w.heap.size w w'))
    (x3c : Hid (∀ w, Calls Try.prog 27 #[U x1, U x2] w fun e w' => e = .returned (U x3) ∧ Below w.heap.size w w'))
    (y1c : Hid (∀ w, Calls Try.prog 22 #[U a, I4 (i : Nat) 0 0 0, U m] w fun e w' => e = .returned (U y1) ∧ Below w.heap.size w w'))
    (y2c : Hid (∀ w, Calls Try.prog 22 #[U a, I4 (k : Nat) 0 0 0, U m] w fun e w' => e = .returned (U y2) ∧ Below w.heap.size w w'))
    (wc : Hid (∀ w, Calls Try.prog 25 #[U y1, U y2] w fun e w' => e = .returned (.tuple #[U h, U l]) ∧ Below w.heap.size w w'))
    (z1c : Hid (∀ w, Calls Try.prog 20 #[U a, I4 (n : Nat) 0 0 0] w fun e w' => e = .returned (U x3) ∧ Below w.heap.size w w'))
    (z2c : Hid (∀ w, Calls Try.prog 22 #[U a, I4 (n : Nat) 0 0 0, U m] w fun e w' => e = .returned (U y) ∧ Below w.heap.size w w'))
    (z3c : Hid (∀ w, Calls Try.prog 12 #[U h, U l, U m] w fun e w' => e = .returned (U y) ∧ Below w.heap.size w w'))
    (ha : Hid (∀ w, Calls Try.prog 24 #[] w fun e w' => e = .returned (.bool true) ∧ Below w.heap.size w w')) (w : World) :
    Calls Try.prog 6 #[U a, U m, .int .u32 (i : Nat), .int .u32 (k : Nat)] w fun e w' => e = .returned (.bool true) ∧ Below w.heap.size w w' := by
  go_enter Try.func6, Try.ntmps6
  go_wp2_with fail
  refine name_world _ ?_
  intro wF hF0
  have r0 : Hid (HasRow wF (w.heap.size) #[B (l0 a), B (l1 a), B (l2 a), B (l3 a)]) := by rw [hF0]; exact (HasRow.old (HasRow.old (HasRow.last rfl)))
  have r1 : Hid (HasRow wF (w.heap.size + 1) #[B (l0 m), B (l1 m), B (l2 m), B (l3 m)]) := by rw [hF0]; exact (HasRow.old (HasRow.last (by simp)))
  have r2 : Hid (HasRow wF (w.heap.size + 1 + 1) #[.int .u64 (n : Nat), .int .u64 0, .int .u64 0, .int .u64 0]) := by rw [hF0]; exact (HasRow.last (by simp))
  have rB : Hid (Below w.heap.size w wF) := by rw [hF0]; exact (by (repeat (first | exact Below.refl _ _ | refine bel_alloc ?_ _)))
  obtain ⟨N0, hN0⟩ : ∃ n, n = wF.heap.size := ⟨_, rfl⟩
  have hN : w.heap.size + 1 + 1 < N0 := by rw [hN0]; exact r2.out.lt
  clear hF0
  refine wp_region_vals2 (by kernel_rfl) (by kernel_rfl) (by kernel_rfl) (CP2 w N0 a m i k n x1 x2 x3) ?_ ?_ ?_
  · refine ⟨rB.out.drew, by rw [hN0]; exact Nat.le_refl _, r0.out, r1.out, r2.out, ?_, ?_, ?_, ?_, ?_, ?_, ?_, ?_, ?_, ?_, ?_, ?_, ?_⟩ <;> (intro h; simp [Array.getD] at h)
  · intro listed vs a' w' i o' hs ho hi hF cc
    have hin : i < 13 := by have := (Array.getElem?_eq_some_iff.1 ho).1; simpa using this
    have hcase : i = 0 ∨ i = 1 ∨ i = 2 ∨ i = 3 ∨ i = 4 ∨ i = 5 ∨ i = 6 ∨ i = 7 ∨ i = 8 ∨ i = 9 ∨ i = 10 ∨ i = 11 ∨ i = 12 := by omega
    rcases hcase with rfl | rfl | rfl | rfl | rfl | rfl | rfl | rfl | rfl | rfl | rfl | rfl | rfl
    · simp at ho
      subst ho
      have T : ∀ j, j ≠ 0 → (listed.setIfInBounds 0 true).getD j false = true → listed.getD j false = true := fun j hj h => (done_set h).resolve_left hj
      have S : ∀ j, listed.getD j false = true → (listed.setIfInBounds 0 true).getD j false = true := fun j h => done_keep h
      exact wp_rowF 24 (.tmp 4) rfl (w.heap.size) ((hF.old (by kernel_rfl)).trans rfl) cc.R0 rfl Try.underlying24 (by kernel_rfl) ⟨_, rfl, ⟨cc.bw, cc.ms, cc.R0, cc.R1, cc.R2, fun _ => rfl, fun h => cc.c1 (T 1 (by decide) h), fun h => cc.c2 (T 2 (by decide) h), fun h => cc.c3 (T 3 (by decide) h), fun h => cc.c4 (T 4 (by decide) h), fun h => cc.c5 (T 5 (by decide) h), fun h => cc.c6 (T 6 (by decide) h), fun h => cc.c7 (T 7 (by decide) h), fun h => cc.c8 (T 8 (by decide) h), fun h => cc.c9 (T 9 (by decide) h), fun h => cc.c10 (T 10 (by decide) h), fun h => by obtain ⟨g', c', e', k1, k2, k3, k4⟩ := cc.c11 (T 11 (by decide) h); exact ⟨g', c', e', k1, k2, k3, fun h6 => k4 (T 12 (by decide) h6)⟩, fun h => S 11 (cc.c12 (T 12 (by decide) h))⟩⟩
    · simp at ho
      subst ho
      have T : ∀ j, j ≠ 1 → (listed.setIfInBounds 1 true).getD j false = true → listed.getD j false = true := fun j hj h => (done_set h).resolve_left hj
      have S : ∀ j, listed.getD j false = true → (listed.setIfInBounds 1 true).getD j false = true := fun j h => done_keep h
      have hv : a'.eval (.tmp 2) = .int .u32 (i : Nat) := (hF.old (by kernel_rfl)).trans rfl
      exact wp_valF (v := .int .u32 (i : Nat)) (w1 := w') (by simp [execOp, go_sem, ev hv]) ⟨_, rfl, ⟨cc.bw, cc.ms, cc.R0, cc.R1, cc.R2, fun h => cc.c0 (T 0 (by decide) h), fun _ => rfl, fun h => cc.c2 (T 2 (by decide) h), fun h => cc.c3 (T 3 (by decide) h), fun h => cc.c4 (T 4 (by decide) h), fun h => cc.c5 (T 5 (by decide) h), fun h => cc.c6 (T 6 (by decide) h), fun h => cc.c7 (T 7 (by decide) h), fun h => cc.c8 (T 8 (by decide) h), fun h => cc.c9 (T 9 (by decide) h), fun h => cc.c10 (T 10 (by decide) h), fun h => by obtain ⟨g', c', e', k1, k2, k3, k4⟩ := cc.c11 (T 11 (by decide) h); exact ⟨g', c', e', k1, k2, k3, fun h6 => k4 (T 12 (by decide) h6)⟩, fun h => S 11 (cc.c12 (T 12 (by decide) h))⟩⟩
    · simp at ho
      subst ho
      have T : ∀ j, j ≠ 2 → (listed.setIfInBounds 2 true).getD j false = true → listed.getD j false = true := fun j hj h => (done_set h).resolve_left hj
      have S : ∀ j, listed.getD j false = true → (listed.setIfInBounds 2 true).getD j false = true := fun j h => done_keep h
      have hv := ((hF.new (t := 20) (i := 1) (by kernel_rfl) (by simp) (waits_done (i := 2) (j := 1) (by kernel_rfl) hi)).trans (cc.c1 (waits_done (i := 2) (j := 1) (by kernel_rfl) hi)))
      exact wp_valF (v := .int .u64 (i : Nat)) (w1 := w') (by simp [execOp, go_sem, ev hv, ei]) ⟨_, rfl, ⟨cc.bw, cc.ms, cc.R0, cc.R1, cc.R2, fun h => cc.c0 (T 0 (by decide) h), fun h => cc.c1 (T 1 (by decide) h), fun _ => rfl, fun h => cc.c3 (T 3 (by decide) h), fun h => cc.c4 (T 4 (by decide) h), fun h => cc.c5 (T 5 (by decide) h), fun h => cc.c6 (T 6 (by decide) h), fun h => cc.c7 (T 7 (by decide) h), fun h => cc.c8 (T 8 (by decide) h), fun h => cc.c9 (T 9 (by decide) h), fun h => cc.c10 (T 10 (by decide) h), fun h => by obtain ⟨g', c', e', k1, k2, k3, k4⟩ := cc.c11 (T 11 (by decide) h); exact ⟨g', c', e', k1, k2, k3, fun h6 => k4 (T 12 (by decide) h6)⟩, fun h => S 11 (cc.c12 (T 12 (by decide) h))⟩⟩
    · simp at ho
      subst ho
      have T : ∀ j, j ≠ 3 → (listed.setIfInBounds 3 true).getD j false = true → listed.getD j false = true := fun j hj h => (done_set h).resolve_left hj
      have S : ∀ j, listed.getD j false = true → (listed.setIfInBounds 3 true).getD j false = true := fun j h => done_keep h
      have hv := ((hF.new (t := 21) (i := 2) (by kernel_rfl) (by simp) (waits_done (i := 3) (j := 2) (by kernel_rfl) hi)).trans (cc.c2 (waits_done (i := 3) (j := 2) (by kernel_rfl) hi)))
      exact wp_valF (v := I4 (i : Nat) 0 0 0) (w1 := w') (by simp [execOp, go_sem, ev hv]) ⟨_, rfl, ⟨cc.bw, cc.ms, cc.R0, cc.R1, cc.R2, fun h => cc.c0 (T 0 (by decide) h), fun h => cc.c1 (T 1 (by decide) h), fun h => cc.c2 (T 2 (by decide) h), fun _ => rfl, fun h => cc.c4 (T 4 (by decide) h), fun h => cc.c5 (T 5 (by decide) h), fun h => cc.c6 (T 6 (by decide) h), fun h => cc.c7 (T 7 (by decide) h), fun h => cc.c8 (T 8 (by decide) h), fun h => cc.c9 (T 9 (by decide) h), fun h => cc.c10 (T 10 (by decide) h), fun h => by obtain ⟨g', c', e', k1, k2, k3, k4⟩ := cc.c11 (T 11 (by decide) h); exact ⟨g', c', e', k1, k2, k3, fun h6 => k4 (T 12 (by decide) h6)⟩, fun h => S 11 (cc.c12 (T 12 (by decide) h))⟩⟩
    · simp at ho
      subst ho
      have T : ∀ j, j ≠ 4 → (listed.setIfInBounds 4 true).getD j false = true → listed.getD j false = true := fun j hj h => (done_set h).resolve_left hj
      have S : ∀ j, listed.getD j false = true → (listed.setIfInBounds 4 true).getD j false = true := fun j h => done_keep h
      have hv0 := ((hF.new (t := 19) (i := 0) (by kernel_rfl) (by simp) (waits_done (i := 4) (j := 0) (by kernel_rfl) hi)).trans (cc.c0 (waits_done (i := 4) (j := 0) (by kernel_rfl) hi)))
      have hv1 := ((hF.new (t := 22) (i := 3) (by kernel_rfl) (by simp) (waits_done (i := 4) (j := 3) (by kernel_rfl) hi)).trans (cc.c3 (waits_done (i := 4) (j := 3) (by kernel_rfl) hi)))
      refine wp_callF (f := 20) (args := #[U a, I4 (i : Nat) 0 0 0]) (v := U x1) (by simp [execOp_call_go, ev hv0, ev hv1, go_sem]) (x1c.out w') ?_
      intro w'' hb''
      exact ⟨_, rfl, ⟨cc.bw.trans (hb''.mono cc.bw.size), Nat.le_trans cc.ms hb''.size, cc.R0.below hb'', cc.R1.below hb'', cc.R2.below hb'', fun h => cc.c0 (T 0 (by decide) h), fun h => cc.c1 (T 1 (by decide) h), fun h => cc.c2 (T 2 (by decide) h), fun h => cc.c3 (T 3 (by decide) h), fun _ => rfl, fun h => cc.c5 (T 5 (by decide) h), fun h => cc.c6 (T 6 (by decide) h), fun h => cc.c7 (T 7 (by decide) h), fun h => cc.c8 (T 8 (by decide) h), fun h => cc.c9 (T 9 (by decide) h), fun h => cc.c10 (T 10 (by decide) h), fun h => by obtain ⟨g', c', e', k1, k2, k3, k4⟩ := cc.c11 (T 11 (by decide) h); exact ⟨g', c', e', k1, k2.below hb'', k3, fun h6 => k4 (T 12 (by decide) h6)⟩, fun h => S 11 (cc.c12 (T 12 (by decide) h))⟩⟩
    · simp at ho
      subst ho
      have T : ∀ j, j ≠ 5 → (listed.setIfInBounds 5 true).getD j false = true → listed.getD j false = true := fun j hj h => (done_set h).resolve_left hj
      have S : ∀ j, listed.getD j false = true → (listed.setIfInBounds 5 true).getD j false = true := fun j h => done_keep h
      exact wp_rowF 24 (.tmp 4) rfl (w.heap.size) ((hF.old (by kernel_rfl)).trans rfl) cc.R0 rfl Try.underlying24 (by kernel_rfl) ⟨_, rfl, ⟨cc.bw, cc.ms, cc.R0, cc.R1, cc.R2, fun h => cc.c0 (T 0 (by decide) h), fun h => cc.c1 (T 1 (by decide) h), fun h => cc.c2 (T 2 (by decide) h), fun h => cc.c3 (T 3 (by decide) h), fun h => cc.c4 (T 4 (by decide) h), fun _ => rfl, fun h => cc.c6 (T 6 (by decide) h), fun h => cc.c7 (T 7 (by decide) h), fun h => cc.c8 (T 8 (by decide) h), fun h => cc.c9 (T 9 (by decide) h), fun h => cc.c10 (T 10 (by decide) h), fun h => by obtain ⟨g', c', e', k1, k2, k3, k4⟩ := cc.c11 (T 11 (by decide) h); exact ⟨g', c', e', k1, k2, k3, fun h6 => k4 (T 12 (by decide) h6)⟩, fun h => S 11 (cc.c12 (T 12 (by decide) h))⟩⟩
    · simp at ho
      subst ho
      have T : ∀ j, j ≠ 6 → (listed.setIfInBounds 6 true).getD j false = true → listed.getD j false = true := fun j hj h => (done_set h).resolve_left hj
      have S : ∀ j, listed.getD j false = true → (listed.setIfInBounds 6 true).getD j false = true := fun j h => done_keep h
      have hv : a'.eval (.tmp 3) = .int .u32 (k : Nat) := (hF.old (by kernel_rfl)).trans rfl
      exact wp_valF (v := .int .u32 (k : Nat)) (w1 := w') (by simp [execOp, go_sem, ev hv]) ⟨_, rfl, ⟨cc.bw, cc.ms, cc.R0, cc.R1, cc.R2, fun h => cc.c0 (T 0 (by decide) h), fun h => cc.c1 (T 1 (by decide) h), fun h => cc.c2 (T 2 (by decide) h), fun h => cc.c3 (T 3 (by decide) h), fun h => cc.c4 (T 4 (by decide) h), fun h => cc.c5 (T 5 (by decide) h), fun _ => rfl, fun h => cc.c7 (T 7 (by decide) h), fun h => cc.c8 (T 8 (by decide) h), fun h => cc.c9 (T 9 (by decide) h), fun h => cc.c10 (T 10 (by decide) h), fun h => by obtain ⟨g', c', e', k1, k2, k3, k4⟩ := cc.c11 (T 11 (by decide) h); exact ⟨g', c', e', k1, k2, k3, fun h6 => k4 (T 12 (by decide) h6)⟩, fun h => S 11 (cc.c12 (T 12 (by decide) h))⟩⟩
    · simp at ho
      subst ho
      have T : ∀ j, j ≠ 7 → (listed.setIfInBounds 7 true).getD j false = true → listed.getD j false = true := fun j hj h => (done_set h).resolve_left hj
      have S : ∀ j, listed.getD j false = true → (listed.setIfInBounds 7 true).getD j false = true := fun j h => done_keep h
      have hv := ((hF.new (t := 25) (i := 6) (by kernel_rfl) (by simp) (waits_done (i := 7) (j := 6) (by kernel_rfl) hi)).trans (cc.c6 (waits_done (i := 7) (j := 6) (by kernel_rfl) hi)))
      exact wp_valF (v := .int .u64 (k : Nat)) (w1 := w') (by simp [execOp, go_sem, ev hv, ek]) ⟨_, rfl, ⟨cc.bw, cc.ms, cc.R0, cc.R1, cc.R2, fun h => cc.c0 (T 0 (by decide) h), fun h => cc.c1 (T 1 (by decide) h), fun h => cc.c2 (T 2 (by decide) h), fun h => cc.c3 (T 3 (by decide) h), fun h => cc.c4 (T 4 (by decide) h), fun h => cc.c5 (T 5 (by decide) h), fun h => cc.c6 (T 6 (by decide) h), fun _ => rfl, fun h => cc.c8 (T 8 (by decide) h), fun h => cc.c9 (T 9 (by decide) h), fun h => cc.c10 (T 10 (by decide) h), fun h => by obtain ⟨g', c', e', k1, k2, k3, k4⟩ := cc.c11 (T 11 (by decide) h); exact ⟨g', c', e', k1, k2, k3, fun h6 => k4 (T 12 (by decide) h6)⟩, fun h => S 11 (cc.c12 (T 12 (by decide) h))⟩⟩
    · simp at ho
      subst ho
      have T : ∀ j, j ≠ 8 → (listed.setIfInBounds 8 true).getD j false = true → listed.getD j false = true := fun j hj h => (done_set h).resolve_left hj
      have S : ∀ j, listed.getD j false = true → (listed.setIfInBounds 8 true).getD j false = true := fun j h => done_keep h
      have hv := ((hF.new (t := 26) (i := 7) (by kernel_rfl) (by simp) (waits_done (i := 8) (j := 7) (by kernel_rfl) hi)).trans (cc.c7 (waits_done (i := 8) (j := 7) (by kernel_rfl) hi)))
      exact wp_valF (v := I4 (k : Nat) 0 0 0) (w1 := w') (by simp [execOp, go_sem, ev hv]) ⟨_, rfl, ⟨cc.bw, cc.ms, cc.R0, cc.R1, cc.R2, fun h => cc.c0 (T 0 (by decide) h), fun h => cc.c1 (T 1 (by decide) h), fun h => cc.c2 (T 2 (by decide) h), fun h => cc.c3 (T 3 (by decide) h), fun h => cc.c4 (T 4 (by decide) h), fun h => cc.c5 (T 5 (by decide) h), fun h => cc.c6 (T 6 (by decide) h), fun h => cc.c7 (T 7 (by decide) h), fun _ => rfl, fun h => cc.c9 (T 9 (by decide) h), fun h => cc.c10 (T 10 (by decide) h), fun h => by obtain ⟨g', c', e', k1, k2, k3, k4⟩ := cc.c11 (T 11 (by decide) h); exact ⟨g', c', e', k1, k2, k3, fun h6 => k4 (T 12 (by decide) h6)⟩, fun h => S 11 (cc.c12 (T 12 (by decide) h))⟩⟩
    · simp at ho
      subst ho
      have T : ∀ j, j ≠ 9 → (listed.setIfInBounds 9 true).getD j false = true → listed.getD j false = true := fun j hj h => (done_set h).resolve_left hj
      have S : ∀ j, listed.getD j false = true → (listed.setIfInBounds 9 true).getD j false = true := fun j h => done_keep h
      have hv0 := ((hF.new (t := 24) (i := 5) (by kernel_rfl) (by simp) (waits_done (i := 9) (j := 5) (by kernel_rfl) hi)).trans (cc.c5 (waits_done (i := 9) (j := 5) (by kernel_rfl) hi)))
      have hv1 := ((hF.new (t := 27) (i := 8) (by kernel_rfl) (by simp) (waits_done (i := 9) (j := 8) (by kernel_rfl) hi)).trans (cc.c8 (waits_done (i := 9) (j := 8) (by kernel_rfl) hi)))
      refine wp_callF (f := 20) (args := #[U a, I4 (k : Nat) 0 0 0]) (v := U x2) (by simp [execOp_call_go, ev hv0, ev hv1, go_sem]) (x2c.out w') ?_
      intro w'' hb''
      exact ⟨_, rfl, ⟨cc.bw.trans (hb''.mono cc.bw.size), Nat.le_trans cc.ms hb''.size, cc.R0.below hb'', cc.R1.below hb'', cc.R2.below hb'', fun h => cc.c0 (T 0 (by decide) h), fun h => cc.c1 (T 1 (by decide) h), fun h => cc.c2 (T 2 (by decide) h), fun h => cc.c3 (T 3 (by decide) h), fun h => cc.c4 (T 4 (by decide) h), fun h => cc.c5 (T 5 (by decide) h), fun h => cc.c6 (T 6 (by decide) h), fun h => cc.c7 (T 7 (by decide) h), fun h => cc.c8 (T 8 (by decide) h), fun _ => rfl, fun h => cc.c10 (T 10 (by decide) h), fun h => by obtain ⟨g', c', e', k1, k2, k3, k4⟩ := cc.c11 (T 11 (by decide) h); exact ⟨g', c', e', k1, k2.below hb'', k3, fun h6 => k4 (T 12 (by decide) h6)⟩, fun h => S 11 (cc.c12 (T 12 (by decide) h))⟩⟩
    · simp at ho
      subst ho
      have T : ∀ j, j ≠ 10 → (listed.setIfInBounds 10 true).getD j false = true → listed.getD j false = true := fun j hj h => (done_set h).resolve_left hj
      have S : ∀ j, listed.getD j false = true → (listed.setIfInBounds 10 true).getD j false = true := fun j h => done_keep h
      have hv0 := ((hF.new (t := 23) (i := 4) (by kernel_rfl) (by simp) (waits_done (i := 10) (j := 4) (by kernel_rfl) hi)).trans (cc.c4 (waits_done (i := 10) (j := 4) (by kernel_rfl) hi)))
      have hv1 := ((hF.new (t := 28) (i := 9) (by kernel_rfl) (by simp) (waits_done (i := 10) (j := 9) (by kernel_rfl) hi)).trans (cc.c9 (waits_done (i := 10) (j := 9) (by kernel_rfl) hi)))
      refine wp_callF (f := 27) (args := #[U x1, U x2]) (v := U x3) (by simp [execOp_call_go, ev hv0, ev hv1, go_sem]) (x3c.out w') ?_
      intro w'' hb''
      exact ⟨_, rfl, ⟨cc.bw.trans (hb''.mono cc.bw.size), Nat.le_trans cc.ms hb''.size, cc.R0.below hb'', cc.R1.below hb'', cc.R2.below hb'', fun h => cc.c0 (T 0 (by decide) h), fun h => cc.c1 (T 1 (by decide) h), fun h => cc.c2 (T 2 (by decide) h), fun h => cc.c3 (T 3 (by decide) h), fun h => cc.c4 (T 4 (by decide) h), fun h => cc.c5 (T 5 (by decide) h), fun h => cc.c6 (T 6 (by decide) h), fun h => cc.c7 (T 7 (by decide) h), fun h => cc.c8 (T 8 (by decide) h), fun h => cc.c9 (T 9 (by decide) h), fun _ => rfl, fun h => by obtain ⟨g', c', e', k1, k2, k3, k4⟩ := cc.c11 (T 11 (by decide) h); exact ⟨g', c', e', k1, k2.below hb'', k3, fun h6 => k4 (T 12 (by decide) h6)⟩, fun h => S 11 (cc.c12 (T 12 (by decide) h))⟩⟩
    · simp at ho
      subst ho
      have T : ∀ j, j ≠ 11 → (listed.setIfInBounds 11 true).getD j false = true → listed.getD j false = true := fun j hj h => (done_set h).resolve_left hj
      have S : ∀ j, listed.getD j false = true → (listed.setIfInBounds 11 true).getD j false = true := fun j h => done_keep h
      have hun : ¬ listed.getD 11 false = true := fun h => undone hi hs h
      exact wp_valF (v := .pointer (some ⟨w'.heap.size, 0, none⟩)) (w1 := w'.alloc (.cells #[.int .u64 0, .int .u64 0, .int .u64 0, .int .u64 0] 24)) (by simp [execOp, go_sem]) ⟨_, rfl, ⟨bel_alloc cc.bw _, by have := cc.ms; simp; omega, cc.R0.old, cc.R1.old, cc.R2.old, fun h => cc.c0 (T 0 (by decide) h), fun h => cc.c1 (T 1 (by decide) h), fun h => cc.c2 (T 2 (by decide) h), fun h => cc.c3 (T 3 (by decide) h), fun h => cc.c4 (T 4 (by decide) h), fun h => cc.c5 (T 5 (by decide) h), fun h => cc.c6 (T 6 (by decide) h), fun h => cc.c7 (T 7 (by decide) h), fun h => cc.c8 (T 8 (by decide) h), fun h => cc.c9 (T 9 (by decide) h), fun h => cc.c10 (T 10 (by decide) h), fun _ => ⟨w'.heap.size, #[.int .u64 0, .int .u64 0, .int .u64 0, .int .u64 0], rfl, cc.ms, HasRow.last rfl, rfl, fun h6 => absurd (cc.c12 (T 12 (by decide) h6)) hun⟩, fun h => S 11 (cc.c12 (T 12 (by decide) h))⟩⟩
    · simp at ho
      subst ho
      have T : ∀ j, j ≠ 12 → (listed.setIfInBounds 12 true).getD j false = true → listed.getD j false = true := fun j hj h => (done_set h).resolve_left hj
      have S : ∀ j, listed.getD j false = true → (listed.setIfInBounds 12 true).getD j false = true := fun j h => done_keep h
      have d4 := (waits_done (i := 12) (j := 11) (by kernel_rfl) hi)
      obtain ⟨g, c, e, h1, h2, h3, h4⟩ := cc.c11 d4
      have hx := (hF.new (t := 10) (i := 11) (by kernel_rfl) (by simp) d4).trans e
      have hv := ((hF.new (t := 29) (i := 10) (by kernel_rfl) (by simp) (waits_done (i := 12) (j := 10) (by kernel_rfl) hi)).trans (cc.c10 (waits_done (i := 12) (j := 10) (by kernel_rfl) hi)))
      exact wp_rowS 24 (.tmp 10) (.tmp 29) rfl g (c' := #[B (l0 x3), B (l1 x3), B (l2 x3), B (l3 x3)]) hx hv h2 h3 rfl (by simp [Value.oneCell']) (by kernel_rfl) ⟨_, rfl, ⟨below_setRow cc.bw (by omega) _, by rw [size_setRow]; exact cc.ms, cc.R0.set_other _ (by omega), cc.R1.set_other _ (by omega), cc.R2.set_other _ (by omega), fun h => cc.c0 (T 0 (by decide) h), fun h => cc.c1 (T 1 (by decide) h), fun h => cc.c2 (T 2 (by decide) h), fun h => cc.c3 (T 3 (by decide) h), fun h => cc.c4 (T 4 (by decide) h), fun h => cc.c5 (T 5 (by decide) h), fun h => cc.c6 (T 6 (by decide) h), fun h => cc.c7 (T 7 (by decide) h), fun h => cc.c8 (T 8 (by decide) h), fun h => cc.c9 (T 9 (by decide) h), fun h => cc.c10 (T 10 (by decide) h), fun h => ⟨g, _, e, h1, h2.set_same _, rfl, fun _ => rfl⟩, fun _ => S 11 d4⟩⟩
  · intro listed vs a' w' hd hF cc

    have e : a' = ({ tmps := #[U a, U m, .int .u32 (i : Nat), .int .u32 (k : Nat), .pointer (some ⟨w.heap.size, 0, none⟩), .pointer (some ⟨w.heap.size + 1, 0, none⟩), undef, undef, .bool false, .pointer (some ⟨w.heap.size + 1 + 1, 0, none⟩), vs 11, undef, undef, .int .u32 (i : Nat), .int .u64 (i : Nat), .int .u32 (k : Nat), .int .u64 (k : Nat), .int .u64 (n : Nat), I4 (n : Nat) 0 0 0, vs 0, vs 1, vs 2, vs 3, vs 4, vs 5, vs 6, vs 7, vs 8, vs 9, vs 10, undef, undef, undef, undef, undef, undef, undef, undef, undef, undef, undef, undef, undef, undef, undef, undef, undef, undef, undef, undef, undef, undef, undef, undef, undef, undef, undef, undef, undef, undef, undef, undef, undef, undef, undef], defers := [] } : Act) := (hF.all hd).trans (by kernel_rfl)
    subst e
    obtain ⟨g10, c9, e9, a1, a2, a3, a4⟩ := cc.c11 (hd 11 (by simp))
    have V1 : Hid (HasRow w' (w.heap.size) #[B (l0 a), B (l1 a), B (l2 a), B (l3 a)] ∧ HasRow w' (w.heap.size + 1) #[B (l0 m), B (l1 m), B (l2 m), B (l3 m)] ∧ HasRow w' (w.heap.size + 1 + 1) #[.int .u64 (n : Nat), .int .u64 0, .int .u64 0, .int .u64 0] ∧ HasRow w' g10 #[B (l0 x3), B (l1 x3), B (l2 x3), B (l3 x3)] ∧ Below w.heap.size w w') := ⟨cc.R0, cc.R1, cc.R2, a4 (hd 12 (by simp)) ▸ a2, cc.bw⟩
    rw [e9]
    generalize vs 0 = p19
    generalize vs 1 = p20
    generalize vs 2 = p21
    generalize vs 3 = p22
    generalize vs 4 = p23
    generalize vs 5 = p24
    generalize vs 6 = p25
    generalize vs 7 = p26
    generalize vs 8 = p27
    generalize vs 9 = p28
    generalize vs 10 = p29
    clear cc hd hF e9 a1 a2 a3 a4 hN hN0
    go_wp2_with fail
    generalize w' = wA at *
    obtain ⟨N1, hN1⟩ : ∃ n, n = wA.heap.size := ⟨_, rfl⟩
    have hN : w.heap.size + 1 + 1 < N1 := by rw [hN1]; exact V1.out.2.2.1.lt
    have hN9 : g10 < N1 := by rw [hN1]; exact V1.out.2.2.2.1.lt
    refine wp_region_vals2 (by kernel_rfl) (by kernel_rfl) (by kernel_rfl) (CP3 w N1 g10 a m i k n x3 y1 y2 h l) ?_ ?_ ?_
    · refine ⟨V1.out.2.2.2.2.drew, by rw [hN1]; exact Nat.le_refl _, V1.out.1, V1.out.2.1, V1.out.2.2.1, V1.out.2.2.2.1, ?_, ?_, ?_, ?_, ?_, ?_, ?_, ?_, ?_, ?_, ?_, ?_, ?_, ?_, ?_, ?_, ?_, ?_, ?_, ?_, ?_⟩ <;> (intro h; simp [Array.getD] at h)
    · intro listed vs a' w' i o' hs ho hi hF cc
      have hin : i < 20 := by have := (Array.getElem?_eq_some_iff.1 ho).1; simpa using this
      have hcase : i = 0 ∨ i = 1 ∨ i = 2 ∨ i = 3 ∨ i = 4 ∨ i = 5 ∨ i = 6 ∨ i = 7 ∨ i = 8 ∨ i = 9 ∨ i = 10 ∨ i = 11 ∨ i = 12 ∨ i = 13 ∨ i = 14 ∨ i = 15 ∨ i = 16 ∨ i = 17 ∨ i = 18 ∨ i = 19 := by omega
      rcases hcase with rfl | rfl | rfl | rfl | rfl | rfl | rfl | rfl | rfl | rfl | rfl | rfl | rfl | rfl | rfl | rfl | rfl | rfl | rfl | rfl
      · simp at ho
        subst ho
        have T : ∀ j, j ≠ 0 → (listed.setIfInBounds 0 true).getD j false = true → listed.getD j false = true := fun j hj h => (done_set h).resolve_left hj
        have S : ∀ j, listed.getD j false = true → (listed.setIfInBounds 0 true).getD j false = true := fun j h => done_keep h
        exact wp_rowF 24 (.tmp 4) rfl (w.heap.size) ((hF.old (by kernel_rfl)).trans rfl) cc.R0 rfl Try.underlying24 (by kernel_rfl) ⟨_, rfl, ⟨cc.bw, cc.ms, cc.R0, cc.R1, cc.R2, cc.R3, fun _ => rfl, fun h => cc.c1 (T 1 (by decide) h), fun h => cc.c2 (T 2 (by decide) h), fun h => cc.c3 (T 3 (by decide) h), fun h => cc.c4 (T 4 (by decide) h), fun h => cc.c5 (T 5 (by decide) h), fun h => cc.c6 (T 6 (by decide) h), fun h => cc.c7 (T 7 (by decide) h), fun h => cc.c8 (T 8 (by decide) h), fun h => cc.c9 (T 9 (by decide) h), fun h => cc.c10 (T 10 (by decide) h), fun h => cc.c11 (T 11 (by decide) h), fun h => cc.c12 (T 12 (by decide) h), fun h => cc.c13 (T 13 (by decide) h), fun h => cc.c14 (T 14 (by decide) h), fun h => cc.c15 (T 15 (by decide) h), fun h => by obtain ⟨g', c', e', k1, k2, k3, k4⟩ := cc.c16 (T 16 (by decide) h); exact ⟨g', c', e', k1, k2, k3, fun h6 => k4 (T 18 (by decide) h6)⟩, fun h => by obtain ⟨g', c', e', k1, k2, k3, k4⟩ := cc.c17 (T 17 (by decide) h); exact ⟨g', c', e', k1, k2, k3, fun h6 => k4 (T 19 (by decide) h6)⟩, fun h => S 16 (cc.c18 (T 18 (by decide) h)), fun h => S 17 (cc.c19 (T 19 (by decide) h)), fun h h' => cc.ne16_17 (T 16 (by decide) h) (T 17 (by decide) h')⟩⟩
      · simp at ho
        subst ho
        have T : ∀ j, j ≠ 1 → (listed.setIfInBounds 1 true).getD j false = true → listed.getD j false = true := fun j hj h => (done_set h).resolve_left hj
        have S : ∀ j, listed.getD j false = true → (listed.setIfInBounds 1 true).getD j false = true := fun j h => done_keep h
        have hv : a'.eval (.tmp 2) = .int .u32 (i : Nat) := (hF.old (by kernel_rfl)).trans rfl
        exact wp_valF (v := .int .u32 (i : Nat)) (w1 := w') (by simp [execOp, go_sem, ev hv]) ⟨_, rfl, ⟨cc.bw, cc.ms, cc.R0, cc.R1, cc.R2, cc.R3, fun h => cc.c0 (T 0 (by decide) h), fun _ => rfl, fun h => cc.c2 (T 2 (by decide) h), fun h => cc.c3 (T 3 (by decide) h), fun h => cc.c4 (T 4 (by decide) h), fun h => cc.c5 (T 5 (by decide) h), fun h => cc.c6 (T 6 (by decide) h), fun h => cc.c7 (T 7 (by decide) h), fun h => cc.c8 (T 8 (by decide) h), fun h => cc.c9 (T 9 (by decide) h), fun h => cc.c10 (T 10 (by decide) h), fun h => cc.c11 (T 11 (by decide) h), fun h => cc.c12 (T 12 (by decide) h), fun h => cc.c13 (T 13 (by decide) h), fun h => cc.c14 (T 14 (by decide) h), fun h => cc.c15 (T 15 (by decide) h), fun h => by obtain ⟨g', c', e', k1, k2, k3, k4⟩ := cc.c16 (T 16 (by decide) h); exact ⟨g', c', e', k1, k2, k3, fun h6 => k4 (T 18 (by decide) h6)⟩, fun h => by obtain ⟨g', c', e', k1, k2, k3, k4⟩ := cc.c17 (T 17 (by decide) h); exact ⟨g', c', e', k1, k2, k3, fun h6 => k4 (T 19 (by decide) h6)⟩, fun h => S 16 (cc.c18 (T 18 (by decide) h)), fun h => S 17 (cc.c19 (T 19 (by decide) h)), fun h h' => cc.ne16_17 (T 16 (by decide) h) (T 17 (by decide) h')⟩⟩
      · simp at ho
        subst ho
        have T : ∀ j, j ≠ 2 → (listed.setIfInBounds 2 true).getD j false = true → listed.getD j false = true := fun j hj h => (done_set h).resolve_left hj
        have S : ∀ j, listed.getD j false = true → (listed.setIfInBounds 2 true).getD j false = true := fun j h => done_keep h
        have hv := ((hF.new (t := 32) (i := 1) (by kernel_rfl) (by simp) (waits_done (i := 2) (j := 1) (by kernel_rfl) hi)).trans (cc.c1 (waits_done (i := 2) (j := 1) (by kernel_rfl) hi)))
        exact wp_valF (v := .int .u64 (i : Nat)) (w1 := w') (by simp [execOp, go_sem, ev hv, ei]) ⟨_, rfl, ⟨cc.bw, cc.ms, cc.R0, cc.R1, cc.R2, cc.R3, fun h => cc.c0 (T 0 (by decide) h), fun h => cc.c1 (T 1 (by decide) h), fun _ => rfl, fun h => cc.c3 (T 3 (by decide) h), fun h => cc.c4 (T 4 (by decide) h), fun h => cc.c5 (T 5 (by decide) h), fun h => cc.c6 (T 6 (by decide) h), fun h => cc.c7 (T 7 (by decide) h), fun h => cc.c8 (T 8 (by decide) h), fun h => cc.c9 (T 9 (by decide) h), fun h => cc.c10 (T 10 (by decide) h), fun h => cc.c11 (T 11 (by decide) h), fun h => cc.c12 (T 12 (by decide) h), fun h => cc.c13 (T 13 (by decide) h), fun h => cc.c14 (T 14 (by decide) h), fun h => cc.c15 (T 15 (by decide) h), fun h => by obtain ⟨g', c', e', k1, k2, k3, k4⟩ := cc.c16 (T 16 (by decide) h); exact ⟨g', c', e', k1, k2, k3, fun h6 => k4 (T 18 (by decide) h6)⟩, fun h => by obtain ⟨g', c', e', k1, k2, k3, k4⟩ := cc.c17 (T 17 (by decide) h); exact ⟨g', c', e', k1, k2, k3, fun h6 => k4 (T 19 (by decide) h6)⟩, fun h => S 16 (cc.c18 (T 18 (by decide) h)), fun h => S 17 (cc.c19 (T 19 (by decide) h)), fun h h' => cc.ne16_17 (T 16 (by decide) h) (T 17 (by decide) h')⟩⟩
      · simp at ho
        subst ho
        have T : ∀ j, j ≠ 3 → (listed.setIfInBounds 3 true).getD j false = true → listed.getD j false = true := fun j hj h => (done_set h).resolve_left hj
        have S : ∀ j, listed.getD j false = true → (listed.setIfInBounds 3 true).getD j false = true := fun j h => done_keep h
        have hv := ((hF.new (t := 33) (i := 2) (by kernel_rfl) (by simp) (waits_done (i := 3) (j := 2) (by kernel_rfl) hi)).trans (cc.c2 (waits_done (i := 3) (j := 2) (by kernel_rfl) hi)))
        exact wp_valF (v := I4 (i : Nat) 0 0 0) (w1 := w') (by simp [execOp, go_sem, ev hv]) ⟨_, rfl, ⟨cc.bw, cc.ms, cc.R0, cc.R1, cc.R2, cc.R3, fun h => cc.c0 (T 0 (by decide) h), fun h => cc.c1 (T 1 (by decide) h), fun h => cc.c2 (T 2 (by decide) h), fun _ => rfl, fun h => cc.c4 (T 4 (by decide) h), fun h => cc.c5 (T 5 (by decide) h), fun h => cc.c6 (T 6 (by decide) h), fun h => cc.c7 (T 7 (by decide) h), fun h => cc.c8 (T 8 (by decide) h), fun h => cc.c9 (T 9 (by decide) h), fun h => cc.c10 (T 10 (by decide) h), fun h => cc.c11 (T 11 (by decide) h), fun h => cc.c12 (T 12 (by decide) h), fun h => cc.c13 (T 13 (by decide) h), fun h => cc.c14 (T 14 (by decide) h), fun h => cc.c15 (T 15 (by decide) h), fun h => by obtain ⟨g', c', e', k1, k2, k3, k4⟩ := cc.c16 (T 16 (by decide) h); exact ⟨g', c', e', k1, k2, k3, fun h6 => k4 (T 18 (by decide) h6)⟩, fun h => by obtain ⟨g', c', e', k1, k2, k3, k4⟩ := cc.c17 (T 17 (by decide) h); exact ⟨g', c', e', k1, k2, k3, fun h6 => k4 (T 19 (by decide) h6)⟩, fun h => S 16 (cc.c18 (T 18 (by decide) h)), fun h => S 17 (cc.c19 (T 19 (by decide) h)), fun h h' => cc.ne16_17 (T 16 (by decide) h) (T 17 (by decide) h')⟩⟩
      · simp at ho
        subst ho
        have T : ∀ j, j ≠ 4 → (listed.setIfInBounds 4 true).getD j false = true → listed.getD j false = true := fun j hj h => (done_set h).resolve_left hj
        have S : ∀ j, listed.getD j false = true → (listed.setIfInBounds 4 true).getD j false = true := fun j h => done_keep h
        exact wp_rowF 24 (.tmp 5) rfl (w.heap.size + 1) ((hF.old (by kernel_rfl)).trans rfl) cc.R1 rfl Try.underlying24 (by kernel_rfl) ⟨_, rfl, ⟨cc.bw, cc.ms, cc.R0, cc.R1, cc.R2, cc.R3, fun h => cc.c0 (T 0 (by decide) h), fun h => cc.c1 (T 1 (by decide) h), fun h => cc.c2 (T 2 (by decide) h), fun h => cc.c3 (T 3 (by decide) h), fun _ => rfl, fun h => cc.c5 (T 5 (by decide) h), fun h => cc.c6 (T 6 (by decide) h), fun h => cc.c7 (T 7 (by decide) h), fun h => cc.c8 (T 8 (by decide) h), fun h => cc.c9 (T 9 (by decide) h), fun h => cc.c10 (T 10 (by decide) h), fun h => cc.c11 (T 11 (by decide) h), fun h => cc.c12 (T 12 (by decide) h), fun h => cc.c13 (T 13 (by decide) h), fun h => cc.c14 (T 14 (by decide) h), fun h => cc.c15 (T 15 (by decide) h), fun h => by obtain ⟨g', c', e', k1, k2, k3, k4⟩ := cc.c16 (T 16 (by decide) h); exact ⟨g', c', e', k1, k2, k3, fun h6 => k4 (T 18 (by decide) h6)⟩, fun h => by obtain ⟨g', c', e', k1, k2, k3, k4⟩ := cc.c17 (T 17 (by decide) h); exact ⟨g', c', e', k1, k2, k3, fun h6 => k4 (T 19 (by decide) h6)⟩, fun h => S 16 (cc.c18 (T 18 (by decide) h)), fun h => S 17 (cc.c19 (T 19 (by decide) h)), fun h h' => cc.ne16_17 (T 16 (by decide) h) (T 17 (by decide) h')⟩⟩
      · simp at ho
        subst ho
        have T : ∀ j, j ≠ 5 → (listed.setIfInBounds 5 true).getD j false = true → listed.getD j false = true := fun j hj h => (done_set h).resolve_left hj
        have S : ∀ j, listed.getD j false = true → (listed.setIfInBounds 5 true).getD j false = true := fun j h => done_keep h
        have hv0 := ((hF.new (t := 31) (i := 0) (by kernel_rfl) (by simp) (waits_done (i := 5) (j := 0) (by kernel_rfl) hi)).trans (cc.c0 (waits_done (i := 5) (j := 0) (by kernel_rfl) hi)))
        have hv1 := ((hF.new (t := 34) (i := 3) (by kernel_rfl) (by simp) (waits_done (i := 5) (j := 3) (by kernel_rfl) hi)).trans (cc.c3 (waits_done (i := 5) (j := 3) (by kernel_rfl) hi)))
        have hv2 := ((hF.new (t := 35) (i := 4) (by kernel_rfl) (by simp) (waits_done (i := 5) (j := 4) (by kernel_rfl) hi)).trans (cc.c4 (waits_done (i := 5) (j := 4) (by kernel_rfl) hi)))
        refine wp_callF (f := 22) (args := #[U a, I4 (i : Nat) 0 0 0, U m]) (v := U y1) (by simp [execOp_call_go, ev hv0, ev hv1, ev hv2, go_sem]) (y1c.out w') ?_
        intro w'' hb''
        exact ⟨_, rfl, ⟨cc.bw.trans (hb''.mono cc.bw.size), Nat.le_trans cc.ms hb''.size, cc.R0.below hb'', cc.R1.below hb'', cc.R2.below hb'', cc.R3.below hb'', fun h => cc.c0 (T 0 (by decide) h), fun h => cc.c1 (T 1 (by decide) h), fun h => cc.c2 (T 2 (by decide) h), fun h => cc.c3 (T 3 (by decide) h), fun h => cc.c4 (T 4 (by decide) h), fun _ => rfl, fun h => cc.c6 (T 6 (by decide) h), fun h => cc.c7 (T 7 (by decide) h), fun h => cc.c8 (T 8 (by decide) h), fun h => cc.c9 (T 9 (by decide) h), fun h => cc.c10 (T 10 (by decide) h), fun h => cc.c11 (T 11 (by decide) h), fun h => cc.c12 (T 12 (by decide) h), fun h => cc.c13 (T 13 (by decide) h), fun h => cc.c14 (T 14 (by decide) h), fun h => cc.c15 (T 15 (by decide) h), fun h => by obtain ⟨g', c', e', k1, k2, k3, k4⟩ := cc.c16 (T 16 (by decide) h); exact ⟨g', c', e', k1, k2.below hb'', k3, fun h6 => k4 (T 18 (by decide) h6)⟩, fun h => by obtain ⟨g', c', e', k1, k2, k3, k4⟩ := cc.c17 (T 17 (by decide) h); exact ⟨g', c', e', k1, k2.below hb'', k3, fun h6 => k4 (T 19 (by decide) h6)⟩, fun h => S 16 (cc.c18 (T 18 (by decide) h)), fun h => S 17 (cc.c19 (T 19 (by decide) h)), fun h h' => cc.ne16_17 (T 16 (by decide) h) (T 17 (by decide) h')⟩⟩
      · simp at ho
        subst ho
        have T : ∀ j, j ≠ 6 → (listed.setIfInBounds 6 true).getD j false = true → listed.getD j false = true := fun j hj h => (done_set h).resolve_left hj
        have S : ∀ j, listed.getD j false = true → (listed.setIfInBounds 6 true).getD j false = true := fun j h => done_keep h
        exact wp_rowF 24 (.tmp 4) rfl (w.heap.size) ((hF.old (by kernel_rfl)).trans rfl) cc.R0 rfl Try.underlying24 (by kernel_rfl) ⟨_, rfl, ⟨cc.bw, cc.ms, cc.R0, cc.R1, cc.R2, cc.R3, fun h => cc.c0 (T 0 (by decide) h), fun h => cc.c1 (T 1 (by decide) h), fun h => cc.c2 (T 2 (by decide) h), fun h => cc.c3 (T 3 (by decide) h), fun h => cc.c4 (T 4 (by decide) h), fun h => cc.c5 (T 5 (by decide) h), fun _ => rfl, fun h => cc.c7 (T 7 (by decide) h), fun h => cc.c8 (T 8 (by decide) h), fun h => cc.c9 (T 9 (by decide) h), fun h => cc.c10 (T 10 (by decide) h), fun h => cc.c11 (T 11 (by decide) h), fun h => cc.c12 (T 12 (by decide) h), fun h => cc.c13 (T 13 (by decide) h), fun h => cc.c14 (T 14 (by decide) h), fun h => cc.c15 (T 15 (by decide) h), fun h => by obtain ⟨g', c', e', k1, k2, k3, k4⟩ := cc.c16 (T 16 (by decide) h); exact ⟨g', c', e', k1, k2, k3, fun h6 => k4 (T 18 (by decide) h6)⟩, fun h => by obtain ⟨g', c', e', k1, k2, k3, k4⟩ := cc.c17 (T 17 (by decide) h); exact ⟨g', c', e', k1, k2, k3, fun h6 => k4 (T 19 (by decide) h6)⟩, fun h => S 16 (cc.c18 (T 18 (by decide) h)), fun h => S 17 (cc.c19 (T 19 (by decide) h)), fun h h' => cc.ne16_17 (T 16 (by decide) h) (T 17 (by decide) h')⟩⟩
      · simp at ho
        subst ho
        have T : ∀ j, j ≠ 7 → (listed.setIfInBounds 7 true).getD j false = true → listed.getD j false = true := fun j hj h => (done_set h).resolve_left hj
        have S : ∀ j, listed.getD j false = true → (listed.setIfInBounds 7 true).getD j false = true := fun j h => done_keep h
        have hv : a'.eval (.tmp 3) = .int .u32 (k : Nat) := (hF.old (by kernel_rfl)).trans rfl
        exact wp_valF (v := .int .u32 (k : Nat)) (w1 := w') (by simp [execOp, go_sem, ev hv]) ⟨_, rfl, ⟨cc.bw, cc.ms, cc.R0, cc.R1, cc.R2, cc.R3, fun h => cc.c0 (T 0 (by decide) h), fun h => cc.c1 (T 1 (by decide) h), fun h => cc.c2 (T 2 (by decide) h), fun h => cc.c3 (T 3 (by decide) h), fun h => cc.c4 (T 4 (by decide) h), fun h => cc.c5 (T 5 (by decide) h), fun h => cc.c6 (T 6 (by decide) h), fun _ => rfl, fun h => cc.c8 (T 8 (by decide) h), fun h => cc.c9 (T 9 (by decide) h), fun h => cc.c10 (T 10 (by decide) h), fun h => cc.c11 (T 11 (by decide) h), fun h => cc.c12 (T 12 (by decide) h), fun h => cc.c13 (T 13 (by decide) h), fun h => cc.c14 (T 14 (by decide) h), fun h => cc.c15 (T 15 (by decide) h), fun h => by obtain ⟨g', c', e', k1, k2, k3, k4⟩ := cc.c16 (T 16 (by decide) h); exact ⟨g', c', e', k1, k2, k3, fun h6 => k4 (T 18 (by decide) h6)⟩, fun h => by obtain ⟨g', c', e', k1, k2, k3, k4⟩ := cc.c17 (T 17 (by decide) h); exact ⟨g', c', e', k1, k2, k3, fun h6 => k4 (T 19 (by decide) h6)⟩, fun h => S 16 (cc.c18 (T 18 (by decide) h)), fun h => S 17 (cc.c19 (T 19 (by decide) h)), fun h h' => cc.ne16_17 (T 16 (by decide) h) (T 17 (by decide) h')⟩⟩
      · simp at ho
        subst ho
        have T : ∀ j, j ≠ 8 → (listed.setIfInBounds 8 true).getD j false = true → listed.getD j false = true := fun j hj h => (done_set h).resolve_left hj
        have S : ∀ j, listed.getD j false = true → (listed.setIfInBounds 8 true).getD j false = true := fun j h => done_keep h
        have hv := ((hF.new (t := 38) (i := 7) (by kernel_rfl) (by simp) (waits_done (i := 8) (j := 7) (by kernel_rfl) hi)).trans (cc.c7 (waits_done (i := 8) (j := 7) (by kernel_rfl) hi)))
        exact wp_valF (v := .int .u64 (k : Nat)) (w1 := w') (by simp [execOp, go_sem, ev hv, ek]) ⟨_, rfl, ⟨cc.bw, cc.ms, cc.R0, cc.R1, cc.R2, cc.R3, fun h => cc.c0 (T 0 (by decide) h), fun h => cc.c1 (T 1 (by decide) h), fun h => cc.c2 (T 2 (by decide) h), fun h => cc.c3 (T 3 (by decide) h), fun h => cc.c4 (T 4 (by decide) h), fun h => cc.c5 (T 5 (by decide) h), fun h => cc.c6 (T 6 (by decide) h), fun h => cc.c7 (T 7 (by decide) h), fun _ => rfl, fun h => cc.c9 (T 9 (by decide) h), fun h => cc.c10 (T 10 (by decide) h), fun h => cc.c11 (T 11 (by decide) h), fun h => cc.c12 (T 12 (by decide) h), fun h => cc.c13 (T 13 (by decide) h), fun h => cc.c14 (T 14 (by decide) h), fun h => cc.c15 (T 15 (by decide) h), fun h => by obtain ⟨g', c', e', k1, k2, k3, k4⟩ := cc.c16 (T 16 (by decide) h); exact ⟨g', c', e', k1, k2, k3, fun h6 => k4 (T 18 (by decide) h6)⟩, fun h => by obtain ⟨g', c', e', k1, k2, k3, k4⟩ := cc.c17 (T 17 (by decide) h); exact ⟨g', c', e', k1, k2, k3, fun h6 => k4 (T 19 (by decide) h6)⟩, fun h => S 16 (cc.c18 (T 18 (by decide) h)), fun h => S 17 (cc.c19 (T 19 (by decide) h)), fun h h' => cc.ne16_17 (T 16 (by decide) h) (T 17 (by decide) h')⟩⟩
      · simp at ho
        subst ho
        have T : ∀ j, j ≠ 9 → (listed.setIfInBounds 9 true).getD j false = true → listed.getD j false = true := fun j hj h => (done_set h).resolve_left hj
        have S : ∀ j, listed.getD j false = true → (listed.setIfInBounds 9 true).getD j false = true := fun j h => done_keep h
        have hv := ((hF.new (t := 39) (i := 8) (by kernel_rfl) (by simp) (waits_done (i := 9) (j := 8) (by kernel_rfl) hi)).trans (cc.c8 (waits_done (i := 9) (j := 8) (by kernel_rfl) hi)))
        exact wp_valF (v := I4 (k : Nat) 0 0 0) (w1 := w') (by simp [execOp, go_sem, ev hv]) ⟨_, rfl, ⟨cc.bw, cc.ms, cc.R0, cc.R1, cc.R2, cc.R3, fun h => cc.c0 (T 0 (by decide) h), fun h => cc.c1 (T 1 (by decide) h), fun h => cc.c2 (T 2 (by decide) h), fun h => cc.c3 (T 3 (by decide) h), fun h => cc.c4 (T 4 (by decide) h), fun h => cc.c5 (T 5 (by decide) h), fun h => cc.c6 (T 6 (by decide) h), fun h => cc.c7 (T 7 (by decide) h), fun h => cc.c8 (T 8 (by decide) h), fun _ => rfl, fun h => cc.c10 (T 10 (by decide) h), fun h => cc.c11 (T 11 (by decide) h), fun h => cc.c12 (T 12 (by decide) h), fun h => cc.c13 (T 13 (by decide) h), fun h => cc.c14 (T 14 (by decide) h), fun h => cc.c15 (T 15 (by decide) h), fun h => by obtain ⟨g', c', e', k1, k2, k3, k4⟩ := cc.c16 (T 16 (by decide) h); exact ⟨g', c', e', k1, k2, k3, fun h6 => k4 (T 18 (by decide) h6)⟩, fun h => by obtain ⟨g', c', e', k1, k2, k3, k4⟩ := cc.c17 (T 17 (by decide) h); exact ⟨g', c', e', k1, k2, k3, fun h6 => k4 (T 19 (by decide) h6)⟩, fun h => S 16 (cc.c18 (T 18 (by decide) h)), fun h => S 17 (cc.c19 (T 19 (by decide) h)), fun h h' => cc.ne16_17 (T 16 (by decide) h) (T 17 (by decide) h')⟩⟩
      · simp at ho
        subst ho
        have T : ∀ j, j ≠ 10 → (listed.setIfInBounds 10 true).getD j false = true → listed.getD j false = true := fun j hj h => (done_set h).resolve_left hj
        have S : ∀ j, listed.getD j false = true → (listed.setIfInBounds 10 true).getD j false = true := fun j h => done_keep h
        exact wp_rowF 24 (.tmp 5) rfl (w.heap.size + 1) ((hF.old (by kernel_rfl)).trans rfl) cc.R1 rfl Try.underlying24 (by kernel_rfl) ⟨_, rfl, ⟨cc.bw, cc.ms, cc.R0, cc.R1, cc.R2, cc.R3, fun h => cc.c0 (T 0 (by decide) h), fun h => cc.c1 (T 1 (by decide) h), fun h => cc.c2 (T 2 (by decide) h), fun h => cc.c3 (T 3 (by decide) h), fun h => cc.c4 (T 4 (by decide) h), fun h => cc.c5 (T 5 (by decide) h), fun h => cc.c6 (T 6 (by decide) h), fun h => cc.c7 (T 7 (by decide) h), fun h => cc.c8 (T 8 (by decide) h), fun h => cc.c9 (T 9 (by decide) h), fun _ => rfl, fun h => cc.c11 (T 11 (by decide) h), fun h => cc.c12 (T 12 (by decide) h), fun h => cc.c13 (T 13 (by decide) h), fun h => cc.c14 (T 14 (by decide) h), fun h => cc.c15 (T 15 (by decide) h), fun h => by obtain ⟨g', c', e', k1, k2, k3, k4⟩ := cc.c16 (T 16 (by decide) h); exact ⟨g', c', e', k1, k2, k3, fun h6 => k4 (T 18 (by decide) h6)⟩, fun h => by obtain ⟨g', c', e', k1, k2, k3, k4⟩ := cc.c17 (T 17 (by decide) h); exact ⟨g', c', e', k1, k2, k3, fun h6 => k4 (T 19 (by decide) h6)⟩, fun h => S 16 (cc.c18 (T 18 (by decide) h)), fun h => S 17 (cc.c19 (T 19 (by decide) h)), fun h h' => cc.ne16_17 (T 16 (by decide) h) (T 17 (by decide) h')⟩⟩
      · simp at ho
        subst ho
        have T : ∀ j, j ≠ 11 → (listed.setIfInBounds 11 true).getD j false = true → listed.getD j false = true := fun j hj h => (done_set h).resolve_left hj
        have S : ∀ j, listed.getD j false = true → (listed.setIfInBounds 11 true).getD j false = true := fun j h => done_keep h
        have hv0 := ((hF.new (t := 37) (i := 6) (by kernel_rfl) (by simp) (waits_done (i := 11) (j := 6) (by kernel_rfl) hi)).trans (cc.c6 (waits_done (i := 11) (j := 6) (by kernel_rfl) hi)))
        have hv1 := ((hF.new (t := 40) (i := 9) (by kernel_rfl) (by simp) (waits_done (i := 11) (j := 9) (by kernel_rfl) hi)).trans (cc.c9 (waits_done (i := 11) (j := 9) (by kernel_rfl) hi)))
        have hv2 := ((hF.new (t := 41) (i := 10) (by kernel_rfl) (by simp) (waits_done (i := 11) (j := 10) (by kernel_rfl) hi)).trans (cc.c10 (waits_done (i := 11) (j := 10) (by kernel_rfl) hi)))
        refine wp_callF (f := 22) (args := #[U a, I4 (k : Nat) 0 0 0, U m]) (v := U y2) (by simp [execOp_call_go, ev hv0, ev hv1, ev hv2, go_sem]) (y2c.out w') ?_
        intro w'' hb''
        exact ⟨_, rfl, ⟨cc.bw.trans (hb''.mono cc.bw.size), Nat.le_trans cc.ms hb''.size, cc.R0.below hb'', cc.R1.below hb'', cc.R2.below hb'', cc.R3.below hb'', fun h => cc.c0 (T 0 (by decide) h), fun h => cc.c1 (T 1 (by decide) h), fun h => cc.c2 (T 2 (by decide) h), fun h => cc.c3 (T 3 (by decide) h), fun h => cc.c4 (T 4 (by decide) h), fun h => cc.c5 (T 5 (by decide) h), fun h => cc.c6 (T 6 (by decide) h), fun h => cc.c7 (T 7 (by decide) h), fun h => cc.c8 (T 8 (by decide) h), fun h => cc.c9 (T 9 (by decide) h), fun h => cc.c10 (T 10 (by decide) h), fun _ => rfl, fun h => cc.c12 (T 12 (by decide) h), fun h => cc.c13 (T 13 (by decide) h), fun h => cc.c14 (T 14 (by decide) h), fun h => cc.c15 (T 15 (by decide) h), fun h => by obtain ⟨g', c', e', k1, k2, k3, k4⟩ := cc.c16 (T 16 (by decide) h); exact ⟨g', c', e', k1, k2.below hb'', k3, fun h6 => k4 (T 18 (by decide) h6)⟩, fun h => by obtain ⟨g', c', e', k1, k2, k3, k4⟩ := cc.c17 (T 17 (by decide) h); exact ⟨g', c', e', k1, k2.below hb'', k3, fun h6 => k4 (T 19 (by decide) h6)⟩, fun h => S 16 (cc.c18 (T 18 (by decide) h)), fun h => S 17 (cc.c19 (T 19 (by decide) h)), fun h h' => cc.ne16_17 (T 16 (by decide) h) (T 17 (by decide) h')⟩⟩
      · simp at ho
        subst ho
        have T : ∀ j, j ≠ 12 → (listed.setIfInBounds 12 true).getD j false = true → listed.getD j false = true := fun j hj h => (done_set h).resolve_left hj
        have S : ∀ j, listed.getD j false = true → (listed.setIfInBounds 12 true).getD j false = true := fun j h => done_keep h
        have hv0 := ((hF.new (t := 36) (i := 5) (by kernel_rfl) (by simp) (waits_done (i := 12) (j := 5) (by kernel_rfl) hi)).trans (cc.c5 (waits_done (i := 12) (j := 5) (by kernel_rfl) hi)))
        have hv1 := ((hF.new (t := 42) (i := 11) (by kernel_rfl) (by simp) (waits_done (i := 12) (j := 11) (by kernel_rfl) hi)).trans (cc.c11 (waits_done (i := 12) (j := 11) (by kernel_rfl) hi)))
        refine wp_callF (f := 25) (args := #[U y1, U y2]) (v := .tuple #[U h, U l]) (by simp [execOp_call_go, ev hv0, ev hv1, go_sem]) (wc.out w') ?_
        intro w'' hb''
        exact ⟨_, rfl, ⟨cc.bw.trans (hb''.mono cc.bw.size), Nat.le_trans cc.ms hb''.size, cc.R0.below hb'', cc.R1.below hb'', cc.R2.below hb'', cc.R3.below hb'', fun h => cc.c0 (T 0 (by decide) h), fun h => cc.c1 (T 1 (by decide) h), fun h => cc.c2 (T 2 (by decide) h), fun h => cc.c3 (T 3 (by decide) h), fun h => cc.c4 (T 4 (by decide) h), fun h => cc.c5 (T 5 (by decide) h), fun h => cc.c6 (T 6 (by decide) h), fun h => cc.c7 (T 7 (by decide) h), fun h => cc.c8 (T 8 (by decide) h), fun h => cc.c9 (T 9 (by decide) h), fun h => cc.c10 (T 10 (by decide) h), fun h => cc.c11 (T 11 (by decide) h), fun _ => rfl, fun h => cc.c13 (T 13 (by decide) h), fun h => cc.c14 (T 14 (by decide) h), fun h => cc.c15 (T 15 (by decide) h), fun h => by obtain ⟨g', c', e', k1, k2, k3, k4⟩ := cc.c16 (T 16 (by decide) h); exact ⟨g', c', e', k1, k2.below hb'', k3, fun h6 => k4 (T 18 (by decide) h6)⟩, fun h => by obtain ⟨g', c', e', k1, k2, k3, k4⟩ := cc.c17 (T 17 (by decide) h); exact ⟨g', c', e', k1, k2.below hb'', k3, fun h6 => k4 (T 19 (by decide) h6)⟩, fun h => S 16 (cc.c18 (T 18 (by decide) h)), fun h => S 17 (cc.c19 (T 19 (by decide) h)), fun h h' => cc.ne16_17 (T 16 (by decide) h) (T 17 (by decide) h')⟩⟩
      · simp at ho
        subst ho
        have T : ∀ j, j ≠ 13 → (listed.setIfInBounds 13 true).getD j false = true → listed.getD j false = true := fun j hj h => (done_set h).resolve_left hj
        have S : ∀ j, listed.getD j false = true → (listed.setIfInBounds 13 true).getD j false = true := fun j h => done_keep h
        have hv := ((hF.new (t := 43) (i := 12) (by kernel_rfl) (by simp) (waits_done (i := 13) (j := 12) (by kernel_rfl) hi)).trans (cc.c12 (waits_done (i := 13) (j := 12) (by kernel_rfl) hi)))
        exact wp_valF (v := .tuple #[U h, U l]) (w1 := w') (by simp [execOp, go_sem, ev hv]) ⟨_, rfl, ⟨cc.bw, cc.ms, cc.R0, cc.R1, cc.R2, cc.R3, fun h => cc.c0 (T 0 (by decide) h), fun h => cc.c1 (T 1 (by decide) h), fun h => cc.c2 (T 2 (by decide) h), fun h => cc.c3 (T 3 (by decide) h), fun h => cc.c4 (T 4 (by decide) h), fun h => cc.c5 (T 5 (by decide) h), fun h => cc.c6 (T 6 (by decide) h), fun h => cc.c7 (T 7 (by decide) h), fun h => cc.c8 (T 8 (by decide) h), fun h => cc.c9 (T 9 (by decide) h), fun h => cc.c10 (T 10 (by decide) h), fun h => cc.c11 (T 11 (by decide) h), fun h => cc.c12 (T 12 (by decide) h), fun _ => rfl, fun h => cc.c14 (T 14 (by decide) h), fun h => cc.c15 (T 15 (by decide) h), fun h => by obtain ⟨g', c', e', k1, k2, k3, k4⟩ := cc.c16 (T 16 (by decide) h); exact ⟨g', c', e', k1, k2, k3, fun h6 => k4 (T 18 (by decide) h6)⟩, fun h => by obtain ⟨g', c', e', k1, k2, k3, k4⟩ := cc.c17 (T 17 (by decide) h); exact ⟨g', c', e', k1, k2, k3, fun h6 => k4 (T 19 (by decide) h6)⟩, fun h => S 16 (cc.c18 (T 18 (by decide) h)), fun h => S 17 (cc.c19 (T 19 (by decide) h)), fun h h' => cc.ne16_17 (T 16 (by decide) h) (T 17 (by decide) h')⟩⟩
      · simp at ho
        subst ho
        have T : ∀ j, j ≠ 14 → (listed.setIfInBounds 14 true).getD j false = true → listed.getD j false = true := fun j hj h => (done_set h).resolve_left hj
        have S : ∀ j, listed.getD j false = true → (listed.setIfInBounds 14 true).getD j false = true := fun j h => done_keep h
        have hv := ((hF.new (t := 30) (i := 13) (by kernel_rfl) (by simp) (waits_done (i := 14) (j := 13) (by kernel_rfl) hi)).trans (cc.c13 (waits_done (i := 14) (j := 13) (by kernel_rfl) hi)))
        exact wp_valF (v := U h) (w1 := w') (by simp [execOp, go_sem, ev hv]) ⟨_, rfl, ⟨cc.bw, cc.ms, cc.R0, cc.R1, cc.R2, cc.R3, fun h => cc.c0 (T 0 (by decide) h), fun h => cc.c1 (T 1 (by decide) h), fun h => cc.c2 (T 2 (by decide) h), fun h => cc.c3 (T 3 (by decide) h), fun h => cc.c4 (T 4 (by decide) h), fun h => cc.c5 (T 5 (by decide) h), fun h => cc.c6 (T 6 (by decide) h), fun h => cc.c7 (T 7 (by decide) h), fun h => cc.c8 (T 8 (by decide) h), fun h => cc.c9 (T 9 (by decide) h), fun h => cc.c10 (T 10 (by decide) h), fun h => cc.c11 (T 11 (by decide) h), fun h => cc.c12 (T 12 (by decide) h), fun h => cc.c13 (T 13 (by decide) h), fun _ => rfl, fun h => cc.c15 (T 15 (by decide) h), fun h => by obtain ⟨g', c', e', k1, k2, k3, k4⟩ := cc.c16 (T 16 (by decide) h); exact ⟨g', c', e', k1, k2, k3, fun h6 => k4 (T 18 (by decide) h6)⟩, fun h => by obtain ⟨g', c', e', k1, k2, k3, k4⟩ := cc.c17 (T 17 (by decide) h); exact ⟨g', c', e', k1, k2, k3, fun h6 => k4 (T 19 (by decide) h6)⟩, fun h => S 16 (cc.c18 (T 18 (by decide) h)), fun h => S 17 (cc.c19 (T 19 (by decide) h)), fun h h' => cc.ne16_17 (T 16 (by decide) h) (T 17 (by decide) h')⟩⟩
      · simp at ho
        subst ho
        have T : ∀ j, j ≠ 15 → (listed.setIfInBounds 15 true).getD j false = true → listed.getD j false = true := fun j hj h => (done_set h).resolve_left hj
        have S : ∀ j, listed.getD j false = true → (listed.setIfInBounds 15 true).getD j false = true := fun j h => done_keep h
        have hv := ((hF.new (t := 30) (i := 13) (by kernel_rfl) (by simp) (waits_done (i := 15) (j := 13) (by kernel_rfl) hi)).trans (cc.c13 (waits_done (i := 15) (j := 13) (by kernel_rfl) hi)))
        exact wp_valF (v := U l) (w1 := w') (by simp [execOp, go_sem, ev hv]) ⟨_, rfl, ⟨cc.bw, cc.ms, cc.R0, cc.R1, cc.R2, cc.R3, fun h => cc.c0 (T 0 (by decide) h), fun h => cc.c1 (T 1 (by decide) h), fun h => cc.c2 (T 2 (by decide) h), fun h => cc.c3 (T 3 (by decide) h), fun h => cc.c4 (T 4 (by decide) h), fun h => cc.c5 (T 5 (by decide) h), fun h => cc.c6 (T 6 (by decide) h), fun h => cc.c7 (T 7 (by decide) h), fun h => cc.c8 (T 8 (by decide) h), fun h => cc.c9 (T 9 (by decide) h), fun h => cc.c10 (T 10 (by decide) h), fun h => cc.c11 (T 11 (by decide) h), fun h => cc.c12 (T 12 (by decide) h), fun h => cc.c13 (T 13 (by decide) h), fun h => cc.c14 (T 14 (by decide) h), fun _ => rfl, fun h => by obtain ⟨g', c', e', k1, k2, k3, k4⟩ := cc.c16 (T 16 (by decide) h); exact ⟨g', c', e', k1, k2, k3, fun h6 => k4 (T 18 (by decide) h6)⟩, fun h => by obtain ⟨g', c', e', k1, k2, k3, k4⟩ := cc.c17 (T 17 (by decide) h); exact ⟨g', c', e', k1, k2, k3, fun h6 => k4 (T 19 (by decide) h6)⟩, fun h => S 16 (cc.c18 (T 18 (by decide) h)), fun h => S 17 (cc.c19 (T 19 (by decide) h)), fun h h' => cc.ne16_17 (T 16 (by decide) h) (T 17 (by decide) h')⟩⟩
      · simp at ho
        subst ho
        have T : ∀ j, j ≠ 16 → (listed.setIfInBounds 16 true).getD j false = true → listed.getD j false = true := fun j hj h => (done_set h).resolve_left hj
        have S : ∀ j, listed.getD j false = true → (listed.setIfInBounds 16 true).getD j false = true := fun j h => done_keep h
        have hun : ¬ listed.getD 16 false = true := fun h => undone hi hs h
        exact wp_valF (v := .pointer (some ⟨w'.heap.size, 0, none⟩)) (w1 := w'.alloc (.cells #[.int .u64 0, .int .u64 0, .int .u64 0, .int .u64 0] 24)) (by simp [execOp, go_sem]) ⟨_, rfl, ⟨bel_alloc cc.bw _, by have := cc.ms; simp; omega, cc.R0.old, cc.R1.old, cc.R2.old, cc.R3.old, fun h => cc.c0 (T 0 (by decide) h), fun h => cc.c1 (T 1 (by decide) h), fun h => cc.c2 (T 2 (by decide) h), fun h => cc.c3 (T 3 (by decide) h), fun h => cc.c4 (T 4 (by decide) h), fun h => cc.c5 (T 5 (by decide) h), fun h => cc.c6 (T 6 (by decide) h), fun h => cc.c7 (T 7 (by decide) h), fun h => cc.c8 (T 8 (by decide) h), fun h => cc.c9 (T 9 (by decide) h), fun h => cc.c10 (T 10 (by decide) h), fun h => cc.c11 (T 11 (by decide) h), fun h => cc.c12 (T 12 (by decide) h), fun h => cc.c13 (T 13 (by decide) h), fun h => cc.c14 (T 14 (by decide) h), fun h => cc.c15 (T 15 (by decide) h), fun _ => ⟨w'.heap.size, #[.int .u64 0, .int .u64 0, .int .u64 0, .int .u64 0], rfl, cc.ms, HasRow.last rfl, rfl, fun h6 => absurd (cc.c18 (T 18 (by decide) h6)) hun⟩, fun h => by obtain ⟨g', c', e', k1, k2, k3, k4⟩ := cc.c17 (T 17 (by decide) h); exact ⟨g', c', e', k1, k2.old, k3, fun h6 => k4 (T 19 (by decide) h6)⟩, fun h => S 16 (cc.c18 (T 18 (by decide) h)), fun h => S 17 (cc.c19 (T 19 (by decide) h)), fun _ h => by obtain ⟨g', c', e', k1, k2, k3, k4⟩ := cc.c17 (T 17 (by decide) h); have := k2.lt; show Value.pointer (some ⟨w'.heap.size, 0, none⟩) ≠ vs 17; rw [e']; intro q; simp at q; try omega⟩⟩
      · simp at ho
        subst ho
        have T : ∀ j, j ≠ 17 → (listed.setIfInBounds 17 true).getD j false = true → listed.getD j false = true := fun j hj h => (done_set h).resolve_left hj
        have S : ∀ j, listed.getD j false = true → (listed.setIfInBounds 17 true).getD j false = true := fun j h => done_keep h
        have hun : ¬ listed.getD 17 false = true := fun h => undone hi hs h
        exact wp_valF (v := .pointer (some ⟨w'.heap.size, 0, none⟩)) (w1 := w'.alloc (.cells #[.int .u64 0, .int .u64 0, .int .u64 0, .int .u64 0] 24)) (by simp [execOp, go_sem]) ⟨_, rfl, ⟨bel_alloc cc.bw _, by have := cc.ms; simp; omega, cc.R0.old, cc.R1.old, cc.R2.old, cc.R3.old, fun h => cc.c0 (T 0 (by decide) h), fun h => cc.c1 (T 1 (by decide) h), fun h => cc.c2 (T 2 (by decide) h), fun h => cc.c3 (T 3 (by decide) h), fun h => cc.c4 (T 4 (by decide) h), fun h => cc.c5 (T 5 (by decide) h), fun h => cc.c6 (T 6 (by decide) h), fun h => cc.c7 (T 7 (by decide) h), fun h => cc.c8 (T 8 (by decide) h), fun h => cc.c9 (T 9 (by decide) h), fun h => cc.c10 (T 10 (by decide) h), fun h => cc.c11 (T 11 (by decide) h), fun h => cc.c12 (T 12 (by decide) h), fun h => cc.c13 (T 13 (by decide) h), fun h => cc.c14 (T 14 (by decide) h), fun h => cc.c15 (T 15 (by decide) h), fun h => by obtain ⟨g', c', e', k1, k2, k3, k4⟩ := cc.c16 (T 16 (by decide) h); exact ⟨g', c', e', k1, k2.old, k3, fun h6 => k4 (T 18 (by decide) h6)⟩, fun _ => ⟨w'.heap.size, #[.int .u64 0, .int .u64 0, .int .u64 0, .int .u64 0], rfl, cc.ms, HasRow.last rfl, rfl, fun h6 => absurd (cc.c19 (T 19 (by decide) h6)) hun⟩, fun h => S 16 (cc.c18 (T 18 (by decide) h)), fun h => S 17 (cc.c19 (T 19 (by decide) h)), fun h _ => by obtain ⟨g', c', e', k1, k2, k3, k4⟩ := cc.c16 (T 16 (by decide) h); have := k2.lt; show vs 16 ≠ Value.pointer (some ⟨w'.heap.size, 0, none⟩); rw [e']; intro q; simp at q; try omega⟩⟩
      · simp at ho
        subst ho
        have T : ∀ j, j ≠ 18 → (listed.setIfInBounds 18 true).getD j false = true → listed.getD j false = true := fun j hj h => (done_set h).resolve_left hj
        have S : ∀ j, listed.getD j false = true → (listed.setIfInBounds 18 true).getD j false = true := fun j h => done_keep h
        have d4 := (waits_done (i := 18) (j := 16) (by kernel_rfl) hi)
        obtain ⟨g, c, e, h1, h2, h3, h4⟩ := cc.c16 d4
        have hx := (hF.new (t := 11) (i := 16) (by kernel_rfl) (by simp) d4).trans e
        have hv := ((hF.new (t := 44) (i := 14) (by kernel_rfl) (by simp) (waits_done (i := 18) (j := 14) (by kernel_rfl) hi)).trans (cc.c14 (waits_done (i := 18) (j := 14) (by kernel_rfl) hi)))
        exact wp_rowS 24 (.tmp 11) (.tmp 44) rfl g (c' := #[B (l0 h), B (l1 h), B (l2 h), B (l3 h)]) hx hv h2 h3 rfl (by simp [Value.oneCell']) (by kernel_rfl) ⟨_, rfl, ⟨below_setRow cc.bw (by omega) _, by rw [size_setRow]; exact cc.ms, cc.R0.set_other _ (by omega), cc.R1.set_other _ (by omega), cc.R2.set_other _ (by omega), cc.R3.set_other _ (by omega), fun h => cc.c0 (T 0 (by decide) h), fun h => cc.c1 (T 1 (by decide) h), fun h => cc.c2 (T 2 (by decide) h), fun h => cc.c3 (T 3 (by decide) h), fun h => cc.c4 (T 4 (by decide) h), fun h => cc.c5 (T 5 (by decide) h), fun h => cc.c6 (T 6 (by decide) h), fun h => cc.c7 (T 7 (by decide) h), fun h => cc.c8 (T 8 (by decide) h), fun h => cc.c9 (T 9 (by decide) h), fun h => cc.c10 (T 10 (by decide) h), fun h => cc.c11 (T 11 (by decide) h), fun h => cc.c12 (T 12 (by decide) h), fun h => cc.c13 (T 13 (by decide) h), fun h => cc.c14 (T 14 (by decide) h), fun h => cc.c15 (T 15 (by decide) h), fun h => ⟨g, _, e, h1, h2.set_same _, rfl, fun _ => rfl⟩, fun h => by obtain ⟨g', c', e', k1, k2, k3, k4⟩ := cc.c17 (T 17 (by decide) h); exact ⟨g', c', e', k1, k2.set_other _ (by rintro rfl; exact cc.ne16_17 d4 (T 17 (by decide) h) (by rw [e, e'])), k3, fun h6 => k4 (T 19 (by decide) h6)⟩, fun _ => S 16 d4, fun h => S 17 (cc.c19 (T 19 (by decide) h)), fun h h' => cc.ne16_17 (T 16 (by decide) h) (T 17 (by decide) h')⟩⟩
      · simp at ho
        subst ho
        have T : ∀ j, j ≠ 19 → (listed.setIfInBounds 19 true).getD j false = true → listed.getD j false = true := fun j hj h => (done_set h).resolve_left hj
        have S : ∀ j, listed.getD j false = true → (listed.setIfInBounds 19 true).getD j false = true := fun j h => done_keep h
        have d4 := (waits_done (i := 19) (j := 17) (by kernel_rfl) hi)
        obtain ⟨g, c, e, h1, h2, h3, h4⟩ := cc.c17 d4
        have hx := (hF.new (t := 12) (i := 17) (by kernel_rfl) (by simp) d4).trans e
        have hv := ((hF.new (t := 45) (i := 15) (by kernel_rfl) (by simp) (waits_done (i := 19) (j := 15) (by kernel_rfl) hi)).trans (cc.c15 (waits_done (i := 19) (j := 15) (by kernel_rfl) hi)))
        exact wp_rowS 24 (.tmp 12) (.tmp 45) rfl g (c' := #[B (l0 l), B (l1 l), B (l2 l), B (l3 l)]) hx hv h2 h3 rfl (by simp [Value.oneCell']) (by kernel_rfl) ⟨_, rfl, ⟨below_setRow cc.bw (by omega) _, by rw [size_setRow]; exact cc.ms, cc.R0.set_other _ (by omega), cc.R1.set_other _ (by omega), cc.R2.set_other _ (by omega), cc.R3.set_other _ (by omega), fun h => cc.c0 (T 0 (by decide) h), fun h => cc.c1 (T 1 (by decide) h), fun h => cc.c2 (T 2 (by decide) h), fun h => cc.c3 (T 3 (by decide) h), fun h => cc.c4 (T 4 (by decide) h), fun h => cc.c5 (T 5 (by decide) h), fun h => cc.c6 (T 6 (by decide) h), fun h => cc.c7 (T 7 (by decide) h), fun h => cc.c8 (T 8 (by decide) h), fun h => cc.c9 (T 9 (by decide) h), fun h => cc.c10 (T 10 (by decide) h), fun h => cc.c11 (T 11 (by decide) h), fun h => cc.c12 (T 12 (by decide) h), fun h => cc.c13 (T 13 (by decide) h), fun h => cc.c14 (T 14 (by decide) h), fun h => cc.c15 (T 15 (by decide) h), fun h => by obtain ⟨g', c', e', k1, k2, k3, k4⟩ := cc.c16 (T 16 (by decide) h); exact ⟨g', c', e', k1, k2.set_other _ (by rintro rfl; exact cc.ne16_17 (T 16 (by decide) h) d4 (by rw [e, e'])), k3, fun h6 => k4 (T 18 (by decide) h6)⟩, fun h => ⟨g, _, e, h1, h2.set_same _, rfl, fun _ => rfl⟩, fun h => S 16 (cc.c18 (T 18 (by decide) h)), fun _ => S 17 d4, fun h h' => cc.ne16_17 (T 16 (by decide) h) (T 17 (by decide) h')⟩⟩
    · intro listed vs a' w' hd hF cc

      have e : a' = ({ tmps := #[U a, U m, .int .u32 (i : Nat), .int .u32 (k : Nat), .pointer (some ⟨w.heap.size, 0, none⟩), .pointer (some ⟨w.heap.size + 1, 0, none⟩), undef, undef, .bool false, .pointer (some ⟨w.heap.size + 1 + 1, 0, none⟩), .pointer (some ⟨g10, 0, none⟩), vs 16, vs 17, .int .u32 (i : Nat), .int .u64 (i : Nat), .int .u32 (k : Nat), .int .u64 (k : Nat), .int .u64 (n : Nat), I4 (n : Nat) 0 0 0, p19, p20, p21, p22, p23, p24, p25, p26, p27, p28, p29, vs 13, vs 0, vs 1, vs 2, vs 3, vs 4, vs 5, vs 6, vs 7, vs 8, vs 9, vs 10, vs 11, vs 12, vs 14, vs 15, undef, undef, undef, undef, undef, undef, undef, undef, undef, undef, undef, undef, undef, undef, undef, undef, undef, undef, undef], defers := [] } : Act) := (hF.all hd).trans (by kernel_rfl)
      subst e
      obtain ⟨g11, c11, e11, a1, a2, a3, a4⟩ := cc.c16 (hd 16 (by simp))
      obtain ⟨g12, c12, e12, b1, b2, b3, b4⟩ := cc.c17 (hd 17 (by simp))
      have V : Hid (HasRow w' (w.heap.size) #[B (l0 a), B (l1 a), B (l2 a), B (l3 a)] ∧ HasRow w' (w.heap.size + 1) #[B (l0 m), B (l1 m), B (l2 m), B (l3 m)] ∧ HasRow w' (w.heap.size + 1 + 1) #[.int .u64 (n : Nat), .int .u64 0, .int .u64 0, .int .u64 0] ∧ HasRow w' g10 #[B (l0 x3), B (l1 x3), B (l2 x3), B (l3 x3)] ∧ HasRow w' g11 #[B (l0 h), B (l1 h), B (l2 h), B (l3 h)] ∧ HasRow w' g12 #[B (l0 l), B (l1 l), B (l2 l), B (l3 l)] ∧ Below w.heap.size w w') := ⟨cc.R0, cc.R1, cc.R2, cc.R3, a4 (hd 18 (by simp)) ▸ a2, b4 (hd 19 (by simp)) ▸ b2, cc.bw⟩
      rw [e11, e12]
      generalize vs 0 = o0
      generalize vs 1 = o1
      generalize vs 2 = o2
      generalize vs 3 = o3
      generalize vs 4 = o4
      generalize vs 5 = o5
      generalize vs 6 = o6
      generalize vs 7 = o7
      generalize vs 8 = o8
      generalize vs 9 = o9
      generalize vs 10 = o10
      generalize vs 11 = o11
      generalize vs 12 = o12
      generalize vs 13 = o13
      generalize vs 14 = o14
      generalize vs 15 = o15
      clear cc hd hF e11 e12 a1 a2 a3 a4 b1 b2 b3 b4
      go_wp2_with fail
      have d0_0 : w'.cell? ⟨w.heap.size, 0, none⟩ = some (B (l0 a)) := V.out.1.cell 0
      have d0_1 : w'.cell? ⟨w.heap.size, 1, none⟩ = some (B (l1 a)) := V.out.1.cell 1
      have d0_2 : w'.cell? ⟨w.heap.size, 2, none⟩ = some (B (l2 a)) := V.out.1.cell 2
      have d0_3 : w'.cell? ⟨w.heap.size, 3, none⟩ = some (B (l3 a)) := V.out.1.cell 3
      have d1_0 : w'.cell? ⟨w.heap.size + 1, 0, none⟩ = some (B (l0 m)) := V.out.2.1.cell 0
      have d1_1 : w'.cell? ⟨w.heap.size + 1, 1, none⟩ = some (B (l1 m)) := V.out.2.1.cell 1
      have d1_2 : w'.cell? ⟨w.heap.size + 1, 2, none⟩ = some (B (l2 m)) := V.out.2.1.cell 2
      have d1_3 : w'.cell? ⟨w.heap.size + 1, 3, none⟩ = some (B (l3 m)) := V.out.2.1.cell 3
      have d2_0 : w'.cell? ⟨w.heap.size + 1 + 1, 0, none⟩ = some (.int .u64 (n : Nat)) := V.out.2.2.1.cell 0
      have d2_1 : w'.cell? ⟨w.heap.size + 1 + 1, 1, none⟩ = some (.int .u64 0) := V.out.2.2.1.cell 1
      have d2_2 : w'.cell? ⟨w.heap.size + 1 + 1, 2, none⟩ = some (.int .u64 0) := V.out.2.2.1.cell 2
      have d2_3 : w'.cell? ⟨w.heap.size + 1 + 1, 3, none⟩ = some (.int .u64 0) := V.out.2.2.1.cell 3
      have d3_0 : w'.cell? ⟨g10, 0, none⟩ = some (B (l0 x3)) := V.out.2.2.2.1.cell 0
      have d3_1 : w'.cell? ⟨g10, 1, none⟩ = some (B (l1 x3)) := V.out.2.2.2.1.cell 1
      have d3_2 : w'.cell? ⟨g10, 2, none⟩ = some (B (l2 x3)) := V.out.2.2.2.1.cell 2
      have d3_3 : w'.cell? ⟨g10, 3, none⟩ = some (B (l3 x3)) := V.out.2.2.2.1.cell 3
      have d4_0 : w'.cell? ⟨g11, 0, none⟩ = some (B (l0 h)) := V.out.2.2.2.2.1.cell 0
      have d4_1 : w'.cell? ⟨g11, 1, none⟩ = some (B (l1 h)) := V.out.2.2.2.2.1.cell 1
      have d4_2 : w'.cell? ⟨g11, 2, none⟩ = some (B (l2 h)) := V.out.2.2.2.2.1.cell 2
      have d4_3 : w'.cell? ⟨g11, 3, none⟩ = some (B (l3 h)) := V.out.2.2.2.2.1.cell 3
      have d5_0 : w'.cell? ⟨g12, 0, none⟩ = some (B (l0 l)) := V.out.2.2.2.2.2.1.cell 0
      have d5_1 : w'.cell? ⟨g12, 1, none⟩ = some (B (l1 l)) := V.out.2.2.2.2.2.1.cell 1
      have d5_2 : w'.cell? ⟨g12, 2, none⟩ = some (B (l2 l)) := V.out.2.2.2.2.2.1.cell 2
      have d5_3 : w'.cell? ⟨g12, 3, none⟩ = some (B (l3 l)) := V.out.2.2.2.2.2.1.cell 3
      replace d0_0 := cell_regrown d0_0
      replace d0_1 := cell_regrown d0_1
      replace d0_2 := cell_regrown d0_2
      replace d0_3 := cell_regrown d0_3
      replace d1_0 := cell_regrown d1_0
      replace d1_1 := cell_regrown d1_1
      replace d1_2 := cell_regrown d1_2
      replace d1_3 := cell_regrown d1_3
      replace d2_0 := cell_regrown d2_0
      replace d2_1 := cell_regrown d2_1
      replace d2_2 := cell_regrown d2_2
      replace d2_3 := cell_regrown d2_3
      replace d3_0 := cell_regrown d3_0
      replace d3_1 := cell_regrown d3_1
      replace d3_2 := cell_regrown d3_2
      replace d3_3 := cell_regrown d3_3
      replace d4_0 := cell_regrown d4_0
      replace d4_1 := cell_regrown d4_1
      replace d4_2 := cell_regrown d4_2
      replace d4_3 := cell_regrown d4_3
      replace d5_0 := cell_regrown d5_0
      replace d5_1 := cell_regrown d5_1
      replace d5_2 := cell_regrown d5_2
      replace d5_3 := cell_regrown d5_3
      refine wp_region_quiet_below (by kernel_rfl) (by kernel_rfl) ?_
      repeat (go_big_quiet_step (fail))
      go_big_quiet_step ((exact Calls.regrown_of (z1c.out _)))
      repeat (go_big_quiet_step (fail))
      go_big_quiet_step ((exact Calls.regrown_of (z2c.out _)))
      repeat (go_big_quiet_step (fail))
      go_big_quiet_step ((exact Calls.regrown_of (z3c.out _)))
      repeat (go_big_quiet_step (fail))
      go_big_quiet_step ((exact Calls.regrown_of (ha.out _)))
      repeat (go_big_quiet_step (fail))
      refine wpQuiet_nil ?_
      intro _ hw'
      obtain ⟨⟨dq', osq⟩, hw''⟩ := hw'
      subst hw''
      go_wp2
      go_ret
      exact ⟨rfl, bel_call V.out.2.2.2.2.2.2 (below_regrown w' dq' osq)⟩

theorem powers_walk (a m i k : Nat) (ha : a < W) (hm : m < W) (hi : i < 4294967296) (hk : k < 4294967296) (w : World) : Calls Try.prog 6 #[U a, U m, .int .u32 (i : Nat), .int .u32 (k : Nat)] w fun e w' => e = .returned (.bool true) ∧ Below w.heap.size w w' := by
  have hMW : M < W := by decide +kernel
  have hiM : i < M := by unfold M; omega
  have hkM : k < M := by unfold M; omega
  have hnM : i + k < M := by unfold M; omega
  have eU : ∀ x, x < M → I4 (x : Nat) 0 0 0 = U x := fun x hx => (U_lit x hx).symm
  have l1 := rm_lt (a ^ i) hm
  have l2 := rm_lt (a ^ k) hm
  have hd := Nat.div_add_mod (rm (a ^ i) m * rm (a ^ k) m) W
  refine powers_gen a m i k (i + k) (rm (a ^ i) W) (rm (a ^ k) W) (rm (a ^ (i + k)) W) (rm (a ^ i) m) (rm (a ^ k) m) _ _ (rm (a ^ (i + k)) m) hi hk ?_ ?_ ?_ (fun w => ?_) (fun w => ?_) (fun w => ?_) (fun w => ?_) (fun w => ?_) (rwide_any _ _ l1 l2) (fun w => ?_) (fun w => ?_) (fun w => ?_) awake3_any w
  · simp only [IntKind.wrap_u64]; omega
  · simp only [IntKind.wrap_u64]; omega
  · simp only [IntKind.wrap_u64]; omega
  · rw [eU i hiM]; exact exp_any a i ha (Nat.lt_trans hiM hMW) w
  · rw [eU k hkM]; exact exp_any a k ha (Nat.lt_trans hkM hMW) w
  · have h := rmul_any (rm (a ^ i) W) (rm (a ^ k) W) (by rw [rm_W]; exact Nat.mod_lt _ W_pos) (by rw [rm_W]; exact Nat.mod_lt _ W_pos) w
    rw [← rm_W, pw_add] at h; exact h
  · rw [eU i hiM]; exact pow_any a i m ha (Nat.lt_trans hiM hMW) hm w
  · rw [eU k hkM]; exact pow_any a k m ha (Nat.lt_trans hkM hMW) hm w
  · rw [eU _ hnM]; exact exp_any a (i + k) ha (Nat.lt_trans hnM hMW) w
  · rw [eU _ hnM]; exact pow_any a (i + k) m ha (Nat.lt_trans hnM hMW) hm w
  · have h := rrest_any (rm (a ^ i) m * rm (a ^ k) m / W) (rm (a ^ i) m * rm (a ^ k) m % W) m (Nat.div_lt_of_lt_mul (Nat.mul_lt_mul'' l1 l2)) (Nat.mod_lt _ W_pos) hm w
    have e : dr (rm (a ^ i) m * rm (a ^ k) m / W) (rm (a ^ i) m * rm (a ^ k) m % W) m = rm (a ^ (i + k)) m := by
      rw [← pw_add]
      unfold dr
      rw [Nat.mul_comm (rm (a ^ i) m * rm (a ^ k) m / W), hd]
      rfl
    rw [e] at h; exact h
end Go.Proofs.Ytillbhdcnhcbhaa
