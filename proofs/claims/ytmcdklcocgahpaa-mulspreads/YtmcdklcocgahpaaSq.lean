/- The law MulSpreads, walked. -/
import Derived.Test.YtmcdklcocgahpaaAw
import Derived.Test.YtmcdklcocgahpaaRz
import Derived.Lib.QuietBelow
import Derived.BigQuiet
import Derived.Deep.DeepCutAuto
import Derived.Deep.Light
import Derived.BigCall
namespace Go.Proofs.Ytmcdklcocgahpaa
open Go.RowKit Go.Sort
set_option linter.unusedVariables false
attribute [local go_sem] run_eq4 run_eqU_same

structure CS (W0 : World) (a b c u v t : Nat) (o2 : Bool) (listed : Array Bool) (vs : Nat → Value) (w' : World) : Prop where
  bb : Below W0.heap.size W0 w'
  c0 : listed.getD 0 false = true → vs 0 = U a
  c1 : listed.getD 1 false = true → vs 1 = U b
  c2 : listed.getD 2 false = true → vs 2 = U u
  c3 : listed.getD 3 false = true → vs 3 = U a
  c4 : listed.getD 4 false = true → vs 4 = U c
  c5 : listed.getD 5 false = true → vs 5 = U v
  c6 : listed.getD 6 false = true → vs 6 = .tuple #[U t, .bool o2]
  c7 : listed.getD 7 false = true → vs 7 = .tuple #[U t, .bool o2]
  c8 : listed.getD 8 false = true → vs 8 = U t
  c9 : listed.getD 9 false = true → vs 9 = .bool o2
  c10 : listed.getD 10 false = true → ∃ g c, vs 10 = .pointer (some ⟨g, 0, none⟩) ∧ W0.heap.size ≤ g ∧ HasRow w' g c ∧ c.size = 4 ∧ (listed.getD 11 false = true → c = #[B (l0 t), B (l1 t), B (l2 t), B (l3 t)])
  c1110 : listed.getD 11 false = true → listed.getD 10 false = true

set_option maxRecDepth 100000 in
set_option maxHeartbeats 8000000 in
theorem spreads_gen (a b c s u v t h l : Nat) (o1 o2 : Bool)
    (hs : Hid (∀ w, Calls Try.prog 17 #[U b, U c] w fun e w' => e = .returned (.tuple #[U s, .bool o1]) ∧ Below w.heap.size w w'))
    (m1 : Hid (∀ w, Calls Try.prog 10 #[U a, U b] w fun e w' => e = .returned (U u) ∧ Below w.heap.size w w'))
    (m2 : Hid (∀ w, Calls Try.prog 10 #[U a, U c] w fun e w' => e = .returned (U v) ∧ Below w.heap.size w w'))
    (m3 : Hid (∀ w, Calls Try.prog 17 #[U u, U v] w fun e w' => e = .returned (.tuple #[U t, .bool o2]) ∧ Below w.heap.size w w'))
    (hw : Hid (∀ w, Calls Try.prog 8 #[U a, U b] w fun e w' => e = .returned (.tuple #[U h, U l]) ∧ Below w.heap.size w w'))
    (hx : Hid (∀ w, Calls Try.prog 8 #[U b, U a] w fun e w' => e = .returned (.tuple #[U h, U l]) ∧ Below w.heap.size w w'))
    (hm : Hid (∀ w, Calls Try.prog 10 #[U a, U s] w fun e w' => e = .returned (U t) ∧ Below w.heap.size w w'))
    (r1 : Hid (∀ w, Calls Try.prog 15 #[U h, U l, U a] w fun e w' => e = .returned (I4 0 0 0 0) ∧ Below w.heap.size w w'))
    (r2 : Hid (∀ w, Calls Try.prog 15 #[U h, U l, U b] w fun e w' => e = .returned (I4 0 0 0 0) ∧ Below w.heap.size w w'))
    (h1 : Hid (∀ w, Calls Try.prog 10 #[U a, I4 1 0 0 0] w fun e w' => e = .returned (U a) ∧ Below w.heap.size w w'))
    (ha : Hid (∀ w, Calls Try.prog 12 #[] w fun e w' => e = .returned (.bool true) ∧ Below w.heap.size w w')) (w : World) :
    Calls Try.prog 6 #[U a, U b, U c] w fun e w' => e = .returned (.bool true) ∧ Below w.heap.size w w' := by
  go_enter Try.func6, Try.ntmps6
  go_wp2_with fail
  refine (hs.out _).mono ?_
  rintro e w1 ⟨rfl, hb1⟩
  have a1 : HasRow w1 w.heap.size #[B (l0 a), B (l1 a), B (l2 a), B (l3 a)] := (HasRow.old (HasRow.old (HasRow.last rfl))).below hb1
  have a2 : HasRow w1 (w.heap.size + 1) #[B (l0 b), B (l1 b), B (l2 b), B (l3 b)] := (HasRow.old (HasRow.last (by simp))).below hb1
  have a3 : HasRow w1 (w.heap.size + 1 + 1) #[B (l0 c), B (l1 c), B (l2 c), B (l3 c)] := (HasRow.last (by simp)).below hb1
  have A1 : Hid (HasRow w1 w.heap.size #[B (l0 a), B (l1 a), B (l2 a), B (l3 a)]) := a1
  have A2 : Hid (HasRow w1 (w.heap.size + 1) #[B (l0 b), B (l1 b), B (l2 b), B (l3 b)]) := a2
  have A3 : Hid (HasRow w1 (w.heap.size + 1 + 1) #[B (l0 c), B (l1 c), B (l2 c), B (l3 c)]) := a3
  clear a1 a2 a3
  go_wp2_with fail
  go_cut [9] (fun s9 w' => ∃ bt, s9 = .pointer (some ⟨bt, 0, none⟩) ∧ HasRow w' bt #[B (l0 t), B (l1 t), B (l2 t), B (l3 t)] ∧ Below (w1.alloc (Obj.cells #[B (l0 s), B (l1 s), B (l2 s), B (l3 s)] 24)).heap.size (w1.alloc (Obj.cells #[B (l0 s), B (l1 s), B (l2 s), B (l3 s)] 24)) w')
  case first =>
    have ra : ∀ w', Below (w1.alloc (Obj.cells #[B (l0 s), B (l1 s), B (l2 s), B (l3 s)] 24)).heap.size (w1.alloc (Obj.cells #[B (l0 s), B (l1 s), B (l2 s), B (l3 s)] 24)) w' → HasRow w' w.heap.size #[B (l0 a), B (l1 a), B (l2 a), B (l3 a)] := fun w' hb => (HasRow.old A1.out).below hb
    have rb : ∀ w', Below (w1.alloc (Obj.cells #[B (l0 s), B (l1 s), B (l2 s), B (l3 s)] 24)).heap.size (w1.alloc (Obj.cells #[B (l0 s), B (l1 s), B (l2 s), B (l3 s)] 24)) w' → HasRow w' (w.heap.size + 1) #[B (l0 b), B (l1 b), B (l2 b), B (l3 b)] := fun w' hb => (HasRow.old A2.out).below hb
    have rc : ∀ w', Below (w1.alloc (Obj.cells #[B (l0 s), B (l1 s), B (l2 s), B (l3 s)] 24)).heap.size (w1.alloc (Obj.cells #[B (l0 s), B (l1 s), B (l2 s), B (l3 s)] 24)) w' → HasRow w' (w.heap.size + 1 + 1) #[B (l0 c), B (l1 c), B (l2 c), B (l3 c)] := fun w' hb => (HasRow.old A3.out).below hb
    generalize (w1.alloc (Obj.cells #[B (l0 s), B (l1 s), B (l2 s), B (l3 s)] 24)) = W0 at *
    refine wp_region_vals2 (by kernel_rfl) (by kernel_rfl) (by kernel_rfl) (CS W0 a b c u v t o2) ?_ ?_ ?_
    · refine ⟨(Below.refl _ _).drew, ?_, ?_, ?_, ?_, ?_, ?_, ?_, ?_, ?_, ?_, ?_, ?_⟩ <;> (intro h; simp [Array.getD] at h)
    · intro listed vs a' w' i o hs ho hi hF cc
      have hi13 : i < 13 := by have := (Array.getElem?_eq_some_iff.1 ho).1; simpa using this
      have hcase : i = 0 ∨ i = 1 ∨ i = 2 ∨ i = 3 ∨ i = 4 ∨ i = 5 ∨ i = 6 ∨ i = 7 ∨ i = 8 ∨ i = 9 ∨ i = 10 ∨ i = 11 ∨ i = 12 := by omega
      rcases hcase with rfl | rfl | rfl | rfl | rfl | rfl | rfl | rfl | rfl | rfl | rfl | rfl | rfl
      · simp at ho
        subst ho
        have T : ∀ j, j ≠ 0 → (listed.setIfInBounds 0 true).getD j false = true → listed.getD j false = true := fun j hj h => (done_set h).resolve_left hj
        have S : ∀ j, listed.getD j false = true → (listed.setIfInBounds 0 true).getD j false = true := fun j h => done_keep h
        refine wp_rowF 24 (.tmp 3) rfl w.heap.size ((hF.old (by kernel_rfl)).trans rfl) (ra w' cc.bb) rfl Try.underlying24 (by kernel_rfl) ⟨_, rfl, ⟨cc.bb, fun _ => rfl, fun h => cc.c1 (T 1 (by decide) h), fun h => cc.c2 (T 2 (by decide) h), fun h => cc.c3 (T 3 (by decide) h), fun h => cc.c4 (T 4 (by decide) h), fun h => cc.c5 (T 5 (by decide) h), fun h => cc.c6 (T 6 (by decide) h), fun h => cc.c7 (T 7 (by decide) h), fun h => cc.c8 (T 8 (by decide) h), fun h => cc.c9 (T 9 (by decide) h), fun h => by obtain ⟨g, c, e, h1, h2, h3, h4⟩ := cc.c10 (T 10 (by decide) h); exact ⟨g, c, e, h1, h2, h3, fun h6 => h4 (T 11 (by decide) h6)⟩, fun h => S 10 (cc.c1110 (T 11 (by decide) h))⟩⟩
      · simp at ho
        subst ho
        have T : ∀ j, j ≠ 1 → (listed.setIfInBounds 1 true).getD j false = true → listed.getD j false = true := fun j hj h => (done_set h).resolve_left hj
        have S : ∀ j, listed.getD j false = true → (listed.setIfInBounds 1 true).getD j false = true := fun j h => done_keep h
        refine wp_rowF 24 (.tmp 4) rfl (w.heap.size + 1) ((hF.old (by kernel_rfl)).trans rfl) (rb w' cc.bb) rfl Try.underlying24 (by kernel_rfl) ⟨_, rfl, ⟨cc.bb, fun h => cc.c0 (T 0 (by decide) h), fun _ => rfl, fun h => cc.c2 (T 2 (by decide) h), fun h => cc.c3 (T 3 (by decide) h), fun h => cc.c4 (T 4 (by decide) h), fun h => cc.c5 (T 5 (by decide) h), fun h => cc.c6 (T 6 (by decide) h), fun h => cc.c7 (T 7 (by decide) h), fun h => cc.c8 (T 8 (by decide) h), fun h => cc.c9 (T 9 (by decide) h), fun h => by obtain ⟨g, c, e, h1, h2, h3, h4⟩ := cc.c10 (T 10 (by decide) h); exact ⟨g, c, e, h1, h2, h3, fun h6 => h4 (T 11 (by decide) h6)⟩, fun h => S 10 (cc.c1110 (T 11 (by decide) h))⟩⟩
      · simp at ho
        subst ho
        have T : ∀ j, j ≠ 2 → (listed.setIfInBounds 2 true).getD j false = true → listed.getD j false = true := fun j hj h => (done_set h).resolve_left hj
        have S : ∀ j, listed.getD j false = true → (listed.setIfInBounds 2 true).getD j false = true := fun j h => done_keep h
        have hv1 := ((hF.new (t := 22) (i := 0) (by kernel_rfl) (by simp) (waits_done (i := 2) (j := 0) (by kernel_rfl) hi)).trans (cc.c0 (waits_done (i := 2) (j := 0) (by kernel_rfl) hi)))
        have hv2 := ((hF.new (t := 23) (i := 1) (by kernel_rfl) (by simp) (waits_done (i := 2) (j := 1) (by kernel_rfl) hi)).trans (cc.c1 (waits_done (i := 2) (j := 1) (by kernel_rfl) hi)))
        refine wp_callF (f := 10) (args := #[U a, U b]) (v := U u) (by simp [execOp_call_go, ev hv1, ev hv2, go_sem]) (m1.out w') ?_
        intro w'' hb''
        exact ⟨_, rfl, ⟨cc.bb.trans (hb''.mono cc.bb.size), fun h => cc.c0 (T 0 (by decide) h), fun h => cc.c1 (T 1 (by decide) h), fun _ => rfl, fun h => cc.c3 (T 3 (by decide) h), fun h => cc.c4 (T 4 (by decide) h), fun h => cc.c5 (T 5 (by decide) h), fun h => cc.c6 (T 6 (by decide) h), fun h => cc.c7 (T 7 (by decide) h), fun h => cc.c8 (T 8 (by decide) h), fun h => cc.c9 (T 9 (by decide) h), fun h => by obtain ⟨g, c, e, h1, h2, h3, h4⟩ := cc.c10 (T 10 (by decide) h); exact ⟨g, c, e, h1, h2.below hb'', h3, fun h6 => h4 (T 11 (by decide) h6)⟩, fun h => S 10 (cc.c1110 (T 11 (by decide) h))⟩⟩
      · simp at ho
        subst ho
        have T : ∀ j, j ≠ 3 → (listed.setIfInBounds 3 true).getD j false = true → listed.getD j false = true := fun j hj h => (done_set h).resolve_left hj
        have S : ∀ j, listed.getD j false = true → (listed.setIfInBounds 3 true).getD j false = true := fun j h => done_keep h
        refine wp_rowF 24 (.tmp 3) rfl w.heap.size ((hF.old (by kernel_rfl)).trans rfl) (ra w' cc.bb) rfl Try.underlying24 (by kernel_rfl) ⟨_, rfl, ⟨cc.bb, fun h => cc.c0 (T 0 (by decide) h), fun h => cc.c1 (T 1 (by decide) h), fun h => cc.c2 (T 2 (by decide) h), fun _ => rfl, fun h => cc.c4 (T 4 (by decide) h), fun h => cc.c5 (T 5 (by decide) h), fun h => cc.c6 (T 6 (by decide) h), fun h => cc.c7 (T 7 (by decide) h), fun h => cc.c8 (T 8 (by decide) h), fun h => cc.c9 (T 9 (by decide) h), fun h => by obtain ⟨g, c, e, h1, h2, h3, h4⟩ := cc.c10 (T 10 (by decide) h); exact ⟨g, c, e, h1, h2, h3, fun h6 => h4 (T 11 (by decide) h6)⟩, fun h => S 10 (cc.c1110 (T 11 (by decide) h))⟩⟩
      · simp at ho
        subst ho
        have T : ∀ j, j ≠ 4 → (listed.setIfInBounds 4 true).getD j false = true → listed.getD j false = true := fun j hj h => (done_set h).resolve_left hj
        have S : ∀ j, listed.getD j false = true → (listed.setIfInBounds 4 true).getD j false = true := fun j h => done_keep h
        refine wp_rowF 24 (.tmp 5) rfl (w.heap.size + 1 + 1) ((hF.old (by kernel_rfl)).trans rfl) (rc w' cc.bb) rfl Try.underlying24 (by kernel_rfl) ⟨_, rfl, ⟨cc.bb, fun h => cc.c0 (T 0 (by decide) h), fun h => cc.c1 (T 1 (by decide) h), fun h => cc.c2 (T 2 (by decide) h), fun h => cc.c3 (T 3 (by decide) h), fun _ => rfl, fun h => cc.c5 (T 5 (by decide) h), fun h => cc.c6 (T 6 (by decide) h), fun h => cc.c7 (T 7 (by decide) h), fun h => cc.c8 (T 8 (by decide) h), fun h => cc.c9 (T 9 (by decide) h), fun h => by obtain ⟨g, c, e, h1, h2, h3, h4⟩ := cc.c10 (T 10 (by decide) h); exact ⟨g, c, e, h1, h2, h3, fun h6 => h4 (T 11 (by decide) h6)⟩, fun h => S 10 (cc.c1110 (T 11 (by decide) h))⟩⟩
      · simp at ho
        subst ho
        have T : ∀ j, j ≠ 5 → (listed.setIfInBounds 5 true).getD j false = true → listed.getD j false = true := fun j hj h => (done_set h).resolve_left hj
        have S : ∀ j, listed.getD j false = true → (listed.setIfInBounds 5 true).getD j false = true := fun j h => done_keep h
        have hv1 := ((hF.new (t := 25) (i := 3) (by kernel_rfl) (by simp) (waits_done (i := 5) (j := 3) (by kernel_rfl) hi)).trans (cc.c3 (waits_done (i := 5) (j := 3) (by kernel_rfl) hi)))
        have hv2 := ((hF.new (t := 26) (i := 4) (by kernel_rfl) (by simp) (waits_done (i := 5) (j := 4) (by kernel_rfl) hi)).trans (cc.c4 (waits_done (i := 5) (j := 4) (by kernel_rfl) hi)))
        refine wp_callF (f := 10) (args := #[U a, U c]) (v := U v) (by simp [execOp_call_go, ev hv1, ev hv2, go_sem]) (m2.out w') ?_
        intro w'' hb''
        exact ⟨_, rfl, ⟨cc.bb.trans (hb''.mono cc.bb.size), fun h => cc.c0 (T 0 (by decide) h), fun h => cc.c1 (T 1 (by decide) h), fun h => cc.c2 (T 2 (by decide) h), fun h => cc.c3 (T 3 (by decide) h), fun h => cc.c4 (T 4 (by decide) h), fun _ => rfl, fun h => cc.c6 (T 6 (by decide) h), fun h => cc.c7 (T 7 (by decide) h), fun h => cc.c8 (T 8 (by decide) h), fun h => cc.c9 (T 9 (by decide) h), fun h => by obtain ⟨g, c, e, h1, h2, h3, h4⟩ := cc.c10 (T 10 (by decide) h); exact ⟨g, c, e, h1, h2.below hb'', h3, fun h6 => h4 (T 11 (by decide) h6)⟩, fun h => S 10 (cc.c1110 (T 11 (by decide) h))⟩⟩
      · simp at ho
        subst ho
        have T : ∀ j, j ≠ 6 → (listed.setIfInBounds 6 true).getD j false = true → listed.getD j false = true := fun j hj h => (done_set h).resolve_left hj
        have S : ∀ j, listed.getD j false = true → (listed.setIfInBounds 6 true).getD j false = true := fun j h => done_keep h
        have hv1 := ((hF.new (t := 24) (i := 2) (by kernel_rfl) (by simp) (waits_done (i := 6) (j := 2) (by kernel_rfl) hi)).trans (cc.c2 (waits_done (i := 6) (j := 2) (by kernel_rfl) hi)))
        have hv2 := ((hF.new (t := 27) (i := 5) (by kernel_rfl) (by simp) (waits_done (i := 6) (j := 5) (by kernel_rfl) hi)).trans (cc.c5 (waits_done (i := 6) (j := 5) (by kernel_rfl) hi)))
        refine wp_callF (f := 17) (args := #[U u, U v]) (v := .tuple #[U t, .bool o2]) (by simp [execOp_call_go, ev hv1, ev hv2, go_sem]) (m3.out w') ?_
        intro w'' hb''
        exact ⟨_, rfl, ⟨cc.bb.trans (hb''.mono cc.bb.size), fun h => cc.c0 (T 0 (by decide) h), fun h => cc.c1 (T 1 (by decide) h), fun h => cc.c2 (T 2 (by decide) h), fun h => cc.c3 (T 3 (by decide) h), fun h => cc.c4 (T 4 (by decide) h), fun h => cc.c5 (T 5 (by decide) h), fun _ => rfl, fun h => cc.c7 (T 7 (by decide) h), fun h => cc.c8 (T 8 (by decide) h), fun h => cc.c9 (T 9 (by decide) h), fun h => by obtain ⟨g, c, e, h1, h2, h3, h4⟩ := cc.c10 (T 10 (by decide) h); exact ⟨g, c, e, h1, h2.below hb'', h3, fun h6 => h4 (T 11 (by decide) h6)⟩, fun h => S 10 (cc.c1110 (T 11 (by decide) h))⟩⟩
      · simp at ho
        subst ho
        have T : ∀ j, j ≠ 7 → (listed.setIfInBounds 7 true).getD j false = true → listed.getD j false = true := fun j hj h => (done_set h).resolve_left hj
        have S : ∀ j, listed.getD j false = true → (listed.setIfInBounds 7 true).getD j false = true := fun j h => done_keep h
        have hv := ((hF.new (t := 28) (i := 6) (by kernel_rfl) (by simp) (waits_done (i := 7) (j := 6) (by kernel_rfl) hi)).trans (cc.c6 (waits_done (i := 7) (j := 6) (by kernel_rfl) hi)))
        refine wp_valF (v := .tuple #[U t, .bool o2]) (w1 := w') (by simp [execOp, go_sem, ev hv]) ⟨_, rfl, ⟨cc.bb, fun h => cc.c0 (T 0 (by decide) h), fun h => cc.c1 (T 1 (by decide) h), fun h => cc.c2 (T 2 (by decide) h), fun h => cc.c3 (T 3 (by decide) h), fun h => cc.c4 (T 4 (by decide) h), fun h => cc.c5 (T 5 (by decide) h), fun h => cc.c6 (T 6 (by decide) h), fun _ => rfl, fun h => cc.c8 (T 8 (by decide) h), fun h => cc.c9 (T 9 (by decide) h), fun h => by obtain ⟨g, c, e, h1, h2, h3, h4⟩ := cc.c10 (T 10 (by decide) h); exact ⟨g, c, e, h1, h2, h3, fun h6 => h4 (T 11 (by decide) h6)⟩, fun h => S 10 (cc.c1110 (T 11 (by decide) h))⟩⟩
      · simp at ho
        subst ho
        have T : ∀ j, j ≠ 8 → (listed.setIfInBounds 8 true).getD j false = true → listed.getD j false = true := fun j hj h => (done_set h).resolve_left hj
        have S : ∀ j, listed.getD j false = true → (listed.setIfInBounds 8 true).getD j false = true := fun j h => done_keep h
        have hv := ((hF.new (t := 21) (i := 7) (by kernel_rfl) (by simp) (waits_done (i := 8) (j := 7) (by kernel_rfl) hi)).trans (cc.c7 (waits_done (i := 8) (j := 7) (by kernel_rfl) hi)))
        refine wp_valF (v := U t) (w1 := w') (by simp [execOp, go_sem, ev hv]) ⟨_, rfl, ⟨cc.bb, fun h => cc.c0 (T 0 (by decide) h), fun h => cc.c1 (T 1 (by decide) h), fun h => cc.c2 (T 2 (by decide) h), fun h => cc.c3 (T 3 (by decide) h), fun h => cc.c4 (T 4 (by decide) h), fun h => cc.c5 (T 5 (by decide) h), fun h => cc.c6 (T 6 (by decide) h), fun h => cc.c7 (T 7 (by decide) h), fun _ => rfl, fun h => cc.c9 (T 9 (by decide) h), fun h => by obtain ⟨g, c, e, h1, h2, h3, h4⟩ := cc.c10 (T 10 (by decide) h); exact ⟨g, c, e, h1, h2, h3, fun h6 => h4 (T 11 (by decide) h6)⟩, fun h => S 10 (cc.c1110 (T 11 (by decide) h))⟩⟩
      · simp at ho
        subst ho
        have T : ∀ j, j ≠ 9 → (listed.setIfInBounds 9 true).getD j false = true → listed.getD j false = true := fun j hj h => (done_set h).resolve_left hj
        have S : ∀ j, listed.getD j false = true → (listed.setIfInBounds 9 true).getD j false = true := fun j h => done_keep h
        have hv := ((hF.new (t := 21) (i := 7) (by kernel_rfl) (by simp) (waits_done (i := 9) (j := 7) (by kernel_rfl) hi)).trans (cc.c7 (waits_done (i := 9) (j := 7) (by kernel_rfl) hi)))
        refine wp_valF (v := .bool o2) (w1 := w') (by simp [execOp, go_sem, ev hv]) ⟨_, rfl, ⟨cc.bb, fun h => cc.c0 (T 0 (by decide) h), fun h => cc.c1 (T 1 (by decide) h), fun h => cc.c2 (T 2 (by decide) h), fun h => cc.c3 (T 3 (by decide) h), fun h => cc.c4 (T 4 (by decide) h), fun h => cc.c5 (T 5 (by decide) h), fun h => cc.c6 (T 6 (by decide) h), fun h => cc.c7 (T 7 (by decide) h), fun h => cc.c8 (T 8 (by decide) h), fun _ => rfl, fun h => by obtain ⟨g, c, e, h1, h2, h3, h4⟩ := cc.c10 (T 10 (by decide) h); exact ⟨g, c, e, h1, h2, h3, fun h6 => h4 (T 11 (by decide) h6)⟩, fun h => S 10 (cc.c1110 (T 11 (by decide) h))⟩⟩
      · simp at ho
        subst ho
        have T : ∀ j, j ≠ 10 → (listed.setIfInBounds 10 true).getD j false = true → listed.getD j false = true := fun j hj h => (done_set h).resolve_left hj
        have S : ∀ j, listed.getD j false = true → (listed.setIfInBounds 10 true).getD j false = true := fun j h => done_keep h
        have hun : ¬ listed.getD 10 false = true := fun h => undone hi hs h
        refine wp_valF (v := .pointer (some ⟨w'.heap.size, 0, none⟩)) (w1 := w'.alloc (.cells #[.int .u64 0, .int .u64 0, .int .u64 0, .int .u64 0] 24)) (by simp [execOp, go_sem]) ⟨_, rfl, ⟨cc.bb.alloc cc.bb.size _, fun h => cc.c0 (T 0 (by decide) h), fun h => cc.c1 (T 1 (by decide) h), fun h => cc.c2 (T 2 (by decide) h), fun h => cc.c3 (T 3 (by decide) h), fun h => cc.c4 (T 4 (by decide) h), fun h => cc.c5 (T 5 (by decide) h), fun h => cc.c6 (T 6 (by decide) h), fun h => cc.c7 (T 7 (by decide) h), fun h => cc.c8 (T 8 (by decide) h), fun h => cc.c9 (T 9 (by decide) h), fun _ => ⟨w'.heap.size, #[.int .u64 0, .int .u64 0, .int .u64 0, .int .u64 0], rfl, cc.bb.size, HasRow.last rfl, rfl, fun h6 => absurd (cc.c1110 (T 11 (by decide) h6)) hun⟩, fun h => S 10 (cc.c1110 (T 11 (by decide) h))⟩⟩
      · simp at ho
        subst ho
        have T : ∀ j, j ≠ 11 → (listed.setIfInBounds 11 true).getD j false = true → listed.getD j false = true := fun j hj h => (done_set h).resolve_left hj
        have S : ∀ j, listed.getD j false = true → (listed.setIfInBounds 11 true).getD j false = true := fun j h => done_keep h
        have d7 := (waits_done (i := 11) (j := 10) (by kernel_rfl) hi)
        obtain ⟨g, c', e, h1, h2, h3, h4⟩ := cc.c10 d7
        have hx := (hF.new (t := 9) (i := 10) (by kernel_rfl) (by simp) d7).trans e
        have hv := ((hF.new (t := 29) (i := 8) (by kernel_rfl) (by simp) (waits_done (i := 11) (j := 8) (by kernel_rfl) hi)).trans (cc.c8 (waits_done (i := 11) (j := 8) (by kernel_rfl) hi)))
        refine wp_rowS 24 (.tmp 9) (.tmp 29) rfl g (c' := #[B (l0 t), B (l1 t), B (l2 t), B (l3 t)]) hx hv h2 h3 rfl (by simp [Value.oneCell']) (by kernel_rfl) ⟨_, rfl, ⟨below_setRow cc.bb h1 _, fun h => cc.c0 (T 0 (by decide) h), fun h => cc.c1 (T 1 (by decide) h), fun h => cc.c2 (T 2 (by decide) h), fun h => cc.c3 (T 3 (by decide) h), fun h => cc.c4 (T 4 (by decide) h), fun h => cc.c5 (T 5 (by decide) h), fun h => cc.c6 (T 6 (by decide) h), fun h => cc.c7 (T 7 (by decide) h), fun h => cc.c8 (T 8 (by decide) h), fun h => cc.c9 (T 9 (by decide) h), fun h => ⟨g, _, e, h1, h2.set_same _, rfl, fun _ => rfl⟩, fun _ => S 10 d7⟩⟩
      · simp at ho
        subst ho
        have T : ∀ j, j ≠ 12 → (listed.setIfInBounds 12 true).getD j false = true → listed.getD j false = true := fun j hj h => (done_set h).resolve_left hj
        have S : ∀ j, listed.getD j false = true → (listed.setIfInBounds 12 true).getD j false = true := fun j h => done_keep h
        have hv := ((hF.new (t := 30) (i := 9) (by kernel_rfl) (by simp) (waits_done (i := 12) (j := 9) (by kernel_rfl) hi)).trans (cc.c9 (waits_done (i := 12) (j := 9) (by kernel_rfl) hi)))
        refine wp_valF (v := .bool o2) (w1 := w') (by simp [execOp, go_sem, ev hv]) ⟨_, rfl, ⟨cc.bb, fun h => cc.c0 (T 0 (by decide) h), fun h => cc.c1 (T 1 (by decide) h), fun h => cc.c2 (T 2 (by decide) h), fun h => cc.c3 (T 3 (by decide) h), fun h => cc.c4 (T 4 (by decide) h), fun h => cc.c5 (T 5 (by decide) h), fun h => cc.c6 (T 6 (by decide) h), fun h => cc.c7 (T 7 (by decide) h), fun h => cc.c8 (T 8 (by decide) h), fun h => cc.c9 (T 9 (by decide) h), fun h => by obtain ⟨g, c, e, h1, h2, h3, h4⟩ := cc.c10 (T 10 (by decide) h); exact ⟨g, c, e, h1, h2, h3, fun h6 => h4 (T 11 (by decide) h6)⟩, fun h => S 10 (cc.c1110 (T 11 (by decide) h))⟩⟩
    · intro listed vs a' w' hd hF cc
      have e : a' = ({ tmps := #[U a, U b, U c, .pointer (some ⟨w.heap.size, 0, none⟩), .pointer (some ⟨w.heap.size + 1, 0, none⟩), .pointer (some ⟨w.heap.size + 1 + 1, 0, none⟩), .bool false, .pointer (some ⟨w1.heap.size, 0, none⟩), .bool o1, vs 10, vs 12, undef, undef, undef, undef, .tuple #[U s, .bool o1], .agg #[B (l0 b), B (l1 b), B (l2 b), B (l3 b)], .agg #[B (l0 c), B (l1 c), B (l2 c), B (l3 c)], .tuple #[U s, .bool o1], U s, .bool o1, vs 7, vs 0, vs 1, vs 2, vs 3, vs 4, vs 5, vs 6, vs 8, vs 9, undef, undef, undef, undef, undef, undef, undef, undef, undef, undef, undef, undef, undef, undef, undef, undef, undef, undef, undef, undef, undef, undef, undef, undef, undef, undef, undef, undef, undef, undef, undef, undef, undef, undef, undef, undef, undef, undef, undef, undef, undef, undef, undef, undef, undef, undef, undef, undef, undef, undef, undef, undef, undef], defers := [] } : Act) := (hF.all hd).trans (by kernel_rfl)
      subst e
      obtain ⟨g, c', e4, h1, h2, h3, h4⟩ := cc.c10 (hd 10 (by simp))
      have HH : Hid (vs 10 = .pointer (some ⟨g, 0, none⟩) ∧ HasRow w' g #[B (l0 t), B (l1 t), B (l2 t), B (l3 t)] ∧ Below W0.heap.size W0 w') := ⟨e4, h4 (hd 11 (by simp)) ▸ h2, cc.bb⟩
      clear e4 h1 h2 h3 h4 cc hd ra rb rc hF
      go_wp2_with fail
      go_meet
      case rel =>
        obtain ⟨e4, h2, hb⟩ := HH.out
        exact ⟨g, e4, h2, hb⟩
  case rest =>
  obtain ⟨bt, rfl, ht, hbc⟩ := hcut
  have b1 := (HasRow.old (o := Obj.cells #[B (l0 s), B (l1 s), B (l2 s), B (l3 s)] 24) A1.out).below hbc
  have b2 := (HasRow.old (o := Obj.cells #[B (l0 s), B (l1 s), B (l2 s), B (l3 s)] 24) A2.out).below hbc
  have b3 := (HasRow.last (w := w1) (c := #[B (l0 s), B (l1 s), B (l2 s), B (l3 s)]) (t := 24) rfl).below hbc
  have c1_0_0 : wc.cell? ⟨w.heap.size, 0, none⟩ = some (B (l0 a)) := b1.cell 0
  have c1_0_1 : wc.cell? ⟨w.heap.size, 1, none⟩ = some (B (l1 a)) := b1.cell 1
  have c1_0_2 : wc.cell? ⟨w.heap.size, 2, none⟩ = some (B (l2 a)) := b1.cell 2
  have c1_0_3 : wc.cell? ⟨w.heap.size, 3, none⟩ = some (B (l3 a)) := b1.cell 3
  have c1_1_0 : wc.cell? ⟨w.heap.size + 1, 0, none⟩ = some (B (l0 b)) := b2.cell 0
  have c1_1_1 : wc.cell? ⟨w.heap.size + 1, 1, none⟩ = some (B (l1 b)) := b2.cell 1
  have c1_1_2 : wc.cell? ⟨w.heap.size + 1, 2, none⟩ = some (B (l2 b)) := b2.cell 2
  have c1_1_3 : wc.cell? ⟨w.heap.size + 1, 3, none⟩ = some (B (l3 b)) := b2.cell 3
  have c1_2_0 : wc.cell? ⟨w1.heap.size, 0, none⟩ = some (B (l0 s)) := b3.cell 0
  have c1_2_1 : wc.cell? ⟨w1.heap.size, 1, none⟩ = some (B (l1 s)) := b3.cell 1
  have c1_2_2 : wc.cell? ⟨w1.heap.size, 2, none⟩ = some (B (l2 s)) := b3.cell 2
  have c1_2_3 : wc.cell? ⟨w1.heap.size, 3, none⟩ = some (B (l3 s)) := b3.cell 3
  have c1_3_0 : wc.cell? ⟨bt, 0, none⟩ = some (B (l0 t)) := ht.cell 0
  have c1_3_1 : wc.cell? ⟨bt, 1, none⟩ = some (B (l1 t)) := ht.cell 1
  have c1_3_2 : wc.cell? ⟨bt, 2, none⟩ = some (B (l2 t)) := ht.cell 2
  have c1_3_3 : wc.cell? ⟨bt, 3, none⟩ = some (B (l3 t)) := ht.cell 3
  have y1 := b1.lt
  have y2 := b2.lt
  have y3 := b3.lt
  have y4 := ht.lt
  clear b1 b2 b3 ht A1 A2 A3 hs m1 m2 m3
  go_wp2_with fail
  refine (hw.out _).mono ?_
  rintro e w2 ⟨rfl, hb2⟩
  obtain ⟨p2, f2, z2⟩ := bcell hb2
  try simp at z2
  have q2_0 : w.heap.size < w2.heap.size := by omega
  have q2_1 : w.heap.size + 1 < w2.heap.size := by omega
  have q2_2 : w1.heap.size < w2.heap.size := by omega
  have q2_3 : bt < w2.heap.size := by omega
  have c2_0_0 : w2.cell? ⟨w.heap.size, 0, none⟩ = some (B (l0 a)) := by rw [p2 _ _ (by first | assumption | omega | (simp; done) | (simp; omega))]; go_simp
  have c2_0_1 : w2.cell? ⟨w.heap.size, 1, none⟩ = some (B (l1 a)) := by rw [p2 _ _ (by first | assumption | omega | (simp; done) | (simp; omega))]; go_simp
  have c2_0_2 : w2.cell? ⟨w.heap.size, 2, none⟩ = some (B (l2 a)) := by rw [p2 _ _ (by first | assumption | omega | (simp; done) | (simp; omega))]; go_simp
  have c2_0_3 : w2.cell? ⟨w.heap.size, 3, none⟩ = some (B (l3 a)) := by rw [p2 _ _ (by first | assumption | omega | (simp; done) | (simp; omega))]; go_simp
  have c2_1_0 : w2.cell? ⟨w.heap.size + 1, 0, none⟩ = some (B (l0 b)) := by rw [p2 _ _ (by first | assumption | omega | (simp; done) | (simp; omega))]; go_simp
  have c2_1_1 : w2.cell? ⟨w.heap.size + 1, 1, none⟩ = some (B (l1 b)) := by rw [p2 _ _ (by first | assumption | omega | (simp; done) | (simp; omega))]; go_simp
  have c2_1_2 : w2.cell? ⟨w.heap.size + 1, 2, none⟩ = some (B (l2 b)) := by rw [p2 _ _ (by first | assumption | omega | (simp; done) | (simp; omega))]; go_simp
  have c2_1_3 : w2.cell? ⟨w.heap.size + 1, 3, none⟩ = some (B (l3 b)) := by rw [p2 _ _ (by first | assumption | omega | (simp; done) | (simp; omega))]; go_simp
  have c2_2_0 : w2.cell? ⟨w1.heap.size, 0, none⟩ = some (B (l0 s)) := by rw [p2 _ _ (by first | assumption | omega | (simp; done) | (simp; omega))]; go_simp
  have c2_2_1 : w2.cell? ⟨w1.heap.size, 1, none⟩ = some (B (l1 s)) := by rw [p2 _ _ (by first | assumption | omega | (simp; done) | (simp; omega))]; go_simp
  have c2_2_2 : w2.cell? ⟨w1.heap.size, 2, none⟩ = some (B (l2 s)) := by rw [p2 _ _ (by first | assumption | omega | (simp; done) | (simp; omega))]; go_simp
  have c2_2_3 : w2.cell? ⟨w1.heap.size, 3, none⟩ = some (B (l3 s)) := by rw [p2 _ _ (by first | assumption | omega | (simp; done) | (simp; omega))]; go_simp
  have c2_3_0 : w2.cell? ⟨bt, 0, none⟩ = some (B (l0 t)) := by rw [p2 _ _ (by first | assumption | omega | (simp; done) | (simp; omega))]; go_simp
  have c2_3_1 : w2.cell? ⟨bt, 1, none⟩ = some (B (l1 t)) := by rw [p2 _ _ (by first | assumption | omega | (simp; done) | (simp; omega))]; go_simp
  have c2_3_2 : w2.cell? ⟨bt, 2, none⟩ = some (B (l2 t)) := by rw [p2 _ _ (by first | assumption | omega | (simp; done) | (simp; omega))]; go_simp
  have c2_3_3 : w2.cell? ⟨bt, 3, none⟩ = some (B (l3 t)) := by rw [p2 _ _ (by first | assumption | omega | (simp; done) | (simp; omega))]; go_simp
  clear p2 f2
  clear c1_0_0 c1_0_1 c1_0_2 c1_0_3 c1_1_0 c1_1_1 c1_1_2 c1_1_3 c1_2_0 c1_2_1 c1_2_2 c1_2_3 c1_3_0 c1_3_1 c1_3_2 c1_3_3
  go_wp2_with fail
  refine (hx.out _).mono ?_
  rintro e w3 ⟨rfl, hb3⟩
  obtain ⟨p3, f3, z3⟩ := bcell hb3
  try simp at z3
  have q3_0 : w.heap.size < w3.heap.size := by omega
  have q3_1 : w.heap.size + 1 < w3.heap.size := by omega
  have q3_2 : w1.heap.size < w3.heap.size := by omega
  have q3_3 : bt < w3.heap.size := by omega
  have q3_4 : w2.heap.size < w3.heap.size := by omega
  have q3_5 : w2.heap.size + 1 < w3.heap.size := by omega
  have c3_0_0 : w3.cell? ⟨w.heap.size, 0, none⟩ = some (B (l0 a)) := by rw [p3 _ _ (by first | assumption | omega | (simp; done) | (simp; omega))]; go_simp
  have c3_0_1 : w3.cell? ⟨w.heap.size, 1, none⟩ = some (B (l1 a)) := by rw [p3 _ _ (by first | assumption | omega | (simp; done) | (simp; omega))]; go_simp
  have c3_0_2 : w3.cell? ⟨w.heap.size, 2, none⟩ = some (B (l2 a)) := by rw [p3 _ _ (by first | assumption | omega | (simp; done) | (simp; omega))]; go_simp
  have c3_0_3 : w3.cell? ⟨w.heap.size, 3, none⟩ = some (B (l3 a)) := by rw [p3 _ _ (by first | assumption | omega | (simp; done) | (simp; omega))]; go_simp
  have c3_1_0 : w3.cell? ⟨w.heap.size + 1, 0, none⟩ = some (B (l0 b)) := by rw [p3 _ _ (by first | assumption | omega | (simp; done) | (simp; omega))]; go_simp
  have c3_1_1 : w3.cell? ⟨w.heap.size + 1, 1, none⟩ = some (B (l1 b)) := by rw [p3 _ _ (by first | assumption | omega | (simp; done) | (simp; omega))]; go_simp
  have c3_1_2 : w3.cell? ⟨w.heap.size + 1, 2, none⟩ = some (B (l2 b)) := by rw [p3 _ _ (by first | assumption | omega | (simp; done) | (simp; omega))]; go_simp
  have c3_1_3 : w3.cell? ⟨w.heap.size + 1, 3, none⟩ = some (B (l3 b)) := by rw [p3 _ _ (by first | assumption | omega | (simp; done) | (simp; omega))]; go_simp
  have c3_2_0 : w3.cell? ⟨w1.heap.size, 0, none⟩ = some (B (l0 s)) := by rw [p3 _ _ (by first | assumption | omega | (simp; done) | (simp; omega))]; go_simp
  have c3_2_1 : w3.cell? ⟨w1.heap.size, 1, none⟩ = some (B (l1 s)) := by rw [p3 _ _ (by first | assumption | omega | (simp; done) | (simp; omega))]; go_simp
  have c3_2_2 : w3.cell? ⟨w1.heap.size, 2, none⟩ = some (B (l2 s)) := by rw [p3 _ _ (by first | assumption | omega | (simp; done) | (simp; omega))]; go_simp
  have c3_2_3 : w3.cell? ⟨w1.heap.size, 3, none⟩ = some (B (l3 s)) := by rw [p3 _ _ (by first | assumption | omega | (simp; done) | (simp; omega))]; go_simp
  have c3_3_0 : w3.cell? ⟨bt, 0, none⟩ = some (B (l0 t)) := by rw [p3 _ _ (by first | assumption | omega | (simp; done) | (simp; omega))]; go_simp
  have c3_3_1 : w3.cell? ⟨bt, 1, none⟩ = some (B (l1 t)) := by rw [p3 _ _ (by first | assumption | omega | (simp; done) | (simp; omega))]; go_simp
  have c3_3_2 : w3.cell? ⟨bt, 2, none⟩ = some (B (l2 t)) := by rw [p3 _ _ (by first | assumption | omega | (simp; done) | (simp; omega))]; go_simp
  have c3_3_3 : w3.cell? ⟨bt, 3, none⟩ = some (B (l3 t)) := by rw [p3 _ _ (by first | assumption | omega | (simp; done) | (simp; omega))]; go_simp
  have c3_4_0 : w3.cell? ⟨w2.heap.size, 0, none⟩ = some (B (l0 h)) := by rw [p3 _ _ (by first | assumption | omega | (simp; done) | (simp; omega))]; go_simp
  have c3_4_1 : w3.cell? ⟨w2.heap.size, 1, none⟩ = some (B (l1 h)) := by rw [p3 _ _ (by first | assumption | omega | (simp; done) | (simp; omega))]; go_simp
  have c3_4_2 : w3.cell? ⟨w2.heap.size, 2, none⟩ = some (B (l2 h)) := by rw [p3 _ _ (by first | assumption | omega | (simp; done) | (simp; omega))]; go_simp
  have c3_4_3 : w3.cell? ⟨w2.heap.size, 3, none⟩ = some (B (l3 h)) := by rw [p3 _ _ (by first | assumption | omega | (simp; done) | (simp; omega))]; go_simp
  have c3_5_0 : w3.cell? ⟨w2.heap.size + 1, 0, none⟩ = some (B (l0 l)) := by rw [p3 _ _ (by first | assumption | omega | (simp; done) | (simp; omega))]; go_simp
  have c3_5_1 : w3.cell? ⟨w2.heap.size + 1, 1, none⟩ = some (B (l1 l)) := by rw [p3 _ _ (by first | assumption | omega | (simp; done) | (simp; omega))]; go_simp
  have c3_5_2 : w3.cell? ⟨w2.heap.size + 1, 2, none⟩ = some (B (l2 l)) := by rw [p3 _ _ (by first | assumption | omega | (simp; done) | (simp; omega))]; go_simp
  have c3_5_3 : w3.cell? ⟨w2.heap.size + 1, 3, none⟩ = some (B (l3 l)) := by rw [p3 _ _ (by first | assumption | omega | (simp; done) | (simp; omega))]; go_simp
  clear p3 f3
  clear c2_0_0 c2_0_1 c2_0_2 c2_0_3 c2_1_0 c2_1_1 c2_1_2 c2_1_3 c2_2_0 c2_2_1 c2_2_2 c2_2_3 c2_3_0 c2_3_1 c2_3_2 c2_3_3
  go_wp2_with fail
  refine name_world _ ?_
  intro wF hF
  have d0_0 : wF.cell? ⟨w.heap.size, 0, none⟩ = some (B (l0 a)) := by rw [hF]; go_simp
  have d0_1 : wF.cell? ⟨w.heap.size, 1, none⟩ = some (B (l1 a)) := by rw [hF]; go_simp
  have d0_2 : wF.cell? ⟨w.heap.size, 2, none⟩ = some (B (l2 a)) := by rw [hF]; go_simp
  have d0_3 : wF.cell? ⟨w.heap.size, 3, none⟩ = some (B (l3 a)) := by rw [hF]; go_simp
  have d1_0 : wF.cell? ⟨w.heap.size + 1, 0, none⟩ = some (B (l0 b)) := by rw [hF]; go_simp
  have d1_1 : wF.cell? ⟨w.heap.size + 1, 1, none⟩ = some (B (l1 b)) := by rw [hF]; go_simp
  have d1_2 : wF.cell? ⟨w.heap.size + 1, 2, none⟩ = some (B (l2 b)) := by rw [hF]; go_simp
  have d1_3 : wF.cell? ⟨w.heap.size + 1, 3, none⟩ = some (B (l3 b)) := by rw [hF]; go_simp
  have d2_0 : wF.cell? ⟨w1.heap.size, 0, none⟩ = some (B (l0 s)) := by rw [hF]; go_simp
  have d2_1 : wF.cell? ⟨w1.heap.size, 1, none⟩ = some (B (l1 s)) := by rw [hF]; go_simp
  have d2_2 : wF.cell? ⟨w1.heap.size, 2, none⟩ = some (B (l2 s)) := by rw [hF]; go_simp
  have d2_3 : wF.cell? ⟨w1.heap.size, 3, none⟩ = some (B (l3 s)) := by rw [hF]; go_simp
  have d3_0 : wF.cell? ⟨bt, 0, none⟩ = some (B (l0 t)) := by rw [hF]; go_simp
  have d3_1 : wF.cell? ⟨bt, 1, none⟩ = some (B (l1 t)) := by rw [hF]; go_simp
  have d3_2 : wF.cell? ⟨bt, 2, none⟩ = some (B (l2 t)) := by rw [hF]; go_simp
  have d3_3 : wF.cell? ⟨bt, 3, none⟩ = some (B (l3 t)) := by rw [hF]; go_simp
  have d4_0 : wF.cell? ⟨w2.heap.size, 0, none⟩ = some (B (l0 h)) := by rw [hF]; go_simp
  have d4_1 : wF.cell? ⟨w2.heap.size, 1, none⟩ = some (B (l1 h)) := by rw [hF]; go_simp
  have d4_2 : wF.cell? ⟨w2.heap.size, 2, none⟩ = some (B (l2 h)) := by rw [hF]; go_simp
  have d4_3 : wF.cell? ⟨w2.heap.size, 3, none⟩ = some (B (l3 h)) := by rw [hF]; go_simp
  have d5_0 : wF.cell? ⟨w2.heap.size + 1, 0, none⟩ = some (B (l0 l)) := by rw [hF]; go_simp
  have d5_1 : wF.cell? ⟨w2.heap.size + 1, 1, none⟩ = some (B (l1 l)) := by rw [hF]; go_simp
  have d5_2 : wF.cell? ⟨w2.heap.size + 1, 2, none⟩ = some (B (l2 l)) := by rw [hF]; go_simp
  have d5_3 : wF.cell? ⟨w2.heap.size + 1, 3, none⟩ = some (B (l3 l)) := by rw [hF]; go_simp
  have d6_0 : wF.cell? ⟨w3.heap.size, 0, none⟩ = some (B (l0 h)) := by rw [hF]; go_simp
  have d6_1 : wF.cell? ⟨w3.heap.size, 1, none⟩ = some (B (l1 h)) := by rw [hF]; go_simp
  have d6_2 : wF.cell? ⟨w3.heap.size, 2, none⟩ = some (B (l2 h)) := by rw [hF]; go_simp
  have d6_3 : wF.cell? ⟨w3.heap.size, 3, none⟩ = some (B (l3 h)) := by rw [hF]; go_simp
  have d7_0 : wF.cell? ⟨w3.heap.size + 1, 0, none⟩ = some (B (l0 l)) := by rw [hF]; go_simp
  have d7_1 : wF.cell? ⟨w3.heap.size + 1, 1, none⟩ = some (B (l1 l)) := by rw [hF]; go_simp
  have d7_2 : wF.cell? ⟨w3.heap.size + 1, 2, none⟩ = some (B (l2 l)) := by rw [hF]; go_simp
  have d7_3 : wF.cell? ⟨w3.heap.size + 1, 3, none⟩ = some (B (l3 l)) := by rw [hF]; go_simp
  have hBF : Below w.heap.size w wF := by rw [hF]; (repeat (first | exact Below.refl _ _ | apply Below.drew | refine bel_alloc ?_ _ | refine bel_set ?_ (by first | (simp; done) | (simp; omega)) _ | refine bel_call ?_ (by assumption)))
  clear hF
  replace d0_0 := cell_regrown d0_0
  replace d0_1 := cell_regrown d0_1
  replace d0_2 := cell_regrown d0_2
  replace d0_3 := cell_regrown d0_3
  replace d1_0 := cell_regrown d1_0
  replace d1_1 := cell_regrown d1_1
  replace d1_2 := cell_regrown d1_2
  replace d1_3 := cell_regrown d1_3
  replace d2_0 := cell_regrown d2_0
  replace d2_1 := cell_regrown d2_1
  replace d2_2 := cell_regrown d2_2
  replace d2_3 := cell_regrown d2_3
  replace d3_0 := cell_regrown d3_0
  replace d3_1 := cell_regrown d3_1
  replace d3_2 := cell_regrown d3_2
  replace d3_3 := cell_regrown d3_3
  replace d4_0 := cell_regrown d4_0
  replace d4_1 := cell_regrown d4_1
  replace d4_2 := cell_regrown d4_2
  replace d4_3 := cell_regrown d4_3
  replace d5_0 := cell_regrown d5_0
  replace d5_1 := cell_regrown d5_1
  replace d5_2 := cell_regrown d5_2
  replace d5_3 := cell_regrown d5_3
  replace d6_0 := cell_regrown d6_0
  replace d6_1 := cell_regrown d6_1
  replace d6_2 := cell_regrown d6_2
  replace d6_3 := cell_regrown d6_3
  replace d7_0 := cell_regrown d7_0
  replace d7_1 := cell_regrown d7_1
  replace d7_2 := cell_regrown d7_2
  replace d7_3 := cell_regrown d7_3
  refine wp_region_quiet_below (by kernel_rfl) (by kernel_rfl) ?_
  repeat (go_big_quiet_step (fail))
  go_big_quiet_step ((exact Calls.regrown_of (hm.out _)))
  repeat (go_big_quiet_step (fail))
  go_big_quiet_step ((exact Calls.regrown_of (r1.out _)))
  repeat (go_big_quiet_step (fail))
  go_big_quiet_step ((exact Calls.regrown_of (r2.out _)))
  repeat (go_big_quiet_step (fail))
  go_big_quiet_step ((exact Calls.regrown_of (h1.out _)))
  repeat (go_big_quiet_step (fail))
  go_big_quiet_step ((exact Calls.regrown_of (ha.out _)))
  repeat (go_big_quiet_step (fail))
  refine wpQuiet_nil ?_
  intro _ hw'
  obtain ⟨⟨dq', osq⟩, hw''⟩ := hw'
  subst hw''
  go_wp2
  go_ret
  exact ⟨rfl, bel_call hBF (below_regrown wF dq' osq)⟩

theorem rest_zero (h l a p : Nat) (hp : h * W + l = a * p) : dr h l a = 0 := by
  unfold dr
  split
  · rfl
  · rw [hp, Nat.mul_mod_right]
theorem spreads_walk (a b c : Nat) (ha : a < W) (hb : b < W) (hc : c < W) (w : World) : Calls Try.prog 6 #[U a, U b, U c] w fun e w' => e = .returned (.bool true) ∧ Below w.heap.size w w' := by
  have hW := W_pos
  have hd := Nat.div_add_mod (a * b) W
  have hhW : a * b / W < W := Nat.div_lt_of_lt_mul (Nat.mul_lt_mul'' ha hb)
  have hlW : a * b % W < W := Nat.mod_lt _ hW
  refine spreads_gen a b c (addW b c) (a * b % W) (a * c % W) (addW (a * b % W) (a * c % W)) (a * b / W) (a * b % W) (ovW b c) (ovW (a * b % W) (a * c % W))
    (radd_any b c hb hc) (mul_any a b ha hb) (mul_any a c ha hc) (radd_any _ _ hlW (Nat.mod_lt _ hW)) (wide_any a b ha hb) (fun w => ?_) (fun w => ?_) (fun w => ?_) (fun w => ?_) (fun w => ?_) awake_any w
  · have q := wide_any b a hb ha w
    rw [Nat.mul_comm b a] at q
    exact q
  · have q := mul_any a (addW b c) ha (addW_lt b c) w
    have e : a * addW b c % W = addW (a * b % W) (a * c % W) := by
      unfold addW
      rw [Nat.mul_mod_mod, Nat.mul_add, ← Nat.add_mod]
    rw [e] at q
    exact q
  · have q := rest_any _ _ a hhW hlW ha w
    rw [rest_zero _ _ a b (by rw [Nat.mul_comm (a * b / W)]; exact hd), U_zero] at q
    exact q
  · have q := rest_any _ _ b hhW hlW hb w
    rw [rest_zero _ _ b a (by rw [Nat.mul_comm (a * b / W), Nat.mul_comm b a]; exact hd), U_zero] at q
    exact q
  · have q := mul_any a 1 ha (by decide +kernel) w
    rw [Nat.mul_one, Nat.mod_eq_of_lt ha, U_1] at q
    exact q
end Go.Proofs.Ytmcdklcocgahpaa
