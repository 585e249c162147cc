/- The document's Rest and Div, told by numbers. -/
import Derived.Test.YtbfgeinneglpdaaRr
import Derived.Test.YtbfgeinneglpdaaPt
import Derived.Test.YtbfgeinneglpdaaDc
import Derived.Test.YtbfgeinneglpdaaRz
import Derived.Test.YtbfgeinneglpdaaLa
import Derived.WalkMore
namespace Go.Proofs.Ytbfgeinneglpdaa
open Go.RowKit Go.Sort
set_option linter.unusedVariables false
structure CDV (w : World) (N0 : Nat) (b : Nat) (dd fb q o : Nat → Nat) (listed : Array Bool) (vs : Nat → Value) (w' : World) : Prop where
  bw : Below w.heap.size w w'
  ms : N0 ≤ w'.heap.size
  R0 : HasRow w' (w.heap.size + 1 + 1 + 1 + 1) (ag .u64 16 dd)
  R1 : HasRow w' (w.heap.size + 1) #[B (l0 b), B (l1 b), B (l2 b), B (l3 b)]
  R2 : HasRow w' (w.heap.size + 1 + 1) #[.int .u64 0, .int .u64 0, .int .u64 0, .int .u64 0]
  R3 : HasRow w' (w.heap.size + 1 + 1 + 1) #[.int .u64 0, .int .u64 0, .int .u64 0, .int .u64 0]
  c0 : listed.getD 0 false = true → vs 0 = A16 dd
  c1 : listed.getD 1 false = true → vs 1 = U b
  c2 : listed.getD 2 false = true → vs 2 = A8 fb
  c3 : listed.getD 3 false = true → vs 3 = .tuple #[A16 q, A8 o]
  c4 : listed.getD 4 false = true → vs 4 = .tuple #[A16 q, A8 o]
  c5 : listed.getD 5 false = true → vs 5 = A16 q
  c6 : listed.getD 6 false = true → vs 6 = A8 o
  c7 : listed.getD 7 false = true → ∃ g c, vs 7 = .pointer (some ⟨g, 0, none⟩) ∧ N0 ≤ g ∧ HasRow w' g c ∧ c.size = 16 ∧ (listed.getD 9 false = true → c = (ag .u64 16 q))
  c8 : listed.getD 8 false = true → ∃ g c, vs 8 = .pointer (some ⟨g, 0, none⟩) ∧ N0 ≤ g ∧ HasRow w' g c ∧ c.size = 8 ∧ (listed.getD 10 false = true → c = (ag .u64 8 o))
  c9 : listed.getD 9 false = true → listed.getD 7 false = true
  c10 : listed.getD 10 false = true → listed.getD 8 false = true
  ne7_8 : listed.getD 7 false = true → listed.getD 8 false = true → vs 7 ≠ vs 8
structure CDW (w : World) (N0 : Nat) (l x bl bo : Nat) (o : Nat → Nat) (listed : Array Bool) (vs : Nat → Value) (w' : World) : Prop where
  bw : Below w.heap.size w w'
  ms : N0 ≤ w'.heap.size
  R0 : HasRow w' (bl) #[B (l0 l), B (l1 l), B (l2 l), B (l3 l)]
  R1 : HasRow w' (bo) (ag .u64 8 o)
  c0 : listed.getD 0 false = true → vs 0 = U l
  c1 : listed.getD 1 false = true → vs 1 = A8 o
  c2 : listed.getD 2 false = true → vs 2 = U x
  c3 : ∃ c, HasRow w' (w.heap.size + 1 + 1) c ∧ c.size = 4 ∧ (listed.getD 3 false = true → c = #[B (l0 l), B (l1 l), B (l2 l), B (l3 l)])
  c4 : ∃ c, HasRow w' (w.heap.size + 1 + 1 + 1) c ∧ c.size = 4 ∧ (listed.getD 4 false = true → c = #[B (l0 x), B (l1 x), B (l2 x), B (l3 x)])

structure DR (w w' : World) (b b1 : Nat) (fa dd : Nat → Nat) : Prop where
  m : HasRow w' (w.heap.size + 1) #[B (l0 b), B (l1 b), B (l2 b), B (l3 b)]
  r : HasRow w' (w.heap.size + 1 + 1) #[.int .u64 0, .int .u64 0, .int .u64 0, .int .u64 0]
  s : HasRow w' (w.heap.size + 1 + 1 + 1) #[.int .u64 0, .int .u64 0, .int .u64 0, .int .u64 0]
  d : HasRow w' (w.heap.size + 1 + 1 + 1 + 1) (ag .u64 16 dd)
  h : HasRow w' b1 (ag .u64 8 fa)
  bw : Below w.heap.size w w'
  g1 : w.heap.size + 1 + 1 + 1 + 1 < b1
theorem DR.put {w w' : World} {b b1 : Nat} {fa dd : Nat → Nat} (h : DR w w' b b1 fa dd) (i x : Nat) : DR w (w'.setCell ⟨w.heap.size + 1 + 1 + 1 + 1, i, none⟩ (.int .u64 (x : Nat))) b b1 fa (upd dd i x) := by
  have hg := h.g1
  rw [h.d.setCell, ag_set]
  exact ⟨h.m.set_other _ (by omega), h.r.set_other _ (by omega), h.s.set_other _ (by omega), h.d.set_same _, h.h.set_other _ (by omega), below_setRow h.bw (by omega) _, hg⟩

set_option maxRecDepth 100000 in
set_option maxHeartbeats 8000000 in
theorem rdiv_raw (a b h l x : Nat) (fa fb q o : Nat → Nat)
    (c1 : Hid (∀ w, Calls Try.prog 49 #[U a] w fun e w' => e = .returned (A8 fa) ∧ Below w.heap.size w w'))
    (c3 : Hid (∀ w, Calls Try.prog 49 #[U b] w fun e w' => e = .returned (A8 fb) ∧ Below w.heap.size w w'))
    (c4 : Hid (∀ dd : Nat → Nat, (∀ i, i < 8 → dd i = fa i) → (∀ i, 8 ≤ i → dd i = 0) → ∀ w, Calls Try.prog 50 #[A16 dd, A8 fb] w fun e w' => e = .returned (.tuple #[A16 q, A8 o]) ∧ Below w.heap.size w w'))
    (cp : Hid (∀ w, Calls Try.prog 51 #[A16 q] w fun e w' => e = .returned (.tuple #[U h, U l]) ∧ Below w.heap.size w w'))
    (c5 : Hid (∀ w, Calls Try.prog 52 #[A8 o] w fun e w' => e = .returned (U x) ∧ Below w.heap.size w w')) (w : World) :
    Calls Try.prog 25 #[U a, U b] w fun e w' => e = .returned (.tuple #[U l, U x]) ∧ Below w.heap.size w w' := by
  go_enter Try.func25, Try.ntmps25
  go_wp2_with fail
  refine (c1.out _).mono ?_
  rintro e w1 ⟨he, hb1⟩
  obtain ⟨ch, hch⟩ : ∃ c, c = (ag .u64 8 fa) := ⟨_, rfl⟩
  have he' : e = .returned (.agg ch) := by rw [he, hch]
  subst he'
  have F0 : Hid (DR w (w1.alloc (Obj.cells (ag .u64 8 fa) 51)) b w1.heap.size fa (fun _ => 0)) := by
    exact ⟨((HasRow.old (HasRow.old (HasRow.old (HasRow.last (by simp))))).below hb1).old, ((HasRow.old (HasRow.old (HasRow.last (by simp)))).below hb1).old, ((HasRow.old (HasRow.last (by simp))).below hb1).old, ((HasRow.last (by simp)).below hb1).old, HasRow.last rfl, bel_alloc (bel_call (by (repeat (first | exact Below.refl _ _ | refine bel_alloc ?_ _))) hb1) _, by have := hb1.size; simp at this; omega⟩
  have hsz : ch.size = 8 := by rw [hch]; exact ag_size _ _ _
  have hsc := run_storeCells_v (P := Try.prog) (⟨hch⟩ : IsRow ch .u64 8 fa) (g := w1.heap.size) 51 (by kernel_rfl) (StoreTo.last (w := w1) (c := #[.int .u64 0, .int .u64 0, .int .u64 0, .int .u64 0, .int .u64 0, .int .u64 0, .int .u64 0, .int .u64 0]) (t := 51) rfl rfl)
  clear hb1 he hch
  go_wp2
  generalize w1.heap.size = b1 at *
  go_loopw [8] (fun i w' => ∃ (t : Nat) (dd : Nat → Nat), t ≤ 8 ∧ i = .int .i64 (t : Int) ∧ DR w w' b b1 fa dd ∧ (∀ i, i < t → dd i = fa i) ∧ (∀ i, t ≤ i → dd i = 0)) (fun i _ => 8 - (intOf i).toNat)
  case atStart => exact ⟨0, fun _ => 0, Nat.zero_le _, rfl, F0.out, fun i hi => by omega, fun _ _ => rfl⟩
  case round =>
    obtain ⟨t, dd, ht, rfl, hS, hA, hB⟩ := hrel
    clear F0
    have KS : Hid _ := hS
    have KA : Hid _ := hA
    have KB : Hid _ := hB
    clear hA hB
    by_cases hlt : t < 8
    · have y1 := hS.h.cell t
      rw [ag_get, if_pos (by omega)] at y1
      have y2 := hS.d.cell t
      rw [ag_get, if_pos (by omega)] at y2
      have y3 := hS.d.frozen t
      clear hS
      go_wp2
      go_roundw
      case rel =>
        refine ⟨t + 1, upd dd t (fa t), by omega, by go_num, KS.out.put t (fa t), fun i hi => ?_, fun i hi => ?_⟩
        · by_cases e : i = t
          · subst e; rw [upd_same]
          · rw [upd_other _ _ _ e]; exact KA.out i (by omega)
        · rw [upd_other _ _ _ (by omega)]; exact KB.out i (by omega)
      case measure => simp [intOf]; omega
    · have hte : t = 8 := by omega
      subst hte
      clear hS
      go_wp2
      have c4' : Hid (∀ w, Calls Try.prog 50 #[A16 dd, A8 fb] w fun e w' => e = .returned (.tuple #[A16 q, A8 o]) ∧ Below w.heap.size w w') := c4.out dd KA.out KB.out
      obtain ⟨N0, hN0⟩ : ∃ n, n = wr.heap.size := ⟨_, rfl⟩
      have hN : w.heap.size + 1 + 1 + 1 + 1 < N0 := by rw [hN0]; exact KS.out.d.lt
      refine wp_region_vals2 (by kernel_rfl) (by kernel_rfl) (by kernel_rfl) (CDV w N0 b dd fb q o) ?_ ?_ ?_
      · refine ⟨KS.out.bw.drew, by rw [hN0]; exact Nat.le_refl _, KS.out.d, KS.out.m, KS.out.r, KS.out.s, ?_, ?_, ?_, ?_, ?_, ?_, ?_, ?_, ?_, ?_, ?_, ?_⟩ <;> (intro h; simp [Array.getD] at h)
      · intro listed vs a' w' i o' hs ho hi hF cc
        have hin : i < 11 := by have := (Array.getElem?_eq_some_iff.1 ho).1; simpa using this
        have hcase : i = 0 ∨ i = 1 ∨ i = 2 ∨ i = 3 ∨ i = 4 ∨ i = 5 ∨ i = 6 ∨ i = 7 ∨ i = 8 ∨ i = 9 ∨ i = 10 := by omega
        rcases hcase with rfl | rfl | rfl | rfl | rfl | rfl | rfl | rfl | rfl | rfl | rfl
        · simp at ho
          subst ho
          have T : ∀ j, j ≠ 0 → (listed.setIfInBounds 0 true).getD j false = true → listed.getD j false = true := fun j hj h => (done_set h).resolve_left hj
          have S : ∀ j, listed.getD j false = true → (listed.setIfInBounds 0 true).getD j false = true := fun j h => done_keep h
          exact wp_rowF 50 (.tmp 6) rfl (w.heap.size + 1 + 1 + 1 + 1) ((hF.old (by kernel_rfl)).trans rfl) cc.R0 (ag_size _ _ _) Try.underlying50 (by kernel_rfl) ⟨_, rfl, ⟨cc.bw, cc.ms, cc.R0, cc.R1, cc.R2, cc.R3, fun _ => rfl, fun h => cc.c1 (T 1 (by decide) h), fun h => cc.c2 (T 2 (by decide) h), fun h => cc.c3 (T 3 (by decide) h), fun h => cc.c4 (T 4 (by decide) h), fun h => cc.c5 (T 5 (by decide) h), fun h => cc.c6 (T 6 (by decide) h), fun h => by obtain ⟨g', c', e', k1, k2, k3, k4⟩ := cc.c7 (T 7 (by decide) h); exact ⟨g', c', e', k1, k2, k3, fun h6 => k4 (T 9 (by decide) h6)⟩, fun h => by obtain ⟨g', c', e', k1, k2, k3, k4⟩ := cc.c8 (T 8 (by decide) h); exact ⟨g', c', e', k1, k2, k3, fun h6 => k4 (T 10 (by decide) h6)⟩, fun h => S 7 (cc.c9 (T 9 (by decide) h)), fun h => S 8 (cc.c10 (T 10 (by decide) h)), fun h h' => cc.ne7_8 (T 7 (by decide) h) (T 8 (by decide) h')⟩⟩
        · simp at ho
          subst ho
          have T : ∀ j, j ≠ 1 → (listed.setIfInBounds 1 true).getD j false = true → listed.getD j false = true := fun j hj h => (done_set h).resolve_left hj
          have S : ∀ j, listed.getD j false = true → (listed.setIfInBounds 1 true).getD j false = true := fun j h => done_keep h
          exact wp_rowF 24 (.tmp 3) rfl (w.heap.size + 1) ((hF.old (by kernel_rfl)).trans rfl) cc.R1 rfl Try.underlying24 (by kernel_rfl) ⟨_, rfl, ⟨cc.bw, cc.ms, cc.R0, cc.R1, cc.R2, cc.R3, fun h => cc.c0 (T 0 (by decide) h), fun _ => rfl, fun h => cc.c2 (T 2 (by decide) h), fun h => cc.c3 (T 3 (by decide) h), fun h => cc.c4 (T 4 (by decide) h), fun h => cc.c5 (T 5 (by decide) h), fun h => cc.c6 (T 6 (by decide) h), fun h => by obtain ⟨g', c', e', k1, k2, k3, k4⟩ := cc.c7 (T 7 (by decide) h); exact ⟨g', c', e', k1, k2, k3, fun h6 => k4 (T 9 (by decide) h6)⟩, fun h => by obtain ⟨g', c', e', k1, k2, k3, k4⟩ := cc.c8 (T 8 (by decide) h); exact ⟨g', c', e', k1, k2, k3, fun h6 => k4 (T 10 (by decide) h6)⟩, fun h => S 7 (cc.c9 (T 9 (by decide) h)), fun h => S 8 (cc.c10 (T 10 (by decide) h)), fun h h' => cc.ne7_8 (T 7 (by decide) h) (T 8 (by decide) h')⟩⟩
        · simp at ho
          subst ho
          have T : ∀ j, j ≠ 2 → (listed.setIfInBounds 2 true).getD j false = true → listed.getD j false = true := fun j hj h => (done_set h).resolve_left hj
          have S : ∀ j, listed.getD j false = true → (listed.setIfInBounds 2 true).getD j false = true := fun j h => done_keep h
          have hv0 := ((hF.new (t := 26) (i := 1) (by kernel_rfl) (by simp) (waits_done (i := 2) (j := 1) (by kernel_rfl) hi)).trans (cc.c1 (waits_done (i := 2) (j := 1) (by kernel_rfl) hi)))
          refine wp_callF (f := 49) (args := #[U b]) (v := A8 fb) (by simp [execOp_call_go, ev hv0, go_sem]) (c3.out w') ?_
          intro w'' hb''
          exact ⟨_, rfl, ⟨cc.bw.trans (hb''.mono cc.bw.size), Nat.le_trans cc.ms hb''.size, cc.R0.below hb'', cc.R1.below hb'', cc.R2.below hb'', cc.R3.below hb'', fun h => cc.c0 (T 0 (by decide) h), fun h => cc.c1 (T 1 (by decide) h), fun _ => rfl, fun h => cc.c3 (T 3 (by decide) h), fun h => cc.c4 (T 4 (by decide) h), fun h => cc.c5 (T 5 (by decide) h), fun h => cc.c6 (T 6 (by decide) h), fun h => by obtain ⟨g', c', e', k1, k2, k3, k4⟩ := cc.c7 (T 7 (by decide) h); exact ⟨g', c', e', k1, k2.below hb'', k3, fun h6 => k4 (T 9 (by decide) h6)⟩, fun h => by obtain ⟨g', c', e', k1, k2, k3, k4⟩ := cc.c8 (T 8 (by decide) h); exact ⟨g', c', e', k1, k2.below hb'', k3, fun h6 => k4 (T 10 (by decide) h6)⟩, fun h => S 7 (cc.c9 (T 9 (by decide) h)), fun h => S 8 (cc.c10 (T 10 (by decide) h)), fun h h' => cc.ne7_8 (T 7 (by decide) h) (T 8 (by decide) h')⟩⟩
        · simp at ho
          subst ho
          have T : ∀ j, j ≠ 3 → (listed.setIfInBounds 3 true).getD j false = true → listed.getD j false = true := fun j hj h => (done_set h).resolve_left hj
          have S : ∀ j, listed.getD j false = true → (listed.setIfInBounds 3 true).getD j false = true := fun j h => done_keep h
          have hv0 := ((hF.new (t := 25) (i := 0) (by kernel_rfl) (by simp) (waits_done (i := 3) (j := 0) (by kernel_rfl) hi)).trans (cc.c0 (waits_done (i := 3) (j := 0) (by kernel_rfl) hi)))
          have hv1 := ((hF.new (t := 27) (i := 2) (by kernel_rfl) (by simp) (waits_done (i := 3) (j := 2) (by kernel_rfl) hi)).trans (cc.c2 (waits_done (i := 3) (j := 2) (by kernel_rfl) hi)))
          refine wp_callF (f := 50) (args := #[A16 dd, A8 fb]) (v := .tuple #[A16 q, A8 o]) (by simp [execOp_call_go, ev hv0, ev hv1, go_sem]) (c4'.out w') ?_
          intro w'' hb''
          exact ⟨_, rfl, ⟨cc.bw.trans (hb''.mono cc.bw.size), Nat.le_trans cc.ms hb''.size, cc.R0.below hb'', cc.R1.below hb'', cc.R2.below hb'', cc.R3.below hb'', fun h => cc.c0 (T 0 (by decide) h), fun h => cc.c1 (T 1 (by decide) h), fun h => cc.c2 (T 2 (by decide) h), fun _ => rfl, fun h => cc.c4 (T 4 (by decide) h), fun h => cc.c5 (T 5 (by decide) h), fun h => cc.c6 (T 6 (by decide) h), fun h => by obtain ⟨g', c', e', k1, k2, k3, k4⟩ := cc.c7 (T 7 (by decide) h); exact ⟨g', c', e', k1, k2.below hb'', k3, fun h6 => k4 (T 9 (by decide) h6)⟩, fun h => by obtain ⟨g', c', e', k1, k2, k3, k4⟩ := cc.c8 (T 8 (by decide) h); exact ⟨g', c', e', k1, k2.below hb'', k3, fun h6 => k4 (T 10 (by decide) h6)⟩, fun h => S 7 (cc.c9 (T 9 (by decide) h)), fun h => S 8 (cc.c10 (T 10 (by decide) h)), fun h h' => cc.ne7_8 (T 7 (by decide) h) (T 8 (by decide) h')⟩⟩
        · simp at ho
          subst ho
          have T : ∀ j, j ≠ 4 → (listed.setIfInBounds 4 true).getD j false = true → listed.getD j false = true := fun j hj h => (done_set h).resolve_left hj
          have S : ∀ j, listed.getD j false = true → (listed.setIfInBounds 4 true).getD j false = true := fun j h => done_keep h
          have hv := ((hF.new (t := 28) (i := 3) (by kernel_rfl) (by simp) (waits_done (i := 4) (j := 3) (by kernel_rfl) hi)).trans (cc.c3 (waits_done (i := 4) (j := 3) (by kernel_rfl) hi)))
          exact wp_valF (v := .tuple #[A16 q, A8 o]) (w1 := w') (by simp [execOp, go_sem, ev hv]) ⟨_, rfl, ⟨cc.bw, cc.ms, cc.R0, cc.R1, cc.R2, cc.R3, fun h => cc.c0 (T 0 (by decide) h), fun h => cc.c1 (T 1 (by decide) h), fun h => cc.c2 (T 2 (by decide) h), fun h => cc.c3 (T 3 (by decide) h), fun _ => rfl, fun h => cc.c5 (T 5 (by decide) h), fun h => cc.c6 (T 6 (by decide) h), fun h => by obtain ⟨g', c', e', k1, k2, k3, k4⟩ := cc.c7 (T 7 (by decide) h); exact ⟨g', c', e', k1, k2, k3, fun h6 => k4 (T 9 (by decide) h6)⟩, fun h => by obtain ⟨g', c', e', k1, k2, k3, k4⟩ := cc.c8 (T 8 (by decide) h); exact ⟨g', c', e', k1, k2, k3, fun h6 => k4 (T 10 (by decide) h6)⟩, fun h => S 7 (cc.c9 (T 9 (by decide) h)), fun h => S 8 (cc.c10 (T 10 (by decide) h)), fun h h' => cc.ne7_8 (T 7 (by decide) h) (T 8 (by decide) h')⟩⟩
        · simp at ho
          subst ho
          have T : ∀ j, j ≠ 5 → (listed.setIfInBounds 5 true).getD j false = true → listed.getD j false = true := fun j hj h => (done_set h).resolve_left hj
          have S : ∀ j, listed.getD j false = true → (listed.setIfInBounds 5 true).getD j false = true := fun j h => done_keep h
          have hv := ((hF.new (t := 24) (i := 4) (by kernel_rfl) (by simp) (waits_done (i := 5) (j := 4) (by kernel_rfl) hi)).trans (cc.c4 (waits_done (i := 5) (j := 4) (by kernel_rfl) hi)))
          exact wp_valF (v := A16 q) (w1 := w') (by simp [execOp, go_sem, ev hv]) ⟨_, rfl, ⟨cc.bw, cc.ms, cc.R0, cc.R1, cc.R2, cc.R3, fun h => cc.c0 (T 0 (by decide) h), fun h => cc.c1 (T 1 (by decide) h), fun h => cc.c2 (T 2 (by decide) h), fun h => cc.c3 (T 3 (by decide) h), fun h => cc.c4 (T 4 (by decide) h), fun _ => rfl, fun h => cc.c6 (T 6 (by decide) h), fun h => by obtain ⟨g', c', e', k1, k2, k3, k4⟩ := cc.c7 (T 7 (by decide) h); exact ⟨g', c', e', k1, k2, k3, fun h6 => k4 (T 9 (by decide) h6)⟩, fun h => by obtain ⟨g', c', e', k1, k2, k3, k4⟩ := cc.c8 (T 8 (by decide) h); exact ⟨g', c', e', k1, k2, k3, fun h6 => k4 (T 10 (by decide) h6)⟩, fun h => S 7 (cc.c9 (T 9 (by decide) h)), fun h => S 8 (cc.c10 (T 10 (by decide) h)), fun h h' => cc.ne7_8 (T 7 (by decide) h) (T 8 (by decide) h')⟩⟩
        · simp at ho
          subst ho
          have T : ∀ j, j ≠ 6 → (listed.setIfInBounds 6 true).getD j false = true → listed.getD j false = true := fun j hj h => (done_set h).resolve_left hj
          have S : ∀ j, listed.getD j false = true → (listed.setIfInBounds 6 true).getD j false = true := fun j h => done_keep h
          have hv := ((hF.new (t := 24) (i := 4) (by kernel_rfl) (by simp) (waits_done (i := 6) (j := 4) (by kernel_rfl) hi)).trans (cc.c4 (waits_done (i := 6) (j := 4) (by kernel_rfl) hi)))
          exact wp_valF (v := A8 o) (w1 := w') (by simp [execOp, go_sem, ev hv]) ⟨_, rfl, ⟨cc.bw, cc.ms, cc.R0, cc.R1, cc.R2, cc.R3, fun h => cc.c0 (T 0 (by decide) h), fun h => cc.c1 (T 1 (by decide) h), fun h => cc.c2 (T 2 (by decide) h), fun h => cc.c3 (T 3 (by decide) h), fun h => cc.c4 (T 4 (by decide) h), fun h => cc.c5 (T 5 (by decide) h), fun _ => rfl, fun h => by obtain ⟨g', c', e', k1, k2, k3, k4⟩ := cc.c7 (T 7 (by decide) h); exact ⟨g', c', e', k1, k2, k3, fun h6 => k4 (T 9 (by decide) h6)⟩, fun h => by obtain ⟨g', c', e', k1, k2, k3, k4⟩ := cc.c8 (T 8 (by decide) h); exact ⟨g', c', e', k1, k2, k3, fun h6 => k4 (T 10 (by decide) h6)⟩, fun h => S 7 (cc.c9 (T 9 (by decide) h)), fun h => S 8 (cc.c10 (T 10 (by decide) h)), fun h h' => cc.ne7_8 (T 7 (by decide) h) (T 8 (by decide) h')⟩⟩
        · simp at ho
          subst ho
          have T : ∀ j, j ≠ 7 → (listed.setIfInBounds 7 true).getD j false = true → listed.getD j false = true := fun j hj h => (done_set h).resolve_left hj
          have S : ∀ j, listed.getD j false = true → (listed.setIfInBounds 7 true).getD j false = true := fun j h => done_keep h
          have hun : ¬ listed.getD 7 false = true := fun h => undone hi hs h
          exact wp_valF (v := .pointer (some ⟨w'.heap.size, 0, none⟩)) (w1 := w'.alloc (.cells #[.int .u64 0, .int .u64 0, .int .u64 0, .int .u64 0, .int .u64 0, .int .u64 0, .int .u64 0, .int .u64 0, .int .u64 0, .int .u64 0, .int .u64 0, .int .u64 0, .int .u64 0, .int .u64 0, .int .u64 0, .int .u64 0] 50)) (by simp [execOp, go_sem]) ⟨_, rfl, ⟨bel_alloc cc.bw _, by have := cc.ms; simp; omega, cc.R0.old, cc.R1.old, cc.R2.old, cc.R3.old, fun h => cc.c0 (T 0 (by decide) h), fun h => cc.c1 (T 1 (by decide) h), fun h => cc.c2 (T 2 (by decide) h), fun h => cc.c3 (T 3 (by decide) h), fun h => cc.c4 (T 4 (by decide) h), fun h => cc.c5 (T 5 (by decide) h), fun h => cc.c6 (T 6 (by decide) h), fun _ => ⟨w'.heap.size, #[.int .u64 0, .int .u64 0, .int .u64 0, .int .u64 0, .int .u64 0, .int .u64 0, .int .u64 0, .int .u64 0, .int .u64 0, .int .u64 0, .int .u64 0, .int .u64 0, .int .u64 0, .int .u64 0, .int .u64 0, .int .u64 0], rfl, cc.ms, HasRow.last rfl, rfl, fun h6 => absurd (cc.c9 (T 9 (by decide) h6)) hun⟩, fun h => by obtain ⟨g', c', e', k1, k2, k3, k4⟩ := cc.c8 (T 8 (by decide) h); exact ⟨g', c', e', k1, k2.old, k3, fun h6 => k4 (T 10 (by decide) h6)⟩, fun h => S 7 (cc.c9 (T 9 (by decide) h)), fun h => S 8 (cc.c10 (T 10 (by decide) h)), fun _ h => by obtain ⟨g', c', e', k1, k2, k3, k4⟩ := cc.c8 (T 8 (by decide) h); have := k2.lt; show Value.pointer (some ⟨w'.heap.size, 0, none⟩) ≠ vs 8; rw [e']; intro q; simp at q; try omega⟩⟩
        · simp at ho
          subst ho
          have T : ∀ j, j ≠ 8 → (listed.setIfInBounds 8 true).getD j false = true → listed.getD j false = true := fun j hj h => (done_set h).resolve_left hj
          have S : ∀ j, listed.getD j false = true → (listed.setIfInBounds 8 true).getD j false = true := fun j h => done_keep h
          have hun : ¬ listed.getD 8 false = true := fun h => undone hi hs h
          exact wp_valF (v := .pointer (some ⟨w'.heap.size, 0, none⟩)) (w1 := w'.alloc (.cells #[.int .u64 0, .int .u64 0, .int .u64 0, .int .u64 0, .int .u64 0, .int .u64 0, .int .u64 0, .int .u64 0] 51)) (by simp [execOp, go_sem]) ⟨_, rfl, ⟨bel_alloc cc.bw _, by have := cc.ms; simp; omega, cc.R0.old, cc.R1.old, cc.R2.old, cc.R3.old, fun h => cc.c0 (T 0 (by decide) h), fun h => cc.c1 (T 1 (by decide) h), fun h => cc.c2 (T 2 (by decide) h), fun h => cc.c3 (T 3 (by decide) h), fun h => cc.c4 (T 4 (by decide) h), fun h => cc.c5 (T 5 (by decide) h), fun h => cc.c6 (T 6 (by decide) h), fun h => by obtain ⟨g', c', e', k1, k2, k3, k4⟩ := cc.c7 (T 7 (by decide) h); exact ⟨g', c', e', k1, k2.old, k3, fun h6 => k4 (T 9 (by decide) h6)⟩, fun _ => ⟨w'.heap.size, #[.int .u64 0, .int .u64 0, .int .u64 0, .int .u64 0, .int .u64 0, .int .u64 0, .int .u64 0, .int .u64 0], rfl, cc.ms, HasRow.last rfl, rfl, fun h6 => absurd (cc.c10 (T 10 (by decide) h6)) hun⟩, fun h => S 7 (cc.c9 (T 9 (by decide) h)), fun h => S 8 (cc.c10 (T 10 (by decide) h)), fun h _ => by obtain ⟨g', c', e', k1, k2, k3, k4⟩ := cc.c7 (T 7 (by decide) h); have := k2.lt; show vs 7 ≠ Value.pointer (some ⟨w'.heap.size, 0, none⟩); rw [e']; intro q; simp at q; try omega⟩⟩
        · simp at ho
          subst ho
          have T : ∀ j, j ≠ 9 → (listed.setIfInBounds 9 true).getD j false = true → listed.getD j false = true := fun j hj h => (done_set h).resolve_left hj
          have S : ∀ j, listed.getD j false = true → (listed.setIfInBounds 9 true).getD j false = true := fun j h => done_keep h
          have d4 := (waits_done (i := 9) (j := 7) (by kernel_rfl) hi)
          obtain ⟨g, c, e, h1, h2, h3, h4⟩ := cc.c7 d4
          have hx := (hF.new (t := 9) (i := 7) (by kernel_rfl) (by simp) d4).trans e
          have hv := ((hF.new (t := 29) (i := 5) (by kernel_rfl) (by simp) (waits_done (i := 9) (j := 5) (by kernel_rfl) hi)).trans (cc.c5 (waits_done (i := 9) (j := 5) (by kernel_rfl) hi)))
          exact wp_rowS 50 (.tmp 9) (.tmp 29) rfl g (c' := (ag .u64 16 q)) hx hv h2 h3 (ag_size _ _ _) (ag_one _ _ _) (by kernel_rfl) ⟨_, rfl, ⟨below_setRow cc.bw (by omega) _, by rw [size_setRow]; exact cc.ms, cc.R0.set_other _ (by omega), cc.R1.set_other _ (by omega), cc.R2.set_other _ (by omega), cc.R3.set_other _ (by omega), fun h => cc.c0 (T 0 (by decide) h), fun h => cc.c1 (T 1 (by decide) h), fun h => cc.c2 (T 2 (by decide) h), fun h => cc.c3 (T 3 (by decide) h), fun h => cc.c4 (T 4 (by decide) h), fun h => cc.c5 (T 5 (by decide) h), fun h => cc.c6 (T 6 (by decide) h), fun h => ⟨g, _, e, h1, h2.set_same _, (ag_size _ _ _), fun _ => rfl⟩, fun h => by obtain ⟨g', c', e', k1, k2, k3, k4⟩ := cc.c8 (T 8 (by decide) h); exact ⟨g', c', e', k1, k2.set_other _ (by rintro rfl; exact cc.ne7_8 d4 (T 8 (by decide) h) (by rw [e, e'])), k3, fun h6 => k4 (T 10 (by decide) h6)⟩, fun _ => S 7 d4, fun h => S 8 (cc.c10 (T 10 (by decide) h)), fun h h' => cc.ne7_8 (T 7 (by decide) h) (T 8 (by decide) h')⟩⟩
        · simp at ho
          subst ho
          have T : ∀ j, j ≠ 10 → (listed.setIfInBounds 10 true).getD j false = true → listed.getD j false = true := fun j hj h => (done_set h).resolve_left hj
          have S : ∀ j, listed.getD j false = true → (listed.setIfInBounds 10 true).getD j false = true := fun j h => done_keep h
          have d4 := (waits_done (i := 10) (j := 8) (by kernel_rfl) hi)
          obtain ⟨g, c, e, h1, h2, h3, h4⟩ := cc.c8 d4
          have hx := (hF.new (t := 10) (i := 8) (by kernel_rfl) (by simp) d4).trans e
          have hv := ((hF.new (t := 30) (i := 6) (by kernel_rfl) (by simp) (waits_done (i := 10) (j := 6) (by kernel_rfl) hi)).trans (cc.c6 (waits_done (i := 10) (j := 6) (by kernel_rfl) hi)))
          exact wp_rowS 51 (.tmp 10) (.tmp 30) rfl g (c' := (ag .u64 8 o)) hx hv h2 h3 (ag_size _ _ _) (ag_one _ _ _) (by kernel_rfl) ⟨_, rfl, ⟨below_setRow cc.bw (by omega) _, by rw [size_setRow]; exact cc.ms, cc.R0.set_other _ (by omega), cc.R1.set_other _ (by omega), cc.R2.set_other _ (by omega), cc.R3.set_other _ (by omega), fun h => cc.c0 (T 0 (by decide) h), fun h => cc.c1 (T 1 (by decide) h), fun h => cc.c2 (T 2 (by decide) h), fun h => cc.c3 (T 3 (by decide) h), fun h => cc.c4 (T 4 (by decide) h), fun h => cc.c5 (T 5 (by decide) h), fun h => cc.c6 (T 6 (by decide) h), fun h => by obtain ⟨g', c', e', k1, k2, k3, k4⟩ := cc.c7 (T 7 (by decide) h); exact ⟨g', c', e', k1, k2.set_other _ (by rintro rfl; exact cc.ne7_8 (T 7 (by decide) h) d4 (by rw [e, e'])), k3, fun h6 => k4 (T 9 (by decide) h6)⟩, fun h => ⟨g, _, e, h1, h2.set_same _, (ag_size _ _ _), fun _ => rfl⟩, fun h => S 7 (cc.c9 (T 9 (by decide) h)), fun _ => S 8 d4, fun h h' => cc.ne7_8 (T 7 (by decide) h) (T 8 (by decide) h')⟩⟩
      · intro listed vs a' w' hd hF cc
        have e : a' = ({ tmps := #[U a, U b, .pointer (some ⟨w.heap.size, 0, none⟩), .pointer (some ⟨w.heap.size + 1, 0, none⟩), .pointer (some ⟨w.heap.size + 1 + 1, 0, none⟩), .pointer (some ⟨w.heap.size + 1 + 1 + 1, 0, none⟩), .pointer (some ⟨w.heap.size + 1 + 1 + 1 + 1, 0, none⟩), .pointer (some ⟨b1, 0, none⟩), .int .i64 8, vs 7, vs 8, undef, undef, .agg #[B (l0 a), B (l1 a), B (l2 a), B (l3 a)], .agg ch, .int .i64 8, .bool false, u17, u18, u19, u20, u21, u22, u23, vs 4, vs 0, vs 1, vs 2, vs 3, vs 5, vs 6, undef, undef, undef, undef, undef, undef, undef, undef], defers := [] } : Act) := (hF.all hd).trans (by kernel_rfl)
        subst e
        obtain ⟨g9, c, e7, h1, h2, h3, h4⟩ := cc.c7 (hd 7 (by simp))
        rw [h4 (hd 9 (by simp))] at h2
        obtain ⟨g10, c', e8, k1, k2, k3, k4⟩ := cc.c8 (hd 8 (by simp))
        rw [k4 (hd 10 (by simp))] at k2
        have HH : Hid (HasRow w' g9 (ag .u64 16 q) ∧ HasRow w' g10 (ag .u64 8 o) ∧ HasRow w' (w.heap.size + 1 + 1) #[.int .u64 0, .int .u64 0, .int .u64 0, .int .u64 0] ∧ HasRow w' (w.heap.size + 1 + 1 + 1) #[.int .u64 0, .int .u64 0, .int .u64 0, .int .u64 0] ∧ Below w.heap.size w w') := ⟨h2, k2, cc.R2, cc.R3, cc.bw⟩
        rw [e7, e8]
        clear h2 h3 h4 k2 k3 k4 cc hd hF e7 e8
        go_upto_region 8 with fail
        refine wp_region_lit ?_
        refine wpList_rload' rfl 50 (.tmp 9) rfl g9 rfl .u64 16 q HH.out.1 Try.underlying50 (by kernel_rfl) ?_
        go_wp2_with fail
        refine (cp.out _).mono ?_
        rintro e w7 ⟨rfl, hb7⟩
        obtain ⟨x1, x2, x3, x4, x5⟩ := HH.out
        have Y2 : Hid (HasRow w7 g10 (ag .u64 8 o)) := x2.below hb7
        have Y3 : Hid (HasRow w7 (w.heap.size + 1 + 1) #[.int .u64 0, .int .u64 0, .int .u64 0, .int .u64 0]) := x3.below hb7
        have Y4 : Hid (HasRow w7 (w.heap.size + 1 + 1 + 1) #[.int .u64 0, .int .u64 0, .int .u64 0, .int .u64 0]) := x4.below hb7
        have Y5 : Hid (Below w.heap.size w w7) := bel_call x5 hb7
        have hq7 : w.heap.size + 1 + 1 + 1 + 1 < w7.heap.size := Nat.lt_of_lt_of_le (Nat.lt_of_lt_of_le hN h1) (Nat.le_of_lt (x1.below hb7).lt)
        clear hb7 x1 x2 x3 x4 x5 HH
        go_upto_region 9 with fail
        obtain ⟨bl, hbl⟩ : ∃ n, n = w7.heap.size + 1 := ⟨_, rfl⟩
        have Z1 : Hid (HasRow ((w7.alloc (Obj.cells #[B (l0 h), B (l1 h), B (l2 h), B (l3 h)] 24)).alloc (Obj.cells #[B (l0 l), B (l1 l), B (l2 l), B (l3 l)] 24)) bl #[B (l0 l), B (l1 l), B (l2 l), B (l3 l)]) := HasRow.last (by rw [hbl]; simp)
        have Z2 : Hid (HasRow ((w7.alloc (Obj.cells #[B (l0 h), B (l1 h), B (l2 h), B (l3 h)] 24)).alloc (Obj.cells #[B (l0 l), B (l1 l), B (l2 l), B (l3 l)] 24)) g10 (ag .u64 8 o)) := HasRow.old (HasRow.old Y2.out)
        have Z3 : Hid (HasRow ((w7.alloc (Obj.cells #[B (l0 h), B (l1 h), B (l2 h), B (l3 h)] 24)).alloc (Obj.cells #[B (l0 l), B (l1 l), B (l2 l), B (l3 l)] 24)) (w.heap.size + 1 + 1) #[.int .u64 0, .int .u64 0, .int .u64 0, .int .u64 0]) := HasRow.old (HasRow.old Y3.out)
        have Z4 : Hid (HasRow ((w7.alloc (Obj.cells #[B (l0 h), B (l1 h), B (l2 h), B (l3 h)] 24)).alloc (Obj.cells #[B (l0 l), B (l1 l), B (l2 l), B (l3 l)] 24)) (w.heap.size + 1 + 1 + 1) #[.int .u64 0, .int .u64 0, .int .u64 0, .int .u64 0]) := HasRow.old (HasRow.old Y4.out)
        have Z5 : Hid (Below w.heap.size w ((w7.alloc (Obj.cells #[B (l0 h), B (l1 h), B (l2 h), B (l3 h)] 24)).alloc (Obj.cells #[B (l0 l), B (l1 l), B (l2 l), B (l3 l)] 24))) := bel_alloc (bel_alloc Y5.out _) _
        clear Y2 Y3 Y4 Y5
        generalize ((w7.alloc (Obj.cells #[B (l0 h), B (l1 h), B (l2 h), B (l3 h)] 24)).alloc (Obj.cells #[B (l0 l), B (l1 l), B (l2 l), B (l3 l)] 24)) = w8 at *
        rw [← hbl]
        refine wp_region_vals2 (by kernel_rfl) (by kernel_rfl) (by kernel_rfl) (CDW w 0 l x bl g10 o) ?_ ?_ ?_
        · refine ⟨Z5.out.drew, Nat.zero_le _, Z1.out, Z2.out, ?_, ?_, ?_, ⟨_, Z3.out, rfl, ?_⟩, ⟨_, Z4.out, rfl, ?_⟩⟩ <;> (intro h; simp [Array.getD] at h)
        · intro listed vs a' w' i o' hs ho hi hF cc
          have hin : i < 5 := by have := (Array.getElem?_eq_some_iff.1 ho).1; simpa using this
          have hcase : i = 0 ∨ i = 1 ∨ i = 2 ∨ i = 3 ∨ i = 4 := by omega
          rcases hcase with rfl | rfl | rfl | rfl | rfl
          · simp at ho
            subst ho
            have T : ∀ j, j ≠ 0 → (listed.setIfInBounds 0 true).getD j false = true → listed.getD j false = true := fun j hj h => (done_set h).resolve_left hj
            have S : ∀ j, listed.getD j false = true → (listed.setIfInBounds 0 true).getD j false = true := fun j h => done_keep h
            exact wp_rowF 24 (.tmp 12) rfl (bl) ((hF.old (by kernel_rfl)).trans rfl) cc.R0 rfl Try.underlying24 (by kernel_rfl) ⟨_, rfl, ⟨cc.bw, cc.ms, cc.R0, cc.R1, fun _ => rfl, fun h => cc.c1 (T 1 (by decide) h), fun h => cc.c2 (T 2 (by decide) h), by obtain ⟨c', k2, k3, k4⟩ := cc.c3; exact ⟨c', k2, k3, fun h6 => k4 (T 3 (by decide) h6)⟩, by obtain ⟨c', k2, k3, k4⟩ := cc.c4; exact ⟨c', k2, k3, fun h6 => k4 (T 4 (by decide) h6)⟩⟩⟩
          · simp at ho
            subst ho
            have T : ∀ j, j ≠ 1 → (listed.setIfInBounds 1 true).getD j false = true → listed.getD j false = true := fun j hj h => (done_set h).resolve_left hj
            have S : ∀ j, listed.getD j false = true → (listed.setIfInBounds 1 true).getD j false = true := fun j h => done_keep h
            exact wp_rowF 51 (.tmp 10) rfl (g10) ((hF.old (by kernel_rfl)).trans rfl) cc.R1 (ag_size _ _ _) Try.underlying51 (by kernel_rfl) ⟨_, rfl, ⟨cc.bw, cc.ms, cc.R0, cc.R1, fun h => cc.c0 (T 0 (by decide) h), fun _ => rfl, fun h => cc.c2 (T 2 (by decide) h), by obtain ⟨c', k2, k3, k4⟩ := cc.c3; exact ⟨c', k2, k3, fun h6 => k4 (T 3 (by decide) h6)⟩, by obtain ⟨c', k2, k3, k4⟩ := cc.c4; exact ⟨c', k2, k3, fun h6 => k4 (T 4 (by decide) h6)⟩⟩⟩
          · simp at ho
            subst ho
            have T : ∀ j, j ≠ 2 → (listed.setIfInBounds 2 true).getD j false = true → listed.getD j false = true := fun j hj h => (done_set h).resolve_left hj
            have S : ∀ j, listed.getD j false = true → (listed.setIfInBounds 2 true).getD j false = true := fun j h => done_keep h
            have hv0 := ((hF.new (t := 37) (i := 1) (by kernel_rfl) (by simp) (waits_done (i := 2) (j := 1) (by kernel_rfl) hi)).trans (cc.c1 (waits_done (i := 2) (j := 1) (by kernel_rfl) hi)))
            refine wp_callF (f := 52) (args := #[A8 o]) (v := U x) (by simp [execOp_call_go, ev hv0, go_sem]) (c5.out w') ?_
            intro w'' hb''
            exact ⟨_, rfl, ⟨cc.bw.trans (hb''.mono cc.bw.size), Nat.le_trans cc.ms hb''.size, cc.R0.below hb'', cc.R1.below hb'', fun h => cc.c0 (T 0 (by decide) h), fun h => cc.c1 (T 1 (by decide) h), fun _ => rfl, by obtain ⟨c', k2, k3, k4⟩ := cc.c3; exact ⟨c', k2.below hb'', k3, fun h6 => k4 (T 3 (by decide) h6)⟩, by obtain ⟨c', k2, k3, k4⟩ := cc.c4; exact ⟨c', k2.below hb'', k3, fun h6 => k4 (T 4 (by decide) h6)⟩⟩⟩
          · simp at ho
            subst ho
            have T : ∀ j, j ≠ 3 → (listed.setIfInBounds 3 true).getD j false = true → listed.getD j false = true := fun j hj h => (done_set h).resolve_left hj
            have S : ∀ j, listed.getD j false = true → (listed.setIfInBounds 3 true).getD j false = true := fun j h => done_keep h
            have hv := ((hF.new (t := 36) (i := 0) (by kernel_rfl) (by simp) (waits_done (i := 3) (j := 0) (by kernel_rfl) hi)).trans (cc.c0 (waits_done (i := 3) (j := 0) (by kernel_rfl) hi)))
            obtain ⟨c, h2, h3, h4⟩ := cc.c3
            exact wp_rowS 24 (.tmp 4) (.tmp 36) rfl (w.heap.size + 1 + 1) (c' := #[B (l0 l), B (l1 l), B (l2 l), B (l3 l)]) ((hF.old (by kernel_rfl)).trans rfl) hv h2 h3 rfl (by simp [Value.oneCell']) (by kernel_rfl) ⟨_, rfl, ⟨below_setRow cc.bw (by omega) _, by rw [size_setRow]; exact cc.ms, cc.R0.set_other _ (by omega), cc.R1.set_other _ (by omega), fun h => cc.c0 (T 0 (by decide) h), fun h => cc.c1 (T 1 (by decide) h), fun h => cc.c2 (T 2 (by decide) h), ⟨_, h2.set_same _, rfl, fun _ => rfl⟩, by obtain ⟨c', k2, k3, k4⟩ := cc.c4; exact ⟨c', k2.set_other _ (by omega), k3, fun h6 => k4 (T 4 (by decide) h6)⟩⟩⟩
          · simp at ho
            subst ho
            have T : ∀ j, j ≠ 4 → (listed.setIfInBounds 4 true).getD j false = true → listed.getD j false = true := fun j hj h => (done_set h).resolve_left hj
            have S : ∀ j, listed.getD j false = true → (listed.setIfInBounds 4 true).getD j false = true := fun j h => done_keep h
            have hv := ((hF.new (t := 38) (i := 2) (by kernel_rfl) (by simp) (waits_done (i := 4) (j := 2) (by kernel_rfl) hi)).trans (cc.c2 (waits_done (i := 4) (j := 2) (by kernel_rfl) hi)))
            obtain ⟨c, h2, h3, h4⟩ := cc.c4
            exact wp_rowS 24 (.tmp 5) (.tmp 38) rfl (w.heap.size + 1 + 1 + 1) (c' := #[B (l0 x), B (l1 x), B (l2 x), B (l3 x)]) ((hF.old (by kernel_rfl)).trans rfl) hv h2 h3 rfl (by simp [Value.oneCell']) (by kernel_rfl) ⟨_, rfl, ⟨below_setRow cc.bw (by omega) _, by rw [size_setRow]; exact cc.ms, cc.R0.set_other _ (by omega), cc.R1.set_other _ (by omega), fun h => cc.c0 (T 0 (by decide) h), fun h => cc.c1 (T 1 (by decide) h), fun h => cc.c2 (T 2 (by decide) h), by obtain ⟨c', k2, k3, k4⟩ := cc.c3; exact ⟨c', k2.set_other _ (by omega), k3, fun h6 => k4 (T 3 (by decide) h6)⟩, ⟨_, h2.set_same _, rfl, fun _ => rfl⟩⟩⟩
        · intro listed vs a' w' hd hF cc
          obtain ⟨c, h2, h3, h4⟩ := cc.c3
          obtain ⟨c', k2, k3, k4⟩ := cc.c4
          have hx4 : a'.eval (.tmp 4) = .pointer (some ⟨w.heap.size + 1 + 1, 0, none⟩) := (hF.old (by kernel_rfl)).trans rfl
          have hx5 : a'.eval (.tmp 5) = .pointer (some ⟨w.heap.size + 1 + 1 + 1, 0, none⟩) := (hF.old (by kernel_rfl)).trans rfl
          have hr := results_cell2 (P := Try.prog) (fn := Try.f25) rfl a' w' hx4 hx5 h2 k2 h3 k3 Try.underlying24 (by kernel_rfl) Try.underlying24 (by kernel_rfl)
          rw [h4 (hd 3 (by simp)), k4 (hd 4 (by simp))] at hr
          have HR : Hid _ := hr
          have HB : Hid _ := cc.bw
          have HD : Hid (a'.defers = []) := hF.1
          clear hr cc hF hx4 hx5 h2 h3 h4 k2 k3 k4
          go_wp2
          exact bodyPost_ret HR.out HD.out ⟨rfl, HB.out⟩

theorem vl_cong2 {f g : Nat → Nat} {k j : Nat} : ∀ {n : Nat}, (∀ i, i < n → f (k + i) = g (j + i)) → vl f k n = vl g j n
  | 0, _ => rfl
  | n + 1, h => by rw [vl, vl, vl_cong2 (n := n) (fun i hi => h i (by omega)), h n (by omega)]
theorem vl_dgW {x : Nat} (h : x < W) : vl (dg x) 0 8 = x := vl_dg_lt (by rw [← W_D]; exact h)
theorem rdiv_any (a b : Nat) (h1 : a < W) (h2 : b < W) (w : World) : Calls Try.prog 25 #[U a, U b] w fun e w' => e = .returned (.tuple #[U (a / b), U (dr 0 a b)]) ∧ Below w.heap.size w w' := by
  have hq : a / b < W := Nat.lt_of_le_of_lt (Nat.div_le_self _ _) h1
  have hr : rm a b < W := rm_lt _ h2
  have e0 : dr 0 a b = rm a b := by unfold dr rm; rw [Nat.zero_mul, Nat.zero_add]
  rw [e0]
  refine rdiv_raw a b (vl (dg (a / b)) 8 8) (a / b) _ (dg a) (dg b) (dg (a / b)) (dg (rm a b)) (digits_any a) (digits_any b) (fun dd hd1 hd2 w => ?_) (fun w => ?_) (fun w => ?_) w
  · have eX : vl dd 0 16 = a := by
      rw [vl_cut (f := dd) (a := 8) (b := 16) (by omega) (fun i hi _ => hd2 i hi), vl_cong2 (g := dg a) (j := 0) (fun i hi' => by rw [Nat.zero_add]; exact hd1 i hi'), vl_dgW h1]
    have h := long_any dd (dg b) (fun i hi' => by
      rcases Nat.lt_or_ge i 8 with h | h
      · rw [hd1 i h]; exact dg_lt _ _
      · rw [hd2 i h]; exact D_pos) (fun i _ => dg_lt _ _) w
    rw [eX, vl_dgW h2] at h
    exact h
  · have h := parts_any (dg (a / b)) (fun i _ => dg_lt _ _) w
    rw [vl_dgW hq] at h
    exact h
  · have h := number_any (dg (rm a b)) (fun i _ => dg_lt _ _) w
    rw [vl_dgW hr] at h
    exact h
end Go.Proofs.Ytbfgeinneglpdaa
