/- The document's Rest and Div, told by numbers. -/
import Derived.Test.YtillbhdcnhcbhaaLo
import Derived.Test.YtillbhdcnhcbhaaPt
import Derived.Test.YtillbhdcnhcbhaaDc
import Derived.Test.YtillbhdcnhcbhaaRz
import Derived.Test.YtillbhdcnhcbhaaLa
import Derived.WalkMore
namespace Go.Proofs.Ytillbhdcnhcbhaa
open Go.RowKit Go.Sort
set_option linter.unusedVariables false
structure CRR (w : World) (N0 : Nat) (m : Nat) (dd fm q o : Nat → Nat) (listed : Array Bool) (vs : Nat → Value) (w' : World) : Prop where
  bw : Below w.heap.size w w'
  ms : N0 ≤ w'.heap.size
  R0 : HasRow w' (w.heap.size + 1 + 1 + 1 + 1) (ag .u64 16 dd)
  R1 : HasRow w' (w.heap.size + 1 + 1) #[B (l0 m), B (l1 m), B (l2 m), B (l3 m)]
  R2 : HasRow w' (w.heap.size + 1 + 1 + 1) #[.int .u64 0, .int .u64 0, .int .u64 0, .int .u64 0]
  c0 : listed.getD 0 false = true → vs 0 = A16 dd
  c1 : listed.getD 1 false = true → vs 1 = U m
  c2 : listed.getD 2 false = true → vs 2 = A8 fm
  c3 : listed.getD 3 false = true → vs 3 = .tuple #[A16 q, A8 o]
  c4 : listed.getD 4 false = true → vs 4 = .tuple #[A16 q, A8 o]
  c5 : listed.getD 5 false = true → vs 5 = A16 q
  c6 : listed.getD 6 false = true → vs 6 = A8 o
  c7 : listed.getD 7 false = true → ∃ g c, vs 7 = .pointer (some ⟨g, 0, none⟩) ∧ N0 ≤ g ∧ HasRow w' g c ∧ c.size = 16 ∧ (listed.getD 9 false = true → c = (ag .u64 16 q))
  c8 : listed.getD 8 false = true → ∃ g c, vs 8 = .pointer (some ⟨g, 0, none⟩) ∧ N0 ≤ g ∧ HasRow w' g c ∧ c.size = 8 ∧ (listed.getD 10 false = true → c = (ag .u64 8 o))
  c9 : listed.getD 9 false = true → listed.getD 7 false = true
  c10 : listed.getD 10 false = true → listed.getD 8 false = true
  ne7_8 : listed.getD 7 false = true → listed.getD 8 false = true → vs 7 ≠ vs 8

structure RR (w w' : World) (hi lo m b1 b2 : Nat) (fh fl dd : Nat → Nat) : Prop where
  m : HasRow w' (w.heap.size + 1 + 1) #[B (l0 m), B (l1 m), B (l2 m), B (l3 m)]
  r : HasRow w' (w.heap.size + 1 + 1 + 1) #[.int .u64 0, .int .u64 0, .int .u64 0, .int .u64 0]
  d : HasRow w' (w.heap.size + 1 + 1 + 1 + 1) (ag .u64 16 dd)
  h : HasRow w' b1 (ag .u64 8 fh)
  l : HasRow w' b2 (ag .u64 8 fl)
  b : Below w.heap.size w w'
  g1 : w.heap.size + 1 + 1 + 1 + 1 < b1
  g2 : b1 < b2
theorem RR.put {w w' : World} {hi lo m b1 b2 : Nat} {fh fl dd : Nat → Nat} (h : RR w w' hi lo m b1 b2 fh fl dd) (i x : Nat) : RR w (w'.setCell ⟨w.heap.size + 1 + 1 + 1 + 1, i, none⟩ (.int .u64 (x : Nat))) hi lo m b1 b2 fh fl (upd dd i x) := by
  have hg := h.g1
  have hv := h.g2
  rw [h.d.setCell, ag_set]
  exact ⟨h.m.set_other _ (by omega), h.r.set_other _ (by omega), h.d.set_same _, h.h.set_other _ (by omega), h.l.set_other _ (by omega), below_setRow h.b (by omega) _, hg, hv⟩

set_option maxRecDepth 100000 in
set_option maxHeartbeats 8000000 in
theorem rrest_raw (hi lo m x : Nat) (fh fl fm q o : Nat → Nat)
    (c1 : Hid (∀ w, Calls Try.prog 29 #[U hi] w fun e w' => e = .returned (A8 fh) ∧ Below w.heap.size w w'))
    (c2 : Hid (∀ w, Calls Try.prog 29 #[U lo] w fun e w' => e = .returned (A8 fl) ∧ Below w.heap.size w w'))
    (c3 : Hid (∀ w, Calls Try.prog 29 #[U m] w fun e w' => e = .returned (A8 fm) ∧ Below w.heap.size w w'))
    (c4 : Hid (∀ dd : Nat → Nat, (∀ i, i < 8 → dd i = fl i ∧ dd (i + 8) = fh i) → ∀ w, Calls Try.prog 30 #[A16 dd, A8 fm] w fun e w' => e = .returned (.tuple #[A16 q, A8 o]) ∧ Below w.heap.size w w'))
    (c5 : Hid (∀ w, Calls Try.prog 32 #[A8 o] w fun e w' => e = .returned (U x) ∧ Below w.heap.size w w')) (w : World) :
    Calls Try.prog 12 #[U hi, U lo, U m] w fun e w' => e = .returned (U x) ∧ Below w.heap.size w w' := by
  go_enter Try.func12, Try.ntmps12
  go_wp2_with fail
  refine (c1.out _).mono ?_
  rintro e w1 ⟨he, hb1⟩
  obtain ⟨ch, hch⟩ : ∃ c, c = (ag .u64 8 fh) := ⟨_, rfl⟩
  have he' : e = .returned (.agg ch) := by rw [he, hch]
  subst he'
  have R0 : Hid (HasRow w1 (w.heap.size + 1) #[B (l0 lo), B (l1 lo), B (l2 lo), B (l3 lo)] ∧ HasRow w1 (w.heap.size + 1 + 1) #[B (l0 m), B (l1 m), B (l2 m), B (l3 m)] ∧ HasRow w1 (w.heap.size + 1 + 1 + 1) #[.int .u64 0, .int .u64 0, .int .u64 0, .int .u64 0] ∧ HasRow w1 (w.heap.size + 1 + 1 + 1 + 1) (ag .u64 16 (fun _ => 0)) ∧ Below w.heap.size w w1) :=
    ⟨(HasRow.old (HasRow.old (HasRow.old (HasRow.last (by simp))))).below hb1, (HasRow.old (HasRow.old (HasRow.last (by simp)))).below hb1, (HasRow.old (HasRow.last (by simp))).below hb1, (HasRow.last (by simp)).below hb1, bel_call (by (repeat (first | exact Below.refl _ _ | refine bel_alloc ?_ _))) hb1⟩
  have hsz : ch.size = 8 := by rw [hch]; exact ag_size _ _ _
  have hsc := run_storeCells_v (P := Try.prog) (⟨hch⟩ : IsRow ch .u64 8 fh) (g := w1.heap.size) 42 (by kernel_rfl) (StoreTo.last (w := w1) (c := #[.int .u64 0, .int .u64 0, .int .u64 0, .int .u64 0, .int .u64 0, .int .u64 0, .int .u64 0, .int .u64 0]) (t := 42) rfl rfl)
  have g0 := R0.out.1.cell 0
  have g1 := R0.out.1.cell 1
  have g2 := R0.out.1.cell 2
  have g3 := R0.out.1.cell 3
  simp at g0 g1 g2 g3
  have hq1 : w.heap.size + 1 + 1 + 1 + 1 < w1.heap.size := R0.out.2.2.2.1.lt
  have hq2 : w.heap.size + 1 < w1.heap.size := R0.out.1.lt
  clear hb1 he hch
  go_wp2_with fail
  refine (c2.out _).mono ?_
  rintro e w2 ⟨he, hb2⟩
  obtain ⟨cl, hcl⟩ : ∃ c, c = (ag .u64 8 fl) := ⟨_, rfl⟩
  have he' : e = .returned (.agg cl) := by rw [he, hcl]
  subst he'
  have F0 : Hid (RR w (w2.alloc (Obj.cells (ag .u64 8 fl) 42)) hi lo m w1.heap.size w2.heap.size fh fl (fun _ => 0)) := by
    obtain ⟨r1, r2, r3, r4, r5⟩ := R0.out
    have hk : HasRow w2 w1.heap.size (ag .u64 8 fh) := (HasRow.last (by simp)).below hb2
    exact ⟨((r2.old).below hb2).old, ((r3.old).below hb2).old, ((r4.old).below hb2).old, hk.old, HasRow.last rfl, bel_alloc (bel_call (bel_alloc r5 _) hb2) _, hq1, hk.lt⟩
  have hsz2 : cl.size = 8 := by rw [hcl]; exact ag_size _ _ _
  have hsc2 := run_storeCells_v (P := Try.prog) (⟨hcl⟩ : IsRow cl .u64 8 fl) (g := w2.heap.size) 42 (by kernel_rfl) (StoreTo.last (w := w2) (c := #[.int .u64 0, .int .u64 0, .int .u64 0, .int .u64 0, .int .u64 0, .int .u64 0, .int .u64 0, .int .u64 0]) (t := 42) rfl rfl)
  clear hb2 he hcl R0 g0 g1 g2 g3 hsz hsc hq1 hq2
  go_wp2
  generalize w1.heap.size = b1 at *
  generalize w2.heap.size = b2 at *
  go_loopw [10] (fun i w' => ∃ (t : Nat) (dd : Nat → Nat), t ≤ 8 ∧ i = .int .i64 (t : Int) ∧ RR w w' hi lo m b1 b2 fh fl dd ∧ (∀ i, i < t → dd i = fl i ∧ dd (i + 8) = fh i)) (fun i _ => 8 - (intOf i).toNat)
  case atStart => exact ⟨0, fun _ => 0, Nat.zero_le _, rfl, F0.out, fun i hi => by omega⟩
  case round =>
    obtain ⟨t, dd, ht, rfl, hS, hA⟩ := hrel
    clear F0
    have KS : Hid _ := hS
    have KA : Hid _ := hA
    clear hA
    by_cases hlt : t < 8
    · have y1 := hS.l.cell t
      rw [ag_get, if_pos (by omega)] at y1
      have y2 := hS.d.cell t
      rw [ag_get, if_pos (by omega)] at y2
      have y3 := hS.d.frozen t
      clear hS
      go_upto_region 8 with fail
      have X1 := KS.out.put t (fl t)
      generalize wr.setCell ⟨w.heap.size + 1 + 1 + 1 + 1, t, none⟩ (.int .u64 ((fl t : Nat) : Int)) = w5 at *
      have K5 : Hid _ := X1
      clear y1 y2 y3 KS
      have y1 := X1.h.cell t
      rw [ag_get, if_pos (by omega)] at y1
      have y2 := X1.d.cell (t + 8)
      rw [ag_get, if_pos (by omega)] at y2
      have y3 := X1.d.frozen (t + 8)
      clear X1
      go_wp2
      go_roundw
      case rel =>
        refine ⟨t + 1, upd (upd dd t (fl t)) (t + 8) (fh t), by omega, by go_num, K5.out.put (t + 8) (fh t), fun i hi => ?_⟩
        by_cases e : i = t
        · subst e; exact ⟨by rw [upd_other _ _ _ (by omega), upd_same], by rw [upd_same]⟩
        · rw [upd_other _ _ _ (by omega), upd_other _ _ _ e, upd_other _ _ _ (by omega), upd_other _ _ _ (by omega)]
          exact KA.out i (by omega)
      case measure => simp [intOf]; omega
    · have hte : t = 8 := by omega
      subst hte
      clear hS
      go_wp2
      have c4' : Hid (∀ w, Calls Try.prog 30 #[A16 dd, A8 fm] w fun e w' => e = .returned (.tuple #[A16 q, A8 o]) ∧ Below w.heap.size w w') := c4.out dd KA.out
      obtain ⟨N0, hN0⟩ : ∃ n, n = wr.heap.size := ⟨_, rfl⟩
      have hN : w.heap.size + 1 + 1 + 1 + 1 < N0 := by rw [hN0]; exact KS.out.d.lt
      refine wp_region_vals2 (by kernel_rfl) (by kernel_rfl) (by kernel_rfl) (CRR w N0 m dd fm q o) ?_ ?_ ?_
      · refine ⟨KS.out.b.drew, by rw [hN0]; exact Nat.le_refl _, KS.out.d, KS.out.m, KS.out.r, ?_, ?_, ?_, ?_, ?_, ?_, ?_, ?_, ?_, ?_, ?_, ?_⟩ <;> (intro h; simp [Array.getD] at h)
      · intro listed vs a' w' i o' hs ho hi hF cc
        have hin : i < 11 := by have := (Array.getElem?_eq_some_iff.1 ho).1; simpa using this
        have hcase : i = 0 ∨ i = 1 ∨ i = 2 ∨ i = 3 ∨ i = 4 ∨ i = 5 ∨ i = 6 ∨ i = 7 ∨ i = 8 ∨ i = 9 ∨ i = 10 := by omega
        rcases hcase with rfl | rfl | rfl | rfl | rfl | rfl | rfl | rfl | rfl | rfl | rfl
        · simp at ho
          subst ho
          have T : ∀ j, j ≠ 0 → (listed.setIfInBounds 0 true).getD j false = true → listed.getD j false = true := fun j hj h => (done_set h).resolve_left hj
          have S : ∀ j, listed.getD j false = true → (listed.setIfInBounds 0 true).getD j false = true := fun j h => done_keep h
          exact wp_rowF 41 (.tmp 7) rfl (w.heap.size + 1 + 1 + 1 + 1) ((hF.old (by kernel_rfl)).trans rfl) cc.R0 (ag_size _ _ _) Try.underlying41 (by kernel_rfl) ⟨_, rfl, ⟨cc.bw, cc.ms, cc.R0, cc.R1, cc.R2, fun _ => rfl, fun h => cc.c1 (T 1 (by decide) h), fun h => cc.c2 (T 2 (by decide) h), fun h => cc.c3 (T 3 (by decide) h), fun h => cc.c4 (T 4 (by decide) h), fun h => cc.c5 (T 5 (by decide) h), fun h => cc.c6 (T 6 (by decide) h), fun h => by obtain ⟨g', c', e', k1, k2, k3, k4⟩ := cc.c7 (T 7 (by decide) h); exact ⟨g', c', e', k1, k2, k3, fun h6 => k4 (T 9 (by decide) h6)⟩, fun h => by obtain ⟨g', c', e', k1, k2, k3, k4⟩ := cc.c8 (T 8 (by decide) h); exact ⟨g', c', e', k1, k2, k3, fun h6 => k4 (T 10 (by decide) h6)⟩, fun h => S 7 (cc.c9 (T 9 (by decide) h)), fun h => S 8 (cc.c10 (T 10 (by decide) h)), fun h h' => cc.ne7_8 (T 7 (by decide) h) (T 8 (by decide) h')⟩⟩
        · simp at ho
          subst ho
          have T : ∀ j, j ≠ 1 → (listed.setIfInBounds 1 true).getD j false = true → listed.getD j false = true := fun j hj h => (done_set h).resolve_left hj
          have S : ∀ j, listed.getD j false = true → (listed.setIfInBounds 1 true).getD j false = true := fun j h => done_keep h
          exact wp_rowF 24 (.tmp 5) rfl (w.heap.size + 1 + 1) ((hF.old (by kernel_rfl)).trans rfl) cc.R1 rfl Try.underlying24 (by kernel_rfl) ⟨_, rfl, ⟨cc.bw, cc.ms, cc.R0, cc.R1, cc.R2, fun h => cc.c0 (T 0 (by decide) h), fun _ => rfl, fun h => cc.c2 (T 2 (by decide) h), fun h => cc.c3 (T 3 (by decide) h), fun h => cc.c4 (T 4 (by decide) h), fun h => cc.c5 (T 5 (by decide) h), fun h => cc.c6 (T 6 (by decide) h), fun h => by obtain ⟨g', c', e', k1, k2, k3, k4⟩ := cc.c7 (T 7 (by decide) h); exact ⟨g', c', e', k1, k2, k3, fun h6 => k4 (T 9 (by decide) h6)⟩, fun h => by obtain ⟨g', c', e', k1, k2, k3, k4⟩ := cc.c8 (T 8 (by decide) h); exact ⟨g', c', e', k1, k2, k3, fun h6 => k4 (T 10 (by decide) h6)⟩, fun h => S 7 (cc.c9 (T 9 (by decide) h)), fun h => S 8 (cc.c10 (T 10 (by decide) h)), fun h h' => cc.ne7_8 (T 7 (by decide) h) (T 8 (by decide) h')⟩⟩
        · simp at ho
          subst ho
          have T : ∀ j, j ≠ 2 → (listed.setIfInBounds 2 true).getD j false = true → listed.getD j false = true := fun j hj h => (done_set h).resolve_left hj
          have S : ∀ j, listed.getD j false = true → (listed.setIfInBounds 2 true).getD j false = true := fun j h => done_keep h
          have hv0 := ((hF.new (t := 34) (i := 1) (by kernel_rfl) (by simp) (waits_done (i := 2) (j := 1) (by kernel_rfl) hi)).trans (cc.c1 (waits_done (i := 2) (j := 1) (by kernel_rfl) hi)))
          refine wp_callF (f := 29) (args := #[U m]) (v := A8 fm) (by simp [execOp_call_go, ev hv0, go_sem]) (c3.out w') ?_
          intro w'' hb''
          exact ⟨_, rfl, ⟨cc.bw.trans (hb''.mono cc.bw.size), Nat.le_trans cc.ms hb''.size, cc.R0.below hb'', cc.R1.below hb'', cc.R2.below hb'', fun h => cc.c0 (T 0 (by decide) h), fun h => cc.c1 (T 1 (by decide) h), fun _ => rfl, fun h => cc.c3 (T 3 (by decide) h), fun h => cc.c4 (T 4 (by decide) h), fun h => cc.c5 (T 5 (by decide) h), fun h => cc.c6 (T 6 (by decide) h), fun h => by obtain ⟨g', c', e', k1, k2, k3, k4⟩ := cc.c7 (T 7 (by decide) h); exact ⟨g', c', e', k1, k2.below hb'', k3, fun h6 => k4 (T 9 (by decide) h6)⟩, fun h => by obtain ⟨g', c', e', k1, k2, k3, k4⟩ := cc.c8 (T 8 (by decide) h); exact ⟨g', c', e', k1, k2.below hb'', k3, fun h6 => k4 (T 10 (by decide) h6)⟩, fun h => S 7 (cc.c9 (T 9 (by decide) h)), fun h => S 8 (cc.c10 (T 10 (by decide) h)), fun h h' => cc.ne7_8 (T 7 (by decide) h) (T 8 (by decide) h')⟩⟩
        · simp at ho
          subst ho
          have T : ∀ j, j ≠ 3 → (listed.setIfInBounds 3 true).getD j false = true → listed.getD j false = true := fun j hj h => (done_set h).resolve_left hj
          have S : ∀ j, listed.getD j false = true → (listed.setIfInBounds 3 true).getD j false = true := fun j h => done_keep h
          have hv0 := ((hF.new (t := 33) (i := 0) (by kernel_rfl) (by simp) (waits_done (i := 3) (j := 0) (by kernel_rfl) hi)).trans (cc.c0 (waits_done (i := 3) (j := 0) (by kernel_rfl) hi)))
          have hv1 := ((hF.new (t := 35) (i := 2) (by kernel_rfl) (by simp) (waits_done (i := 3) (j := 2) (by kernel_rfl) hi)).trans (cc.c2 (waits_done (i := 3) (j := 2) (by kernel_rfl) hi)))
          refine wp_callF (f := 30) (args := #[A16 dd, A8 fm]) (v := .tuple #[A16 q, A8 o]) (by simp [execOp_call_go, ev hv0, ev hv1, go_sem]) (c4'.out w') ?_
          intro w'' hb''
          exact ⟨_, rfl, ⟨cc.bw.trans (hb''.mono cc.bw.size), Nat.le_trans cc.ms hb''.size, cc.R0.below hb'', cc.R1.below hb'', cc.R2.below hb'', fun h => cc.c0 (T 0 (by decide) h), fun h => cc.c1 (T 1 (by decide) h), fun h => cc.c2 (T 2 (by decide) h), fun _ => rfl, fun h => cc.c4 (T 4 (by decide) h), fun h => cc.c5 (T 5 (by decide) h), fun h => cc.c6 (T 6 (by decide) h), fun h => by obtain ⟨g', c', e', k1, k2, k3, k4⟩ := cc.c7 (T 7 (by decide) h); exact ⟨g', c', e', k1, k2.below hb'', k3, fun h6 => k4 (T 9 (by decide) h6)⟩, fun h => by obtain ⟨g', c', e', k1, k2, k3, k4⟩ := cc.c8 (T 8 (by decide) h); exact ⟨g', c', e', k1, k2.below hb'', k3, fun h6 => k4 (T 10 (by decide) h6)⟩, fun h => S 7 (cc.c9 (T 9 (by decide) h)), fun h => S 8 (cc.c10 (T 10 (by decide) h)), fun h h' => cc.ne7_8 (T 7 (by decide) h) (T 8 (by decide) h')⟩⟩
        · simp at ho
          subst ho
          have T : ∀ j, j ≠ 4 → (listed.setIfInBounds 4 true).getD j false = true → listed.getD j false = true := fun j hj h => (done_set h).resolve_left hj
          have S : ∀ j, listed.getD j false = true → (listed.setIfInBounds 4 true).getD j false = true := fun j h => done_keep h
          have hv := ((hF.new (t := 36) (i := 3) (by kernel_rfl) (by simp) (waits_done (i := 4) (j := 3) (by kernel_rfl) hi)).trans (cc.c3 (waits_done (i := 4) (j := 3) (by kernel_rfl) hi)))
          exact wp_valF (v := .tuple #[A16 q, A8 o]) (w1 := w') (by simp [execOp, go_sem, ev hv]) ⟨_, rfl, ⟨cc.bw, cc.ms, cc.R0, cc.R1, cc.R2, fun h => cc.c0 (T 0 (by decide) h), fun h => cc.c1 (T 1 (by decide) h), fun h => cc.c2 (T 2 (by decide) h), fun h => cc.c3 (T 3 (by decide) h), fun _ => rfl, fun h => cc.c5 (T 5 (by decide) h), fun h => cc.c6 (T 6 (by decide) h), fun h => by obtain ⟨g', c', e', k1, k2, k3, k4⟩ := cc.c7 (T 7 (by decide) h); exact ⟨g', c', e', k1, k2, k3, fun h6 => k4 (T 9 (by decide) h6)⟩, fun h => by obtain ⟨g', c', e', k1, k2, k3, k4⟩ := cc.c8 (T 8 (by decide) h); exact ⟨g', c', e', k1, k2, k3, fun h6 => k4 (T 10 (by decide) h6)⟩, fun h => S 7 (cc.c9 (T 9 (by decide) h)), fun h => S 8 (cc.c10 (T 10 (by decide) h)), fun h h' => cc.ne7_8 (T 7 (by decide) h) (T 8 (by decide) h')⟩⟩
        · simp at ho
          subst ho
          have T : ∀ j, j ≠ 5 → (listed.setIfInBounds 5 true).getD j false = true → listed.getD j false = true := fun j hj h => (done_set h).resolve_left hj
          have S : ∀ j, listed.getD j false = true → (listed.setIfInBounds 5 true).getD j false = true := fun j h => done_keep h
          have hv := ((hF.new (t := 32) (i := 4) (by kernel_rfl) (by simp) (waits_done (i := 5) (j := 4) (by kernel_rfl) hi)).trans (cc.c4 (waits_done (i := 5) (j := 4) (by kernel_rfl) hi)))
          exact wp_valF (v := A16 q) (w1 := w') (by simp [execOp, go_sem, ev hv]) ⟨_, rfl, ⟨cc.bw, cc.ms, cc.R0, cc.R1, cc.R2, fun h => cc.c0 (T 0 (by decide) h), fun h => cc.c1 (T 1 (by decide) h), fun h => cc.c2 (T 2 (by decide) h), fun h => cc.c3 (T 3 (by decide) h), fun h => cc.c4 (T 4 (by decide) h), fun _ => rfl, fun h => cc.c6 (T 6 (by decide) h), fun h => by obtain ⟨g', c', e', k1, k2, k3, k4⟩ := cc.c7 (T 7 (by decide) h); exact ⟨g', c', e', k1, k2, k3, fun h6 => k4 (T 9 (by decide) h6)⟩, fun h => by obtain ⟨g', c', e', k1, k2, k3, k4⟩ := cc.c8 (T 8 (by decide) h); exact ⟨g', c', e', k1, k2, k3, fun h6 => k4 (T 10 (by decide) h6)⟩, fun h => S 7 (cc.c9 (T 9 (by decide) h)), fun h => S 8 (cc.c10 (T 10 (by decide) h)), fun h h' => cc.ne7_8 (T 7 (by decide) h) (T 8 (by decide) h')⟩⟩
        · simp at ho
          subst ho
          have T : ∀ j, j ≠ 6 → (listed.setIfInBounds 6 true).getD j false = true → listed.getD j false = true := fun j hj h => (done_set h).resolve_left hj
          have S : ∀ j, listed.getD j false = true → (listed.setIfInBounds 6 true).getD j false = true := fun j h => done_keep h
          have hv := ((hF.new (t := 32) (i := 4) (by kernel_rfl) (by simp) (waits_done (i := 6) (j := 4) (by kernel_rfl) hi)).trans (cc.c4 (waits_done (i := 6) (j := 4) (by kernel_rfl) hi)))
          exact wp_valF (v := A8 o) (w1 := w') (by simp [execOp, go_sem, ev hv]) ⟨_, rfl, ⟨cc.bw, cc.ms, cc.R0, cc.R1, cc.R2, fun h => cc.c0 (T 0 (by decide) h), fun h => cc.c1 (T 1 (by decide) h), fun h => cc.c2 (T 2 (by decide) h), fun h => cc.c3 (T 3 (by decide) h), fun h => cc.c4 (T 4 (by decide) h), fun h => cc.c5 (T 5 (by decide) h), fun _ => rfl, fun h => by obtain ⟨g', c', e', k1, k2, k3, k4⟩ := cc.c7 (T 7 (by decide) h); exact ⟨g', c', e', k1, k2, k3, fun h6 => k4 (T 9 (by decide) h6)⟩, fun h => by obtain ⟨g', c', e', k1, k2, k3, k4⟩ := cc.c8 (T 8 (by decide) h); exact ⟨g', c', e', k1, k2, k3, fun h6 => k4 (T 10 (by decide) h6)⟩, fun h => S 7 (cc.c9 (T 9 (by decide) h)), fun h => S 8 (cc.c10 (T 10 (by decide) h)), fun h h' => cc.ne7_8 (T 7 (by decide) h) (T 8 (by decide) h')⟩⟩
        · simp at ho
          subst ho
          have T : ∀ j, j ≠ 7 → (listed.setIfInBounds 7 true).getD j false = true → listed.getD j false = true := fun j hj h => (done_set h).resolve_left hj
          have S : ∀ j, listed.getD j false = true → (listed.setIfInBounds 7 true).getD j false = true := fun j h => done_keep h
          have hun : ¬ listed.getD 7 false = true := fun h => undone hi hs h
          exact wp_valF (v := .pointer (some ⟨w'.heap.size, 0, none⟩)) (w1 := w'.alloc (.cells #[.int .u64 0, .int .u64 0, .int .u64 0, .int .u64 0, .int .u64 0, .int .u64 0, .int .u64 0, .int .u64 0, .int .u64 0, .int .u64 0, .int .u64 0, .int .u64 0, .int .u64 0, .int .u64 0, .int .u64 0, .int .u64 0] 41)) (by simp [execOp, go_sem]) ⟨_, rfl, ⟨bel_alloc cc.bw _, by have := cc.ms; simp; omega, cc.R0.old, cc.R1.old, cc.R2.old, fun h => cc.c0 (T 0 (by decide) h), fun h => cc.c1 (T 1 (by decide) h), fun h => cc.c2 (T 2 (by decide) h), fun h => cc.c3 (T 3 (by decide) h), fun h => cc.c4 (T 4 (by decide) h), fun h => cc.c5 (T 5 (by decide) h), fun h => cc.c6 (T 6 (by decide) h), fun _ => ⟨w'.heap.size, #[.int .u64 0, .int .u64 0, .int .u64 0, .int .u64 0, .int .u64 0, .int .u64 0, .int .u64 0, .int .u64 0, .int .u64 0, .int .u64 0, .int .u64 0, .int .u64 0, .int .u64 0, .int .u64 0, .int .u64 0, .int .u64 0], rfl, cc.ms, HasRow.last rfl, rfl, fun h6 => absurd (cc.c9 (T 9 (by decide) h6)) hun⟩, fun h => by obtain ⟨g', c', e', k1, k2, k3, k4⟩ := cc.c8 (T 8 (by decide) h); exact ⟨g', c', e', k1, k2.old, k3, fun h6 => k4 (T 10 (by decide) h6)⟩, fun h => S 7 (cc.c9 (T 9 (by decide) h)), fun h => S 8 (cc.c10 (T 10 (by decide) h)), fun _ h => by obtain ⟨g', c', e', k1, k2, k3, k4⟩ := cc.c8 (T 8 (by decide) h); have := k2.lt; show Value.pointer (some ⟨w'.heap.size, 0, none⟩) ≠ vs 8; rw [e']; intro q; simp at q; try omega⟩⟩
        · simp at ho
          subst ho
          have T : ∀ j, j ≠ 8 → (listed.setIfInBounds 8 true).getD j false = true → listed.getD j false = true := fun j hj h => (done_set h).resolve_left hj
          have S : ∀ j, listed.getD j false = true → (listed.setIfInBounds 8 true).getD j false = true := fun j h => done_keep h
          have hun : ¬ listed.getD 8 false = true := fun h => undone hi hs h
          exact wp_valF (v := .pointer (some ⟨w'.heap.size, 0, none⟩)) (w1 := w'.alloc (.cells #[.int .u64 0, .int .u64 0, .int .u64 0, .int .u64 0, .int .u64 0, .int .u64 0, .int .u64 0, .int .u64 0] 42)) (by simp [execOp, go_sem]) ⟨_, rfl, ⟨bel_alloc cc.bw _, by have := cc.ms; simp; omega, cc.R0.old, cc.R1.old, cc.R2.old, fun h => cc.c0 (T 0 (by decide) h), fun h => cc.c1 (T 1 (by decide) h), fun h => cc.c2 (T 2 (by decide) h), fun h => cc.c3 (T 3 (by decide) h), fun h => cc.c4 (T 4 (by decide) h), fun h => cc.c5 (T 5 (by decide) h), fun h => cc.c6 (T 6 (by decide) h), fun h => by obtain ⟨g', c', e', k1, k2, k3, k4⟩ := cc.c7 (T 7 (by decide) h); exact ⟨g', c', e', k1, k2.old, k3, fun h6 => k4 (T 9 (by decide) h6)⟩, fun _ => ⟨w'.heap.size, #[.int .u64 0, .int .u64 0, .int .u64 0, .int .u64 0, .int .u64 0, .int .u64 0, .int .u64 0, .int .u64 0], rfl, cc.ms, HasRow.last rfl, rfl, fun h6 => absurd (cc.c10 (T 10 (by decide) h6)) hun⟩, fun h => S 7 (cc.c9 (T 9 (by decide) h)), fun h => S 8 (cc.c10 (T 10 (by decide) h)), fun h _ => by obtain ⟨g', c', e', k1, k2, k3, k4⟩ := cc.c7 (T 7 (by decide) h); have := k2.lt; show vs 7 ≠ Value.pointer (some ⟨w'.heap.size, 0, none⟩); rw [e']; intro q; simp at q; try omega⟩⟩
        · simp at ho
          subst ho
          have T : ∀ j, j ≠ 9 → (listed.setIfInBounds 9 true).getD j false = true → listed.getD j false = true := fun j hj h => (done_set h).resolve_left hj
          have S : ∀ j, listed.getD j false = true → (listed.setIfInBounds 9 true).getD j false = true := fun j h => done_keep h
          have d4 := (waits_done (i := 9) (j := 7) (by kernel_rfl) hi)
          obtain ⟨g, c, e, h1, h2, h3, h4⟩ := cc.c7 d4
          have hx := (hF.new (t := 11) (i := 7) (by kernel_rfl) (by simp) d4).trans e
          have hv := ((hF.new (t := 37) (i := 5) (by kernel_rfl) (by simp) (waits_done (i := 9) (j := 5) (by kernel_rfl) hi)).trans (cc.c5 (waits_done (i := 9) (j := 5) (by kernel_rfl) hi)))
          exact wp_rowS 41 (.tmp 11) (.tmp 37) rfl g (c' := (ag .u64 16 q)) hx hv h2 h3 (ag_size _ _ _) (ag_one _ _ _) (by kernel_rfl) ⟨_, rfl, ⟨below_setRow cc.bw (by omega) _, by rw [size_setRow]; exact cc.ms, cc.R0.set_other _ (by omega), cc.R1.set_other _ (by omega), cc.R2.set_other _ (by omega), fun h => cc.c0 (T 0 (by decide) h), fun h => cc.c1 (T 1 (by decide) h), fun h => cc.c2 (T 2 (by decide) h), fun h => cc.c3 (T 3 (by decide) h), fun h => cc.c4 (T 4 (by decide) h), fun h => cc.c5 (T 5 (by decide) h), fun h => cc.c6 (T 6 (by decide) h), fun h => ⟨g, _, e, h1, h2.set_same _, (ag_size _ _ _), fun _ => rfl⟩, fun h => by obtain ⟨g', c', e', k1, k2, k3, k4⟩ := cc.c8 (T 8 (by decide) h); exact ⟨g', c', e', k1, k2.set_other _ (by rintro rfl; exact cc.ne7_8 d4 (T 8 (by decide) h) (by rw [e, e'])), k3, fun h6 => k4 (T 10 (by decide) h6)⟩, fun _ => S 7 d4, fun h => S 8 (cc.c10 (T 10 (by decide) h)), fun h h' => cc.ne7_8 (T 7 (by decide) h) (T 8 (by decide) h')⟩⟩
        · simp at ho
          subst ho
          have T : ∀ j, j ≠ 10 → (listed.setIfInBounds 10 true).getD j false = true → listed.getD j false = true := fun j hj h => (done_set h).resolve_left hj
          have S : ∀ j, listed.getD j false = true → (listed.setIfInBounds 10 true).getD j false = true := fun j h => done_keep h
          have d4 := (waits_done (i := 10) (j := 8) (by kernel_rfl) hi)
          obtain ⟨g, c, e, h1, h2, h3, h4⟩ := cc.c8 d4
          have hx := (hF.new (t := 12) (i := 8) (by kernel_rfl) (by simp) d4).trans e
          have hv := ((hF.new (t := 38) (i := 6) (by kernel_rfl) (by simp) (waits_done (i := 10) (j := 6) (by kernel_rfl) hi)).trans (cc.c6 (waits_done (i := 10) (j := 6) (by kernel_rfl) hi)))
          exact wp_rowS 42 (.tmp 12) (.tmp 38) rfl g (c' := (ag .u64 8 o)) hx hv h2 h3 (ag_size _ _ _) (ag_one _ _ _) (by kernel_rfl) ⟨_, rfl, ⟨below_setRow cc.bw (by omega) _, by rw [size_setRow]; exact cc.ms, cc.R0.set_other _ (by omega), cc.R1.set_other _ (by omega), cc.R2.set_other _ (by omega), fun h => cc.c0 (T 0 (by decide) h), fun h => cc.c1 (T 1 (by decide) h), fun h => cc.c2 (T 2 (by decide) h), fun h => cc.c3 (T 3 (by decide) h), fun h => cc.c4 (T 4 (by decide) h), fun h => cc.c5 (T 5 (by decide) h), fun h => cc.c6 (T 6 (by decide) h), fun h => by obtain ⟨g', c', e', k1, k2, k3, k4⟩ := cc.c7 (T 7 (by decide) h); exact ⟨g', c', e', k1, k2.set_other _ (by rintro rfl; exact cc.ne7_8 (T 7 (by decide) h) d4 (by rw [e, e'])), k3, fun h6 => k4 (T 9 (by decide) h6)⟩, fun h => ⟨g, _, e, h1, h2.set_same _, (ag_size _ _ _), fun _ => rfl⟩, fun h => S 7 (cc.c9 (T 9 (by decide) h)), fun _ => S 8 d4, fun h h' => cc.ne7_8 (T 7 (by decide) h) (T 8 (by decide) h')⟩⟩
      · intro listed vs a' w' hd hF cc
        have e : a' = ({ tmps := #[U hi, U lo, U m, .pointer (some ⟨w.heap.size, 0, none⟩), .pointer (some ⟨w.heap.size + 1, 0, none⟩), .pointer (some ⟨w.heap.size + 1 + 1, 0, none⟩), .pointer (some ⟨w.heap.size + 1 + 1 + 1, 0, none⟩), .pointer (some ⟨w.heap.size + 1 + 1 + 1 + 1, 0, none⟩), .pointer (some ⟨b1, 0, none⟩), .pointer (some ⟨b2, 0, none⟩), .int .i64 8, vs 7, vs 8, .agg #[B (l0 hi), B (l1 hi), B (l2 hi), B (l3 hi)], .agg ch, .agg #[B (l0 lo), B (l1 lo), B (l2 lo), B (l3 lo)], .agg cl, .int .i64 8, .bool false, u19, u20, u21, u22, u23, u24, u25, u26, u27, u28, u29, u30, u31, vs 4, vs 0, vs 1, vs 2, vs 3, vs 5, vs 6, undef, undef], defers := [] } : Act) := (hF.all hd).trans (by kernel_rfl)
        subst e
        obtain ⟨g, c, e4, h1, h2, h3, h4⟩ := cc.c8 (hd 8 (by simp))
        rw [h4 (hd 10 (by simp))] at h2
        have HH : Hid (HasRow w' g (ag .u64 8 o) ∧ HasRow w' (w.heap.size + 1 + 1 + 1) #[.int .u64 0, .int .u64 0, .int .u64 0, .int .u64 0] ∧ Below w.heap.size w w') := ⟨h2, cc.R2, cc.bw⟩
        rw [e4]
        clear h1 h2 h3 h4 cc hd hF e4
        go_upto_region 10 with fail
        refine wp_region_lit ?_
        refine wpList_rload' rfl 42 (.tmp 12) rfl g rfl .u64 8 o HH.out.1 Try.underlying42 (by kernel_rfl) ?_
        go_wp2_with fail
        refine (c5.out _).mono ?_
        rintro e w7 ⟨rfl, hb7⟩
        have R7 : HasRow w7 (w.heap.size + 1 + 1 + 1) #[.int .u64 0, .int .u64 0, .int .u64 0, .int .u64 0] := HH.out.2.1.below hb7
        have B7 : Hid (Below w.heap.size w w7) := bel_call HH.out.2.2 hb7
        have H7 : Hid (HasRow w7 (w.heap.size + 1 + 1 + 1) #[.int .u64 0, .int .u64 0, .int .u64 0, .int .u64 0]) := R7
        have g0 := R7.cell 0
        have g1 := R7.cell 1
        have g2 := R7.cell 2
        have g3 := R7.cell 3
        simp at g0 g1 g2 g3
        have gz0 := R7.frozen 0
        have gz1 := R7.frozen 1
        have gz2 := R7.frozen 2
        have gz3 := R7.frozen 3
        have gq := R7.lt
        clear R7 hb7 HH
        go_wp2
        have R8 : HasRow w7 (w.heap.size + 1 + 1 + 1) #[.int .u64 0, .int .u64 0, .int .u64 0, .int .u64 0] := H7.out
        rw [set4 R8 rfl]
        exact bodyPost_ret (v := U x) (results_cell1 (p := 6) (ty := 24) rfl (g := w.heap.size + 1 + 1 + 1) rfl (R8.set_same _) rfl Try.underlying24 (by kernel_rfl)) rfl ⟨rfl, below_setRow B7.out (by omega) _⟩
end Go.Proofs.Ytillbhdcnhcbhaa
