/- Contract of shifted. -/
import Derived.Test.YtbfgeinneglpdaaPb
import Derived.Test.YtbfgeinneglpdaaSp
import Derived.Test.YtbfgeinneglpdaaJo
import Derived.Test.YtbfgeinneglpdaaRv
import Derived.Test.YtbfgeinneglpdaaCs
import Derived.Deep.QuietTactic
import Derived.BigQuiet
import Derived.Lib.QuietBelow
import Derived.Deep.DeepCutAuto
import Derived.Deep.Light
import Derived.BigCall
namespace Go.Proofs.Ytbfgeinneglpdaa
open Go.RowKit Go.Sort
set_option linter.unusedVariables false
attribute [local go_sem] setCell_drewN

/-- What holds in the region of the middle part. -/
structure CM (W0 : World) (hg lw k ov hv0 lo md : Nat) (listed : Array Bool) (vs : Nat → Value) (w' : World) : Prop where
  b : Below W0.heap.size W0 w'
  c0 : listed.getD 0 false = true → vs 0 = U hg
  c1 : listed.getD 1 false = true → vs 1 = B k
  c2 : listed.getD 2 false = true → vs 2 = U hv0
  c3 : listed.getD 3 false = true → vs 3 = U lw
  c4 : listed.getD 4 false = true → vs 4 = B ov
  c5 : listed.getD 5 false = true → vs 5 = U lo
  c6 : listed.getD 6 false = true → vs 6 = U md
  c7 : listed.getD 7 false = true → ∃ g c, vs 7 = .pointer (some ⟨g, 0, none⟩) ∧ W0.heap.size ≤ g ∧ HasRow w' g c ∧ c.size = 4 ∧ (listed.getD 8 false = true → c = #[B (l0 md), B (l1 md), B (l2 md), B (l3 md)])
  c87 : listed.getD 8 false = true → listed.getD 7 false = true

theorem HasRow.frozen {w : World} {g : Nat} {c : Array Value} (h : HasRow w g c) (j : Nat) : w.frozen? ⟨g, j, none⟩ = false := by
  obtain ⟨t, h⟩ := h
  exact frozen_of_row w g j c t h
theorem run_idx8 (X : Nat → Nat) (j : Nat) (hj : j < 8) (v : Value) (hv : v = .int .i64 (j : Int)) (w : World) : (Instr.index 66 (L8 X) v).run Try.prog w = .ok (.int .u32 (X j : Nat)) w := by
  subst hv
  have h1 : (ag .u32 8 X)[j]? = some (.int .u32 (X j : Nat)) := by rw [ag_get, if_pos hj]
  have h2 : (ag .u32 8 X).size = 8 := ag_size _ _ _
  simp [Instr.index, asIntOf, run_underlying Try.underlying66, h2, hj, part, isAgg, run_underlying Try.underlying64, go_sem]
  exact (Array.getElem?_eq_some_iff.1 h1).2
structure SF (w w' : World) (bo bm hg md : Nat) (f : Nat → Nat) : Prop where
  o : HasRow w' bo (ag .u32 17 f)
  h : HasRow w' w.heap.size #[B (l0 hg), B (l1 hg), B (l2 hg), B (l3 hg)]
  r : HasRow w' (w.heap.size + 1 + 1) z17
  m : HasRow w' bm #[B (l0 md), B (l1 md), B (l2 md), B (l3 md)]
  b : Below w.heap.size w w'
theorem SF.call {w w' w'' : World} {bo bm hg md : Nat} {f : Nat → Nat} (h : SF w w' bo bm hg md f) (hb : Below w'.heap.size w' w'') : SF w w'' bo bm hg md f :=
  ⟨h.o.below hb, h.h.below hb, h.r.below hb, h.m.below hb, h.b.trans (hb.mono h.b.size)⟩
theorem SF.put {w w' : World} {bo bm hg md : Nat} {f : Nat → Nat} (h : SF w w' bo bm hg md f) (hq : w.heap.size + 1 + 1 < bo) (hm : bm < bo) (i x : Nat) : SF w (w'.setCell ⟨bo, i, none⟩ (.int .u32 (x : Nat))) bo bm hg md (upd f i x) := by
  rw [h.o.setCell, ag_set]
  exact ⟨h.o.set_same _, h.h.set_other _ (by omega), h.r.set_other _ (by omega), h.m.set_other _ (by omega), below_setRow h.b (by omega) _⟩
theorem results_cell1 {P : Program} {fn : Func} {p : Tmp} {ty : TypeId} (h : fn.results = #[.cell p ty]) {tmps : Array Value} {w : World} {g : Nat} {c : Array Value} {n : Nat} {e : TypeId}
    (h1 : tmps.getD p undef = .pointer (some ⟨g, 0, none⟩)) (r1 : HasRow w g c) (n1 : c.size = n)
    (hu : P.underlying ty = some (.array n e)) (hi : (P.info? ty).map (·.size) = some n) : (results fn tmps).run P w = .ok (.agg c) w := by
  obtain ⟨t, r1⟩ := r1
  have h1' : tmps[p]?.getD undef = .pointer (some ⟨g, 0, none⟩) := by rw [← h1]; simp
  have k1 := run_loadVar_row (P := P) w g t ty c (0, 0) _ r1 hu rfl (by rw [n1]; exact hi)
  simp only [results, h]
  simp [h1', asAddr, k1]

set_option maxRecDepth 100000 in
set_option maxHeartbeats 4000000 in
theorem shifted_raw (hg lw k ov hv0 lo md A hh : Nat) (X Y Z : Nat → Nat) (hov : IntKind.u64.wrap (256 - (k : Int)) = (ov : Int))
    (s1 : Hid (∀ w, Calls Try.prog 38 #[U hg, B k] w fun e w' => e = .returned (U hv0) ∧ Below w.heap.size w w'))
    (s2 : Hid (∀ w, Calls Try.prog 34 #[U lw, B ov] w fun e w' => e = .returned (U lo) ∧ Below w.heap.size w w'))
    (s3 : Hid (∀ w, Calls Try.prog 65 #[U hv0, U lo] w fun e w' => e = .returned (U md) ∧ Below w.heap.size w w'))
    (s4 : Hid (∀ w, Calls Try.prog 38 #[U lw, B k] w fun e w' => e = .returned (U A) ∧ Below w.heap.size w w'))
    (s5 : Hid (∀ w, Calls Try.prog 59 #[U A] w fun e w' => e = .returned (L8 X) ∧ Below w.heap.size w w'))
    (s6 : Hid (∀ w, Calls Try.prog 59 #[U md] w fun e w' => e = .returned (L8 Y) ∧ Below w.heap.size w w'))
    (s7 : Hid (∀ w, Calls Try.prog 34 #[U hg, B ov] w fun e w' => e = .returned (U hh) ∧ Below w.heap.size w w'))
    (s8 : Hid (∀ w, Calls Try.prog 59 #[U hh] w fun e w' => e = .returned (L8 Z) ∧ Below w.heap.size w w'))
    (w : World) :
    Calls Try.prog 60 #[U hg, U lw, B k] w fun e w' =>
      (∃ f : Nat → Nat, (∀ i, i < 8 → f i = X i) ∧ (∀ i, i < 8 → f (8 + i) = Y i) ∧ f 16 = Z 0 ∧ e = .returned (L17 f)) ∧ Below w.heap.size w w' := by
  go_enter Try.func60, Try.ntmps60
  go_wp2
  go_cut [8] (fun s8 w' => ∃ bm, s8 = .pointer (some ⟨bm, 0, none⟩) ∧ HasRow w' bm #[B (l0 md), B (l1 md), B (l2 md), B (l3 md)] ∧ Below (((w.alloc (Obj.cells #[B (l0 hg), B (l1 hg), B (l2 hg), B (l3 hg)] 24)).alloc (Obj.cells #[B (l0 lw), B (l1 lw), B (l2 lw), B (l3 lw)] 24)).alloc (Obj.cells z17 69)).heap.size (((w.alloc (Obj.cells #[B (l0 hg), B (l1 hg), B (l2 hg), B (l3 hg)] 24)).alloc (Obj.cells #[B (l0 lw), B (l1 lw), B (l2 lw), B (l3 lw)] 24)).alloc (Obj.cells z17 69)) w')
  case first =>
    have r0 : ∀ w', Below (((w.alloc (Obj.cells #[B (l0 hg), B (l1 hg), B (l2 hg), B (l3 hg)] 24)).alloc (Obj.cells #[B (l0 lw), B (l1 lw), B (l2 lw), B (l3 lw)] 24)).alloc (Obj.cells z17 69)).heap.size (((w.alloc (Obj.cells #[B (l0 hg), B (l1 hg), B (l2 hg), B (l3 hg)] 24)).alloc (Obj.cells #[B (l0 lw), B (l1 lw), B (l2 lw), B (l3 lw)] 24)).alloc (Obj.cells z17 69)) w' → HasRow w' w.heap.size #[B (l0 hg), B (l1 hg), B (l2 hg), B (l3 hg)] := fun w' hb => (HasRow.old (HasRow.old (HasRow.last rfl))).below hb
    have r1 : ∀ w', Below (((w.alloc (Obj.cells #[B (l0 hg), B (l1 hg), B (l2 hg), B (l3 hg)] 24)).alloc (Obj.cells #[B (l0 lw), B (l1 lw), B (l2 lw), B (l3 lw)] 24)).alloc (Obj.cells z17 69)).heap.size (((w.alloc (Obj.cells #[B (l0 hg), B (l1 hg), B (l2 hg), B (l3 hg)] 24)).alloc (Obj.cells #[B (l0 lw), B (l1 lw), B (l2 lw), B (l3 lw)] 24)).alloc (Obj.cells z17 69)) w' → HasRow w' (w.heap.size + 1) #[B (l0 lw), B (l1 lw), B (l2 lw), B (l3 lw)] := fun w' hb => (HasRow.old (HasRow.last (by simp))).below hb
    generalize (((w.alloc (Obj.cells #[B (l0 hg), B (l1 hg), B (l2 hg), B (l3 hg)] 24)).alloc (Obj.cells #[B (l0 lw), B (l1 lw), B (l2 lw), B (l3 lw)] 24)).alloc (Obj.cells z17 69)) = W0 at *
    refine wp_region_vals (by kernel_rfl) (by kernel_rfl) (by kernel_rfl) (CM W0 hg lw k ov hv0 lo md) ?_ ?_ ?_
    · refine ⟨(Below.refl _ _).drew, ?_, ?_, ?_, ?_, ?_, ?_, ?_, ?_, ?_⟩ <;> (intro h; simp [Array.getD] at h)
    · intro listed vs a' w' i o hs ho hi hF cc
      have hi9 : i < 9 := by have := (Array.getElem?_eq_some_iff.1 ho).1; simpa using this
      have hcase : i = 0 ∨ i = 1 ∨ i = 2 ∨ i = 3 ∨ i = 4 ∨ i = 5 ∨ i = 6 ∨ i = 7 ∨ i = 8 := by omega
      rcases hcase with rfl | rfl | rfl | rfl | rfl | rfl | rfl | rfl | rfl
      · simp at ho
        subst ho
        have T : ∀ j, j ≠ 0 → (listed.setIfInBounds 0 true).getD j false = true → listed.getD j false = true := fun j hj h => (done_set h).resolve_left hj
        have S : ∀ j, listed.getD j false = true → (listed.setIfInBounds 0 true).getD j false = true := fun j h => done_keep h
        refine wp_rowF 24 (.tmp 3) rfl w.heap.size ((hF.old (by kernel_rfl)).trans rfl) (r0 w' cc.b) rfl Try.underlying24 (by kernel_rfl) ⟨_, rfl, ⟨cc.b, fun _ => rfl, fun h => cc.c1 (T 1 (by decide) h), fun h => cc.c2 (T 2 (by decide) h), fun h => cc.c3 (T 3 (by decide) h), fun h => cc.c4 (T 4 (by decide) h), fun h => cc.c5 (T 5 (by decide) h), fun h => cc.c6 (T 6 (by decide) h), fun h => by obtain ⟨g, c, e, h1, h2, h3, h4⟩ := cc.c7 (T 7 (by decide) h); exact ⟨g, c, e, h1, h2, h3, fun h6 => h4 (T 8 (by decide) h6)⟩, fun h => S 7 (cc.c87 (T 8 (by decide) h))⟩⟩
      · simp at ho
        subst ho
        have T : ∀ j, j ≠ 1 → (listed.setIfInBounds 1 true).getD j false = true → listed.getD j false = true := fun j hj h => (done_set h).resolve_left hj
        have S : ∀ j, listed.getD j false = true → (listed.setIfInBounds 1 true).getD j false = true := fun j h => done_keep h
        have hv : a'.eval (.tmp 2) = B k := (hF.old (by kernel_rfl)).trans rfl
        refine wp_valF (v := B k) (w1 := w') (by simp [execOp, go_sem, ev hv]) ⟨_, rfl, ⟨cc.b, fun h => cc.c0 (T 0 (by decide) h), fun _ => rfl, fun h => cc.c2 (T 2 (by decide) h), fun h => cc.c3 (T 3 (by decide) h), fun h => cc.c4 (T 4 (by decide) h), fun h => cc.c5 (T 5 (by decide) h), fun h => cc.c6 (T 6 (by decide) h), fun h => by obtain ⟨g, c, e, h1, h2, h3, h4⟩ := cc.c7 (T 7 (by decide) h); exact ⟨g, c, e, h1, h2, h3, fun h6 => h4 (T 8 (by decide) h6)⟩, fun h => S 7 (cc.c87 (T 8 (by decide) h))⟩⟩
      · simp at ho
        subst ho
        have T : ∀ j, j ≠ 2 → (listed.setIfInBounds 2 true).getD j false = true → listed.getD j false = true := fun j hj h => (done_set h).resolve_left hj
        have S : ∀ j, listed.getD j false = true → (listed.setIfInBounds 2 true).getD j false = true := fun j h => done_keep h
        have hv1 := ((hF.new (t := 16) (i := 0) (by kernel_rfl) (by simp) (waits_done (i := 2) (j := 0) (by kernel_rfl) hi)).trans (cc.c0 (waits_done (i := 2) (j := 0) (by kernel_rfl) hi)))
        have hv2 := ((hF.new (t := 17) (i := 1) (by kernel_rfl) (by simp) (waits_done (i := 2) (j := 1) (by kernel_rfl) hi)).trans (cc.c1 (waits_done (i := 2) (j := 1) (by kernel_rfl) hi)))
        refine wp_callF (f := 38) (args := #[U hg, B k]) (v := U hv0) (by simp [execOp_call_go, ev hv1, ev hv2, go_sem]) (s1.out w') ?_
        intro w'' hb''
        exact ⟨_, rfl, ⟨cc.b.trans (hb''.mono cc.b.size), fun h => cc.c0 (T 0 (by decide) h), fun h => cc.c1 (T 1 (by decide) h), fun _ => rfl, fun h => cc.c3 (T 3 (by decide) h), fun h => cc.c4 (T 4 (by decide) h), fun h => cc.c5 (T 5 (by decide) h), fun h => cc.c6 (T 6 (by decide) h), fun h => by obtain ⟨g, c, e, h1, h2, h3, h4⟩ := cc.c7 (T 7 (by decide) h); exact ⟨g, c, e, h1, h2.below hb'', h3, fun h6 => h4 (T 8 (by decide) h6)⟩, fun h => S 7 (cc.c87 (T 8 (by decide) h))⟩⟩
      · simp at ho
        subst ho
        have T : ∀ j, j ≠ 3 → (listed.setIfInBounds 3 true).getD j false = true → listed.getD j false = true := fun j hj h => (done_set h).resolve_left hj
        have S : ∀ j, listed.getD j false = true → (listed.setIfInBounds 3 true).getD j false = true := fun j h => done_keep h
        refine wp_rowF 24 (.tmp 4) rfl (w.heap.size + 1) ((hF.old (by kernel_rfl)).trans rfl) (r1 w' cc.b) rfl Try.underlying24 (by kernel_rfl) ⟨_, rfl, ⟨cc.b, fun h => cc.c0 (T 0 (by decide) h), fun h => cc.c1 (T 1 (by decide) h), fun h => cc.c2 (T 2 (by decide) h), fun _ => rfl, fun h => cc.c4 (T 4 (by decide) h), fun h => cc.c5 (T 5 (by decide) h), fun h => cc.c6 (T 6 (by decide) h), fun h => by obtain ⟨g, c, e, h1, h2, h3, h4⟩ := cc.c7 (T 7 (by decide) h); exact ⟨g, c, e, h1, h2, h3, fun h6 => h4 (T 8 (by decide) h6)⟩, fun h => S 7 (cc.c87 (T 8 (by decide) h))⟩⟩
      · simp at ho
        subst ho
        have T : ∀ j, j ≠ 4 → (listed.setIfInBounds 4 true).getD j false = true → listed.getD j false = true := fun j hj h => (done_set h).resolve_left hj
        have S : ∀ j, listed.getD j false = true → (listed.setIfInBounds 4 true).getD j false = true := fun j h => done_keep h
        have hv : a'.eval (.tmp 7) = B ov := (hF.old (by kernel_rfl)).trans rfl
        refine wp_valF (v := B ov) (w1 := w') (by simp [execOp, go_sem, ev hv]) ⟨_, rfl, ⟨cc.b, fun h => cc.c0 (T 0 (by decide) h), fun h => cc.c1 (T 1 (by decide) h), fun h => cc.c2 (T 2 (by decide) h), fun h => cc.c3 (T 3 (by decide) h), fun _ => rfl, fun h => cc.c5 (T 5 (by decide) h), fun h => cc.c6 (T 6 (by decide) h), fun h => by obtain ⟨g, c, e, h1, h2, h3, h4⟩ := cc.c7 (T 7 (by decide) h); exact ⟨g, c, e, h1, h2, h3, fun h6 => h4 (T 8 (by decide) h6)⟩, fun h => S 7 (cc.c87 (T 8 (by decide) h))⟩⟩
      · simp at ho
        subst ho
        have T : ∀ j, j ≠ 5 → (listed.setIfInBounds 5 true).getD j false = true → listed.getD j false = true := fun j hj h => (done_set h).resolve_left hj
        have S : ∀ j, listed.getD j false = true → (listed.setIfInBounds 5 true).getD j false = true := fun j h => done_keep h
        have hv1 := ((hF.new (t := 19) (i := 3) (by kernel_rfl) (by simp) (waits_done (i := 5) (j := 3) (by kernel_rfl) hi)).trans (cc.c3 (waits_done (i := 5) (j := 3) (by kernel_rfl) hi)))
        have hv2 := ((hF.new (t := 20) (i := 4) (by kernel_rfl) (by simp) (waits_done (i := 5) (j := 4) (by kernel_rfl) hi)).trans (cc.c4 (waits_done (i := 5) (j := 4) (by kernel_rfl) hi)))
        refine wp_callF (f := 34) (args := #[U lw, B ov]) (v := U lo) (by simp [execOp_call_go, ev hv1, ev hv2, go_sem]) (s2.out w') ?_
        intro w'' hb''
        exact ⟨_, rfl, ⟨cc.b.trans (hb''.mono cc.b.size), fun h => cc.c0 (T 0 (by decide) h), fun h => cc.c1 (T 1 (by decide) h), fun h => cc.c2 (T 2 (by decide) h), fun h => cc.c3 (T 3 (by decide) h), fun h => cc.c4 (T 4 (by decide) h), fun _ => rfl, fun h => cc.c6 (T 6 (by decide) h), fun h => by obtain ⟨g, c, e, h1, h2, h3, h4⟩ := cc.c7 (T 7 (by decide) h); exact ⟨g, c, e, h1, h2.below hb'', h3, fun h6 => h4 (T 8 (by decide) h6)⟩, fun h => S 7 (cc.c87 (T 8 (by decide) h))⟩⟩
      · simp at ho
        subst ho
        have T : ∀ j, j ≠ 6 → (listed.setIfInBounds 6 true).getD j false = true → listed.getD j false = true := fun j hj h => (done_set h).resolve_left hj
        have S : ∀ j, listed.getD j false = true → (listed.setIfInBounds 6 true).getD j false = true := fun j h => done_keep h
        have hv1 := ((hF.new (t := 18) (i := 2) (by kernel_rfl) (by simp) (waits_done (i := 6) (j := 2) (by kernel_rfl) hi)).trans (cc.c2 (waits_done (i := 6) (j := 2) (by kernel_rfl) hi)))
        have hv2 := ((hF.new (t := 21) (i := 5) (by kernel_rfl) (by simp) (waits_done (i := 6) (j := 5) (by kernel_rfl) hi)).trans (cc.c5 (waits_done (i := 6) (j := 5) (by kernel_rfl) hi)))
        refine wp_callF (f := 65) (args := #[U hv0, U lo]) (v := U md) (by simp [execOp_call_go, ev hv1, ev hv2, go_sem]) (s3.out w') ?_
        intro w'' hb''
        exact ⟨_, rfl, ⟨cc.b.trans (hb''.mono cc.b.size), fun h => cc.c0 (T 0 (by decide) h), fun h => cc.c1 (T 1 (by decide) h), fun h => cc.c2 (T 2 (by decide) h), fun h => cc.c3 (T 3 (by decide) h), fun h => cc.c4 (T 4 (by decide) h), fun h => cc.c5 (T 5 (by decide) h), fun _ => rfl, fun h => by obtain ⟨g, c, e, h1, h2, h3, h4⟩ := cc.c7 (T 7 (by decide) h); exact ⟨g, c, e, h1, h2.below hb'', h3, fun h6 => h4 (T 8 (by decide) h6)⟩, fun h => S 7 (cc.c87 (T 8 (by decide) h))⟩⟩
      · simp at ho
        subst ho
        have T : ∀ j, j ≠ 7 → (listed.setIfInBounds 7 true).getD j false = true → listed.getD j false = true := fun j hj h => (done_set h).resolve_left hj
        have S : ∀ j, listed.getD j false = true → (listed.setIfInBounds 7 true).getD j false = true := fun j h => done_keep h
        have hun : ¬ listed.getD 7 false = true := fun h => undone hi hs h
        refine wp_valF (v := .pointer (some ⟨w'.heap.size, 0, none⟩)) (w1 := w'.alloc (.cells #[.int .u64 0, .int .u64 0, .int .u64 0, .int .u64 0] 24)) (by simp [execOp, go_sem]) ⟨_, rfl, ⟨cc.b.alloc cc.b.size _, fun h => cc.c0 (T 0 (by decide) h), fun h => cc.c1 (T 1 (by decide) h), fun h => cc.c2 (T 2 (by decide) h), fun h => cc.c3 (T 3 (by decide) h), fun h => cc.c4 (T 4 (by decide) h), fun h => cc.c5 (T 5 (by decide) h), fun h => cc.c6 (T 6 (by decide) h), fun _ => ⟨w'.heap.size, #[.int .u64 0, .int .u64 0, .int .u64 0, .int .u64 0], rfl, cc.b.size, HasRow.last rfl, rfl, fun h6 => absurd (cc.c87 (T 8 (by decide) h6)) hun⟩, fun h => S 7 (cc.c87 (T 8 (by decide) h))⟩⟩
      · simp at ho
        subst ho
        have T : ∀ j, j ≠ 8 → (listed.setIfInBounds 8 true).getD j false = true → listed.getD j false = true := fun j hj h => (done_set h).resolve_left hj
        have S : ∀ j, listed.getD j false = true → (listed.setIfInBounds 8 true).getD j false = true := fun j h => done_keep h
        have d7 := (waits_done (i := 8) (j := 7) (by kernel_rfl) hi)
        obtain ⟨g, c, e, h1, h2, h3, h4⟩ := cc.c7 d7
        have hx := (hF.new (t := 8) (i := 7) (by kernel_rfl) (by simp) d7).trans e
        have hv := ((hF.new (t := 22) (i := 6) (by kernel_rfl) (by simp) (waits_done (i := 8) (j := 6) (by kernel_rfl) hi)).trans (cc.c6 (waits_done (i := 8) (j := 6) (by kernel_rfl) hi)))
        refine wp_rowS 24 (.tmp 8) (.tmp 22) rfl g (c' := #[B (l0 md), B (l1 md), B (l2 md), B (l3 md)]) hx hv h2 h3 rfl (by simp [Value.oneCell']) (by kernel_rfl) ⟨_, rfl, ⟨below_setRow cc.b h1 _, fun h => cc.c0 (T 0 (by decide) h), fun h => cc.c1 (T 1 (by decide) h), fun h => cc.c2 (T 2 (by decide) h), fun h => cc.c3 (T 3 (by decide) h), fun h => cc.c4 (T 4 (by decide) h), fun h => cc.c5 (T 5 (by decide) h), fun h => cc.c6 (T 6 (by decide) h), fun h => ⟨g, _, e, h1, h2.set_same _, rfl, fun _ => rfl⟩, fun _ => S 7 d7⟩⟩
    · intro listed vs a' w' hd hF cc
      have e : a' = ({ tmps := #[U hg, U lw, B k, .pointer (some ⟨w.heap.size, 0, none⟩), .pointer (some ⟨w.heap.size + 1, 0, none⟩), undef, .pointer (some ⟨w.heap.size + 1 + 1, 0, none⟩), B ov, vs 7, undef, undef, undef, undef, undef, B k, B ov, vs 0, vs 1, vs 2, vs 3, vs 4, vs 5, vs 6, undef, undef, undef, undef, undef, undef, undef, undef, undef, undef, undef, undef, undef, undef, undef, undef, undef, undef, undef, undef, undef, undef, undef, undef, undef, undef, undef, undef, undef, undef], defers := [] } : Act) := (hF.all hd).trans (by kernel_rfl)
      subst e
      obtain ⟨g, c, e4, h1, h2, h3, h4⟩ := cc.c7 (hd 7 (by simp))
      have HH : Hid (vs 7 = .pointer (some ⟨g, 0, none⟩) ∧ HasRow w' g #[B (l0 md), B (l1 md), B (l2 md), B (l3 md)] ∧ Below W0.heap.size W0 w') := ⟨e4, h4 (hd 8 (by simp)) ▸ h2, cc.b⟩
      clear e4 h1 h2 h3 h4 cc hd r0 r1 hF
      go_wp2_with fail
      go_meet
      case rel =>
        obtain ⟨e4, h2, hb⟩ := HH.out
        exact ⟨g, e4, h2, hb⟩
  case rest =>
    obtain ⟨bm, rfl, hm, hbel⟩ := hcut
    have R0 : Hid (HasRow wc w.heap.size #[B (l0 hg), B (l1 hg), B (l2 hg), B (l3 hg)]) := (HasRow.old (HasRow.old (HasRow.last rfl))).below hbel
    have R1 : Hid (HasRow wc (w.heap.size + 1) #[B (l0 lw), B (l1 lw), B (l2 lw), B (l3 lw)]) := (HasRow.old (HasRow.last (by simp))).below hbel
    have R2 : Hid (HasRow wc (w.heap.size + 1 + 1) z17) := (HasRow.last (by simp)).below hbel
    have Rm : Hid (HasRow wc bm #[B (l0 md), B (l1 md), B (l2 md), B (l3 md)]) := hm
    have HO : Hid (Below w.heap.size w wc) := bel_call (by (repeat (first | exact Below.refl _ _ | refine bel_alloc ?_ _))) hbel
    have q1 : w.heap.size + 1 < wc.heap.size := R1.out.lt
    have g10 : wc.cell? ⟨w.heap.size + 1, 0, none⟩ = some (B (l0 lw)) := R1.out.cell 0
    have g11 : wc.cell? ⟨w.heap.size + 1, 1, none⟩ = some (B (l1 lw)) := R1.out.cell 1
    have g12 : wc.cell? ⟨w.heap.size + 1, 2, none⟩ = some (B (l2 lw)) := R1.out.cell 2
    have g13 : wc.cell? ⟨w.heap.size + 1, 3, none⟩ = some (B (l3 lw)) := R1.out.cell 3
    clear hbel hm
    have hq : w.heap.size + 1 + 1 < wc.heap.size := R2.out.lt
    have hq2 : bm < wc.heap.size := Rm.out.lt
    go_wp2_with fail
    refine (s4.out _).mono ?_
    rintro e w1 ⟨rfl, hb1⟩
    have F1 : Hid (SF w w1 wc.heap.size bm hg md (fun _ => 0)) := ⟨(HasRow.last rfl).below hb1, (HasRow.old R0.out).below hb1, (HasRow.old R2.out).below hb1, (HasRow.old Rm.out).below hb1, bel_call (bel_alloc HO.out _) hb1⟩
    clear R0 R1 R2 Rm HO g10 g11 g12 g13 hb1 q1
    generalize wc.heap.size = bo at *
    clear wc
    go_wp2_with fail
    refine (s5.out _).mono ?_
    rintro e w2 ⟨rfl, hb2⟩
    have F2 : Hid _ := F1.out.call hb2
    clear F1 hb2
    go_wp2
    go_loopw [27] (fun i w' => ∃ (j : Nat) (f : Nat → Nat), j ≤ 8 ∧ i = .int .i64 (j : Int) ∧ SF w w' bo bm hg md f ∧ (∀ i, i < j → f i = X i)) (fun i _ => 8 - (intOf i).toNat)
    case atStart => exact ⟨0, fun _ => 0, by omega, rfl, F2.out, fun i hi => by omega⟩
    case round =>
      obtain ⟨j, f, hj, rfl, hS, hP⟩ := hrel
      have HS : Hid _ := hS
      have HP : Hid _ := hP
      clear hP F2
      by_cases hlt : j < 8
      · have hi := run_idx8 X j hlt (.int .i64 (j : Int)) rfl
        have hc := hS.o.cell j
        rw [ag_get, if_pos (by omega)] at hc
        have hl := hS.o.lt
        have hz := hS.o.frozen j
        clear hS
        go_wp2
        go_roundw
        case rel => exact ⟨j + 1, upd f j (X j), by omega, by go_num, HS.out.put hq hq2 j (X j), fun i hi => by
            by_cases h : i = j
            · subst h; rw [upd_same]
            · rw [upd_other _ _ _ h]; exact HP.out i (by omega)⟩
        case measure => simp [intOf]; omega
      · have hj8 : j = 8 := by omega
        subst hj8
        have g0 := hS.m.cell 0
        have g1 := hS.m.cell 1
        have g2 := hS.m.cell 2
        have g3 := hS.m.cell 3
        simp at g0 g1 g2 g3
        clear hS
        go_wp2_with fail
        refine (s6.out _).mono ?_
        rintro e w3 ⟨rfl, hb3⟩
        have F3 : Hid _ := HS.out.call hb3
        clear HS hb3 g0 g1 g2 g3
        go_wp2
        go_loopw [37] (fun i w' => ∃ (j : Nat) (f : Nat → Nat), j ≤ 8 ∧ i = .int .i64 (j : Int) ∧ SF w w' bo bm hg md f ∧ (∀ i, i < 8 → f i = X i) ∧ (∀ i, i < j → f (8 + i) = Y i)) (fun i _ => 8 - (intOf i).toNat)
        case atStart => exact ⟨0, f, by omega, rfl, F3.out, HP.out, fun i hi => by omega⟩
        case round =>
          obtain ⟨j, f, hj, rfl, hS, hP1, hP2⟩ := hrel
          have HS : Hid _ := hS
          have HP1 : Hid _ := hP1
          have HP2 : Hid _ := hP2
          clear hP1 hP2 F3 HP
          by_cases hlt : j < 8
          · have hi := run_idx8 Y j hlt (.int .i64 (j : Int)) rfl
            have hc := hS.o.cell (8 + j)
            rw [ag_get, if_pos (by omega)] at hc
            have hl := hS.o.lt
            have hz := hS.o.frozen (8 + j)
            clear hS
            go_wp2
            go_roundw
            case rel => exact ⟨j + 1, upd f (8 + j) (Y j), by omega, by go_num, HS.out.put hq hq2 (8 + j) (Y j), fun i hi => by rw [upd_other _ _ _ (by omega)]; exact HP1.out i hi, fun i hi => by
                by_cases h : i = j
                · subst h; rw [upd_same]
                · rw [upd_other _ _ _ (by omega)]; exact HP2.out i (by omega)⟩
            case measure => simp [intOf]; omega
          · have hj8 : j = 8 := by omega
            subst hj8
            have g0 := hS.h.cell 0
            have g1 := hS.h.cell 1
            have g2 := hS.h.cell 2
            have g3 := hS.h.cell 3
            simp at g0 g1 g2 g3
            clear hS
            go_wp2_with fail
            refine (s7.out _).mono ?_
            rintro e w4 ⟨rfl, hb4⟩
            have F4 : Hid _ := HS.out.call hb4
            clear HS hb4 g0 g1 g2 g3
            go_wp2_with fail
            refine (s8.out _).mono ?_
            rintro e w5 ⟨rfl, hb5⟩
            have F5 : Hid _ := F4.out.call hb5
            clear F4 hb5
            have hi := run_idx8 Z 0 (by omega) (.int .i64 0) rfl
            have hc := F5.out.o.cell 16
            rw [ag_get, if_pos (by omega)] at hc
            have hl := F5.out.o.lt
            have hz := F5.out.o.frozen 16
            go_upto_region 15 with fail
            have E : w5.setCell ⟨bo, 16, none⟩ (.int .u32 (Z 0 : Nat)) = w5.setCell ⟨bo, 16, none⟩ (.int .u32 (Z 0 : Nat)) := rfl
            have F6 := F5.out.put hq hq2 16 (Z 0)
            generalize w5.setCell ⟨bo, 16, none⟩ (.int .u32 (Z 0 : Nat)) = w6 at *
            refine wp_region_lit ?_
            refine wpList_vload rfl 69 (.tmp 9) rfl bo rfl .u32 17 _ F6.o Try.underlying69 (by kernel_rfl) ?_
            intro v hv
            have hsz := hv.size
            have hsc := run_storeCells_v (P := Try.prog) hv (g := w.heap.size + 1 + 1) 69 (by kernel_rfl) (StoreTo.row F6.r rfl)
            have F7 : Hid _ := F6
            clear hv F6 F5 hc hi E hz
            go_wp2
            refine bodyPost_ret (v := L17 (upd f 16 (Z 0))) (results_cell1 (p := 6) (ty := 69) rfl (g := w.heap.size + 1 + 1) rfl (F7.out.r.set_same _) (ag_size _ _ _) Try.underlying69 (by kernel_rfl)) rfl ⟨⟨upd f 16 (Z 0), fun i hi => by rw [upd_other _ _ _ (by omega)]; exact HP1.out i hi, fun i hi => by rw [upd_other _ _ _ (by omega)]; exact HP2.out i hi, upd_same _ _ _, rfl⟩, below_setRow F7.out.b (by omega) _⟩
end Go.Proofs.Ytbfgeinneglpdaa
