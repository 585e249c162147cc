/- Contract of the document's parts. -/
import Derived.Test.YtbfgeinneglpdaaLg
namespace Go.Proofs.Ytbfgeinneglpdaa
open Go.RowKit Go.Sort
set_option linter.unusedVariables false
structure CP (w : World) (h l : Nat → Nat) (listed : Array Bool) (vs : Nat → Value) (w' : World) : Prop where
  b : Below w.heap.size w w'
  hh : HasRow w' (w.heap.size + 1 + 1 + 1) (ag .u64 8 h)
  ll : HasRow w' (w.heap.size + 1 + 1 + 1 + 1) (ag .u64 8 l)
  c0 : listed.getD 0 false = true → vs 0 = A8 h
  c1 : listed.getD 1 false = true → vs 1 = U (vl h 0 8)
  c2 : listed.getD 2 false = true → vs 2 = A8 l
  c3 : listed.getD 3 false = true → vs 3 = U (vl l 0 8)
  c4 : ∃ c, HasRow w' (w.heap.size + 1) c ∧ c.size = 4 ∧ (listed.getD 4 false = true → c = #[B (l0 (vl h 0 8)), B (l1 (vl h 0 8)), B (l2 (vl h 0 8)), B (l3 (vl h 0 8))])
  c5 : ∃ c, HasRow w' (w.heap.size + 1 + 1) c ∧ c.size = 4 ∧ (listed.getD 5 false = true → c = #[B (l0 (vl l 0 8)), B (l1 (vl l 0 8)), B (l2 (vl l 0 8)), B (l3 (vl l 0 8))])

set_option maxRecDepth 100000 in
set_option maxHeartbeats 4000000 in
theorem parts_raw (f : Nat → Nat) (hf : ∀ i, i < 16 → f i < D) (w : World) :
    Calls Try.prog 51 #[A16 f] w fun e w' =>
      (∃ h l : Nat → Nat, (∀ i, i < 8 → h i = f (i + 8)) ∧ (∀ i, i < 8 → l i = f i) ∧ e = .returned (.tuple #[U (vl h 0 8), U (vl l 0 8)])) ∧ Below w.heap.size w w' := by
  have GF : Hid _ := hf
  clear hf
  go_enter Try.func51, Try.ntmps51
  go_wp2
  go_loopw [6] (fun i w' => ∃ (j : Nat) (h l : Nat → Nat), j ≤ 8 ∧ i = .int .i64 (j : Int) ∧ w' = (((((w.alloc (Obj.cells (ag .u64 16 f) 50)).alloc (Obj.cells #[.int .u64 0, .int .u64 0, .int .u64 0, .int .u64 0] 24)).alloc (Obj.cells #[.int .u64 0, .int .u64 0, .int .u64 0, .int .u64 0] 24)).alloc (Obj.cells (ag .u64 8 h) 51)).alloc (Obj.cells (ag .u64 8 l) 51)) ∧ (∀ i, i < j → h i = f (i + 8)) ∧ (∀ i, i < j → l i = f i)) (fun i _ => 8 - (intOf i).toNat)
  case atStart => exact ⟨0, fun _ => 0, fun _ => 0, by omega, rfl, rfl, fun i hi => by omega, fun i hi => by omega⟩
  case round =>
    obtain ⟨j, h, l, hj, rfl, rfl, hP, hQ⟩ := hrel
    have KP : Hid _ := hP
    have KQ : Hid _ := hQ
    clear hP hQ
    by_cases hlt : j < 8
    · have hc1 : (ag .u64 16 f)[j]? = some (.int .u64 (f j : Nat)) := by rw [ag_get, if_pos (by omega)]
      have hc2 : (ag .u64 16 f)[j + 8]? = some (.int .u64 (f (j + 8) : Nat)) := by rw [ag_get, if_pos (by omega)]
      have hc3 : (ag .u64 8 h)[j]? = some (.int .u64 (h j : Nat)) := by rw [ag_get, if_pos (by omega)]
      have hc4 : (ag .u64 8 l)[j]? = some (.int .u64 (l j : Nat)) := by rw [ag_get, if_pos (by omega)]
      go_wp2
      go_roundw
      case rel =>
        refine ⟨j + 1, upd h j (f (j + 8)), upd l j (f j), by omega, by go_num, by rw [ag_set, ag_set], fun i hi => ?_, fun i hi => ?_⟩
        · by_cases e : i = j
          · subst e; rw [upd_same]
          · rw [upd_other _ _ _ e]; exact KP.out i (by omega)
        · by_cases e : i = j
          · subst e; rw [upd_same]
          · rw [upd_other _ _ _ e]; exact KQ.out i (by omega)
      case measure => simp [intOf]; try omega
    · have hj8 : j = 8 := by omega
      subst hj8
      go_wp2
      have o4 := HasRow.last (w := ((((w.alloc (Obj.cells (ag .u64 16 f) 50)).alloc (Obj.cells #[.int .u64 0, .int .u64 0, .int .u64 0, .int .u64 0] 24)).alloc (Obj.cells #[.int .u64 0, .int .u64 0, .int .u64 0, .int .u64 0] 24)).alloc (Obj.cells (ag .u64 8 h) 51))) (c := ag .u64 8 l) (t := 51) (n := w.heap.size + 1 + 1 + 1 + 1) (by simp)
      have o3 := HasRow.old (o := Obj.cells (ag .u64 8 l) 51) (HasRow.last (w := (((w.alloc (Obj.cells (ag .u64 16 f) 50)).alloc (Obj.cells #[.int .u64 0, .int .u64 0, .int .u64 0, .int .u64 0] 24)).alloc (Obj.cells #[.int .u64 0, .int .u64 0, .int .u64 0, .int .u64 0] 24))) (c := ag .u64 8 h) (t := 51) (n := w.heap.size + 1 + 1 + 1) (by simp))
      have o2 := HasRow.old (o := Obj.cells (ag .u64 8 l) 51) (HasRow.old (o := Obj.cells (ag .u64 8 h) 51) (HasRow.last (w := ((w.alloc (Obj.cells (ag .u64 16 f) 50)).alloc (Obj.cells #[.int .u64 0, .int .u64 0, .int .u64 0, .int .u64 0] 24))) (c := #[.int .u64 0, .int .u64 0, .int .u64 0, .int .u64 0]) (t := 24) (n := w.heap.size + 1 + 1) (by simp)))
      have o1 := HasRow.old (o := Obj.cells (ag .u64 8 l) 51) (HasRow.old (o := Obj.cells (ag .u64 8 h) 51) (HasRow.old (o := Obj.cells #[.int .u64 0, .int .u64 0, .int .u64 0, .int .u64 0] 24) (HasRow.last (w := (w.alloc (Obj.cells (ag .u64 16 f) 50))) (c := #[.int .u64 0, .int .u64 0, .int .u64 0, .int .u64 0]) (t := 24) (n := w.heap.size + 1) (by simp))))
      have ob : Below w.heap.size w (((((w.alloc (Obj.cells (ag .u64 16 f) 50)).alloc (Obj.cells #[.int .u64 0, .int .u64 0, .int .u64 0, .int .u64 0] 24)).alloc (Obj.cells #[.int .u64 0, .int .u64 0, .int .u64 0, .int .u64 0] 24)).alloc (Obj.cells (ag .u64 8 h) 51)).alloc (Obj.cells (ag .u64 8 l) 51)) := by (repeat (first | exact Below.refl _ _ | refine bel_alloc ?_ _))
      generalize (((((w.alloc (Obj.cells (ag .u64 16 f) 50)).alloc (Obj.cells #[.int .u64 0, .int .u64 0, .int .u64 0, .int .u64 0] 24)).alloc (Obj.cells #[.int .u64 0, .int .u64 0, .int .u64 0, .int .u64 0] 24)).alloc (Obj.cells (ag .u64 8 h) 51)).alloc (Obj.cells (ag .u64 8 l) 51)) = wr' at *
      have hh8 : ∀ i, i < 8 → h i < D := fun i hi => by rw [KP.out i hi]; exact GF.out _ (by omega)
      have hl8 : ∀ i, i < 8 → l i < D := fun i hi => by rw [KQ.out i hi]; exact GF.out _ (by omega)
      refine wp_region_vals2 (by kernel_rfl) (by kernel_rfl) (by kernel_rfl) (CP w h l) ?_ ?_ ?_
      · refine ⟨ob.drew, o3, o4, ?_, ?_, ?_, ?_, ⟨_, o1, rfl, ?_⟩, ⟨_, o2, rfl, ?_⟩⟩ <;> (intro h; simp [Array.getD] at h)
      · intro listed vs a' w' i o' hs ho hi hF cc
        have hi6 : i < 6 := by have := (Array.getElem?_eq_some_iff.1 ho).1; simpa using this
        have hcase : i = 0 ∨ i = 1 ∨ i = 2 ∨ i = 3 ∨ i = 4 ∨ i = 5 := by omega
        rcases hcase with rfl | rfl | rfl | rfl | rfl | rfl
        · simp at ho
          subst ho
          have T : ∀ j, j ≠ 0 → (listed.setIfInBounds 0 true).getD j false = true → listed.getD j false = true := fun j hj h => (done_set h).resolve_left hj
          exact wp_rowF 51 (.tmp 4) rfl (w.heap.size + 1 + 1 + 1) ((hF.old (by kernel_rfl)).trans rfl) cc.hh (ag_size _ _ _) Try.underlying51 (by kernel_rfl) ⟨_, rfl, ⟨cc.b, cc.hh, cc.ll, fun _ => rfl, fun h => cc.c1 (T 1 (by decide) h), fun h => cc.c2 (T 2 (by decide) h), fun h => cc.c3 (T 3 (by decide) h), by obtain ⟨c, h2, h3, h4⟩ := cc.c4; exact ⟨c, h2, h3, fun h => h4 (T 4 (by decide) h)⟩, by obtain ⟨c, h2, h3, h4⟩ := cc.c5; exact ⟨c, h2, h3, fun h => h4 (T 5 (by decide) h)⟩⟩⟩
        · simp at ho
          subst ho
          have T : ∀ j, j ≠ 1 → (listed.setIfInBounds 1 true).getD j false = true → listed.getD j false = true := fun j hj h => (done_set h).resolve_left hj
          have hv := ((hF.new (t := 22) (i := 0) (by kernel_rfl) (by simp) (waits_done (i := 1) (j := 0) (by kernel_rfl) hi)).trans (cc.c0 (waits_done (i := 1) (j := 0) (by kernel_rfl) hi)))
          refine wp_callF (f := 52) (args := #[A8 h]) (v := U (vl h 0 8)) (by simp [execOp_call_go, ev hv, go_sem]) (number_any h hh8 w') ?_
          intro w'' hb''
          exact ⟨_, rfl, ⟨cc.b.trans (hb''.mono cc.b.size), cc.hh.below hb'', cc.ll.below hb'', fun h => cc.c0 (T 0 (by decide) h), fun _ => rfl, fun h => cc.c2 (T 2 (by decide) h), fun h => cc.c3 (T 3 (by decide) h), by obtain ⟨c, h2, h3, h4⟩ := cc.c4; exact ⟨c, h2.below hb'', h3, fun h => h4 (T 4 (by decide) h)⟩, by obtain ⟨c, h2, h3, h4⟩ := cc.c5; exact ⟨c, h2.below hb'', h3, fun h => h4 (T 5 (by decide) h)⟩⟩⟩
        · simp at ho
          subst ho
          have T : ∀ j, j ≠ 2 → (listed.setIfInBounds 2 true).getD j false = true → listed.getD j false = true := fun j hj h => (done_set h).resolve_left hj
          exact wp_rowF 51 (.tmp 5) rfl (w.heap.size + 1 + 1 + 1 + 1) ((hF.old (by kernel_rfl)).trans rfl) cc.ll (ag_size _ _ _) Try.underlying51 (by kernel_rfl) ⟨_, rfl, ⟨cc.b, cc.hh, cc.ll, fun h => cc.c0 (T 0 (by decide) h), fun h => cc.c1 (T 1 (by decide) h), fun _ => rfl, fun h => cc.c3 (T 3 (by decide) h), by obtain ⟨c, h2, h3, h4⟩ := cc.c4; exact ⟨c, h2, h3, fun h => h4 (T 4 (by decide) h)⟩, by obtain ⟨c, h2, h3, h4⟩ := cc.c5; exact ⟨c, h2, h3, fun h => h4 (T 5 (by decide) h)⟩⟩⟩
        · simp at ho
          subst ho
          have T : ∀ j, j ≠ 3 → (listed.setIfInBounds 3 true).getD j false = true → listed.getD j false = true := fun j hj h => (done_set h).resolve_left hj
          have hv := ((hF.new (t := 24) (i := 2) (by kernel_rfl) (by simp) (waits_done (i := 3) (j := 2) (by kernel_rfl) hi)).trans (cc.c2 (waits_done (i := 3) (j := 2) (by kernel_rfl) hi)))
          refine wp_callF (f := 52) (args := #[A8 l]) (v := U (vl l 0 8)) (by simp [execOp_call_go, ev hv, go_sem]) (number_any l hl8 w') ?_
          intro w'' hb''
          exact ⟨_, rfl, ⟨cc.b.trans (hb''.mono cc.b.size), cc.hh.below hb'', cc.ll.below hb'', fun h => cc.c0 (T 0 (by decide) h), fun h => cc.c1 (T 1 (by decide) h), fun h => cc.c2 (T 2 (by decide) h), fun _ => rfl, by obtain ⟨c, h2, h3, h4⟩ := cc.c4; exact ⟨c, h2.below hb'', h3, fun h => h4 (T 4 (by decide) h)⟩, by obtain ⟨c, h2, h3, h4⟩ := cc.c5; exact ⟨c, h2.below hb'', h3, fun h => h4 (T 5 (by decide) h)⟩⟩⟩
        · simp at ho
          subst ho
          have T : ∀ j, j ≠ 4 → (listed.setIfInBounds 4 true).getD j false = true → listed.getD j false = true := fun j hj h => (done_set h).resolve_left hj
          have hv := ((hF.new (t := 23) (i := 1) (by kernel_rfl) (by simp) (waits_done (i := 4) (j := 1) (by kernel_rfl) hi)).trans (cc.c1 (waits_done (i := 4) (j := 1) (by kernel_rfl) hi)))
          obtain ⟨c, h2, h3, h4⟩ := cc.c4
          obtain ⟨c', k2, k3, k4⟩ := cc.c5
          exact wp_rowS 24 (.tmp 2) (.tmp 23) rfl (w.heap.size + 1) (c' := #[B (l0 (vl h 0 8)), B (l1 (vl h 0 8)), B (l2 (vl h 0 8)), B (l3 (vl h 0 8))]) ((hF.old (by kernel_rfl)).trans rfl) hv h2 h3 rfl (by simp [Value.oneCell']) (by kernel_rfl) ⟨_, rfl, ⟨below_setRow cc.b (by omega) _, cc.hh.set_other _ (by omega), cc.ll.set_other _ (by omega), fun h => cc.c0 (T 0 (by decide) h), fun h => cc.c1 (T 1 (by decide) h), fun h => cc.c2 (T 2 (by decide) h), fun h => cc.c3 (T 3 (by decide) h), ⟨_, h2.set_same _, rfl, fun _ => rfl⟩, ⟨c', k2.set_other _ (by omega), k3, fun h => k4 (T 5 (by decide) h)⟩⟩⟩
        · simp at ho
          subst ho
          have T : ∀ j, j ≠ 5 → (listed.setIfInBounds 5 true).getD j false = true → listed.getD j false = true := fun j hj h => (done_set h).resolve_left hj
          have hv := ((hF.new (t := 25) (i := 3) (by kernel_rfl) (by simp) (waits_done (i := 5) (j := 3) (by kernel_rfl) hi)).trans (cc.c3 (waits_done (i := 5) (j := 3) (by kernel_rfl) hi)))
          obtain ⟨c, h2, h3, h4⟩ := cc.c5
          obtain ⟨c', k2, k3, k4⟩ := cc.c4
          exact wp_rowS 24 (.tmp 3) (.tmp 25) rfl (w.heap.size + 1 + 1) (c' := #[B (l0 (vl l 0 8)), B (l1 (vl l 0 8)), B (l2 (vl l 0 8)), B (l3 (vl l 0 8))]) ((hF.old (by kernel_rfl)).trans rfl) hv h2 h3 rfl (by simp [Value.oneCell']) (by kernel_rfl) ⟨_, rfl, ⟨below_setRow cc.b (by omega) _, cc.hh.set_other _ (by omega), cc.ll.set_other _ (by omega), fun h => cc.c0 (T 0 (by decide) h), fun h => cc.c1 (T 1 (by decide) h), fun h => cc.c2 (T 2 (by decide) h), fun h => cc.c3 (T 3 (by decide) h), ⟨c', k2.set_other _ (by omega), k3, fun h => k4 (T 4 (by decide) h)⟩, ⟨_, h2.set_same _, rfl, fun _ => rfl⟩⟩⟩
      · intro listed vs a' w' hd hF cc
        obtain ⟨c, h2, h3, h4⟩ := cc.c4
        obtain ⟨c', k2, k3, k4⟩ := cc.c5
        have hx4 : a'.eval (.tmp 2) = .pointer (some ⟨w.heap.size + 1, 0, none⟩) := (hF.old (by kernel_rfl)).trans rfl
        have hx5 : a'.eval (.tmp 3) = .pointer (some ⟨w.heap.size + 1 + 1, 0, none⟩) := (hF.old (by kernel_rfl)).trans rfl
        have hr := results_cell2 (P := Try.prog) (fn := Try.f51) rfl a' w' hx4 hx5 h2 k2 h3 k3 Try.underlying24 (by kernel_rfl) Try.underlying24 (by kernel_rfl)
        rw [h4 (hd 4 (by simp)), k4 (hd 5 (by simp))] at hr
        have HR : Hid _ := hr
        have HB : Hid _ := cc.b
        have HD : Hid (a'.defers = []) := hF.1
        clear hr cc hF hx4 hx5 h2 h3 h4 k2 k3 k4
        go_wp2
        exact bodyPost_ret HR.out HD.out ⟨⟨h, l, KP.out, KQ.out, rfl⟩, HB.out⟩
theorem parts_any (f : Nat → Nat) (hf : ∀ i, i < 16 → f i < D) (w : World) :
    Calls Try.prog 51 #[A16 f] w fun e w' => e = .returned (.tuple #[U (vl f 8 8), U (vl f 0 8)]) ∧ Below w.heap.size w w' := by
  refine (parts_raw f hf w).mono ?_
  rintro e w' ⟨⟨h, l, h1, h2, rfl⟩, hb⟩
  refine ⟨?_, hb⟩
  have e1 : vl h 0 8 = vl f 8 8 := by
    rw [← vl_shift f 8 8]
    exact vl_congr fun i hi => by rw [Nat.zero_add, h1 i hi, Nat.add_comm]
  have e2 : vl l 0 8 = vl f 0 8 := vl_congr fun i hi => by rw [Nat.zero_add]; exact h2 i hi
  rw [e1, e2]
end Go.Proofs.Ytbfgeinneglpdaa
