/- Which numbers are keys: the closures, the row of checks, Fit. Contracts of key, told by numbers. -/
import Derived.Test.YtpdoonofipcbeaaDoorXsKa
import Derived.Test.YtpdoonofipcbeaaDoorXsMC
import Derived.Test.YtpdoonofipcbeaaDoorXsQc
import Derived.Test.YtpdoonofipcbeaaDoorXsEq
import Derived.WalkSmall
import Derived.Deep.Cut
import Derived.Deep.Light
import Derived.Test.YtpdoonofipcbeaaDoorXsKc
import Derived.Test.YtpdoonofipcbeaaDoorXsMG
import Derived.Test.YtpdoonofipcbeaaDoorXsML
import Derived.Test.YtpdoonofipcbeaaDoorXsMJ
import Derived.Deep.OwnRows
namespace Go.Proofs.YtpdoonofipcbeaaDoor
open Go.RowKit Go.Sort
set_option linter.unusedVariables false
abbrev FA (g : Nat) : Value := .func (.func 53) #[] #[.pointer (some ⟨g, 0, none⟩)]
abbrev FB (g : Nat) : Value := .func (.func 55) #[] #[.pointer (some ⟨g, 0, none⟩)]
set_option maxRecDepth 100000 in
theorem above_ex (bd : Nat) (w : World) : Calls Tryd.prog 30 #[U bd] w fun e w' => (∃ g, e = .returned (FA g) ∧ HasRow w' g (Ar bd)) ∧ Below w.heap.size w w' := by
  go_enter Tryd.func30, Tryd.ntmps30
  go_wp2
  go_ret
  exact ⟨⟨_, rfl, HasRow.last rfl⟩, bel_alloc (Below.refl _ _) _⟩
set_option maxRecDepth 100000 in
theorem below_ex (bd : Nat) (w : World) : Calls Tryd.prog 32 #[U bd] w fun e w' => (∃ g, e = .returned (FB g) ∧ HasRow w' g (Ar bd)) ∧ Below w.heap.size w w' := by
  go_enter Tryd.func32, Tryd.ntmps32
  go_wp2
  go_ret
  exact ⟨⟨_, rfl, HasRow.last rfl⟩, bel_alloc (Below.refl _ _) _⟩
/-- What a closure tells of a number. -/
abbrev Asks (f k g bd : Nat) (x : Bool) : Prop := ∀ w, HasRow w g (Ar bd) → Calls Tryd.prog f #[U k, .pointer (some ⟨g, 0, none⟩)] w fun e w' => e = .returned (.bool x) ∧ Below w.heap.size w w'
set_option maxRecDepth 100000 in
set_option maxHeartbeats 4000000 in
theorem passes_raw (k sb g1 g2 b1 b2 : Nat) (x1 x2 : Bool) (h1 : Asks 53 k g1 b1 x1) (h2 : Asks 55 k g2 b2 x2) (w : World) (hs : HasRow w sb #[FA g1, FB g2]) (hg1 : HasRow w g1 (Ar b1)) (hg2 : HasRow w g2 (Ar b2)) :
    Calls Tryd.prog 29 #[U k, .slice (some ⟨sb, 0, none⟩) 2 2] w fun e w' => e = .returned (.bool (x1 && x2)) ∧ Below w.heap.size w w' := by
  have H1 : Hid _ := h1
  have H2 : Hid _ := h2
  have HS : Hid (HasRow w sb #[FA g1, FB g2]) := hs
  have G1 : Hid (HasRow w g1 (Ar b1)) := hg1
  have G2 : Hid (HasRow w g2 (Ar b2)) := hg2
  clear h1 h2 hs hg1 hg2
  have hlt := HS.out.lt
  have c0 : w.cell? ⟨sb, 0, none⟩ = some (FA g1) := HasRow.cell HS.out 0
  go_enter Tryd.func29, Tryd.ntmps29
  go_wp2
  refine wp_loop_rounds 3 ?_
  rw [rounds_succ]
  go_wp2_with fail
  refine (H1.out _ (HasRow.old G1.out)).mono ?_
  rintro e1 w1 ⟨rfl, hb1⟩
  have B1 : Hid (Below w.heap.size w w1) := (bel_alloc (Below.refl _ _) _).trans (hb1.mono (by simp))
  have K1 : Hid (HasRow w1 w.heap.size (Ar k)) := HasRow.below (HasRow.last rfl) hb1
  clear hb1 c0
  have c1 : w1.cell? ⟨sb, 1, none⟩ = some (FB g2) := HasRow.cell (HS.out.below B1.out) 1
  have k0 : w1.cell? ⟨w.heap.size, 0, none⟩ = some (B (l0 k)) := HasRow.cell K1.out 0
  have k1 : w1.cell? ⟨w.heap.size, 1, none⟩ = some (B (l1 k)) := HasRow.cell K1.out 1
  have k2 : w1.cell? ⟨w.heap.size, 2, none⟩ = some (B (l2 k)) := HasRow.cell K1.out 2
  have k3 : w1.cell? ⟨w.heap.size, 3, none⟩ = some (B (l3 k)) := HasRow.cell K1.out 3
  cases x1 with
  | false =>
    go_wp2
    go_ret
    exact ⟨rfl, B1.out⟩
  | true =>
    go_wp2
    rw [rounds_succ]
    go_wp2_with fail
    refine (H2.out _ (G2.out.below B1.out)).mono ?_
    rintro e2 w2 ⟨rfl, hb2⟩
    have B2 : Hid (Below w.heap.size w w2) := B1.out.trans (hb2.mono B1.out.size)
    clear hb2 c1 k0 k1 k2 k3
    cases x2 with
    | false =>
      go_wp2
      go_ret
      exact ⟨rfl, B2.out⟩
    | true =>
      go_wp2
      rw [rounds_succ]
      go_wp2
      go_ret
      exact ⟨rfl, B2.out⟩
/-- What is known in Fit's one row of operations. -/
structure CF (w : World) (k on : Nat) (r : Bool) (listed : Array Bool) (vs : Nat → Value) (w' : World) : Prop where
  b : Below w.heap.size w w'
  m : HasRow w' w.heap.size (Ar k)
  c0 : listed.getD 0 false = true → vs 0 = U k
  c1 : listed.getD 1 false = true → vs 1 = U 0
  c2 : listed.getD 2 false = true → ∃ g, vs 2 = FA g ∧ HasRow w' g (Ar 0)
  c3 : listed.getD 3 false = true → vs 3 = U on
  c4 : listed.getD 4 false = true → ∃ g, vs 4 = FB g ∧ HasRow w' g (Ar on)
  c5 : listed.getD 5 false = true → ∃ g g1 g2, vs 5 = .slice (some ⟨g, 0, none⟩) 2 2 ∧ HasRow w' g #[FA g1, FB g2] ∧ HasRow w' g1 (Ar 0) ∧ HasRow w' g2 (Ar on)
  c6 : listed.getD 6 false = true → vs 6 = .bool r
  c7 : listed.getD 7 false = true → vs 7 = .bool r
theorem CF.below {w w' w'' : World} {k on : Nat} {r : Bool} {l : Array Bool} {vs : Nat → Value} (h : CF w k on r l vs w') (hb : Below w'.heap.size w' w'') : CF w k on r l vs w'' :=
  ⟨h.b.trans (hb.mono h.b.size), h.m.below hb, h.c0, h.c1, fun x => by obtain ⟨g, a, c⟩ := h.c2 x; exact ⟨g, a, c.below hb⟩, h.c3, fun x => by obtain ⟨g, a, c⟩ := h.c4 x; exact ⟨g, a, c.below hb⟩,
   fun x => by obtain ⟨g, g1, g2, a, c, d, e⟩ := h.c5 x; exact ⟨g, g1, g2, a, c.below hb, d.below hb, e.below hb⟩, h.c6, h.c7⟩
set_option maxRecDepth 100000 in
set_option maxHeartbeats 4000000 in
theorem fit_raw (k on : Nat) (x1 x2 : Bool) (h0 : Does 31 #[.int .u64 0] (U 0)) (hO : Does 33 #[] (U on)) (h1 : ∀ g, Asks 53 k g 0 x1) (h2 : ∀ g, Asks 55 k g on x2) (w : World) :
    Calls Tryd.prog 11 #[U k] w fun e w' => e = .returned (.bool (x1 && x2)) ∧ Below w.heap.size w w' := by
  have H0 : Hid _ := h0
  have HO : Hid _ := hO
  have H1 : Hid _ := h1
  have H2 : Hid _ := h2
  clear h0 hO h1 h2
  go_enter Tryd.func11, Tryd.ntmps11
  go_upto_region 1 with fail
  refine name_world _ ?_
  intro w1 hw1
  have K1 : Hid (HasRow w1 w.heap.size (Ar k)) := by rw [hw1]; exact HasRow.last rfl
  have B1 : Hid (Below w.heap.size w w1) := by rw [hw1]; exact bel_alloc (Below.refl _ _) _
  clear hw1
  refine wp_region_vals2 (by kernel_rfl) (by kernel_rfl) (by kernel_rfl) (CF w k on (x1 && x2)) ?_ ?_ ?_
  · refine ⟨B1.out.drew, K1.out, ?_, ?_, ?_, ?_, ?_, ?_, ?_, ?_⟩ <;> (intro h; simp [Array.getD] at h)
  · intro listed vs a' w' i o' hs ho hi hF cc
    have hi6 : i < 8 := by have := (Array.getElem?_eq_some_iff.1 ho).1; simpa using this
    have hcase : i = 0 ∨ i = 1 ∨ i = 2 ∨ i = 3 ∨ i = 4 ∨ i = 5 ∨ i = 6 ∨ i = 7 := by omega
    rcases hcase with rfl | rfl | rfl | rfl | rfl | rfl | rfl | rfl
    · simp at ho
      subst ho
      have T : ∀ j, j ≠ 0 → (listed.setIfInBounds 0 true).getD j false = true → listed.getD j false = true := fun j hj h => (done_set h).resolve_left hj
      exact wp_rowA 24 (.tmp 1) rfl w.heap.size ((hF.old (by kernel_rfl)).trans rfl) cc.m Tryd.underlying24 rfl (by kernel_rfl) ⟨_, rfl, ⟨cc.b, cc.m, fun _ => rfl, fun h => cc.c1 (T 1 (by decide) h), fun h => cc.c2 (T 2 (by decide) h), fun h => cc.c3 (T 3 (by decide) h), fun h => cc.c4 (T 4 (by decide) h), fun h => cc.c5 (T 5 (by decide) h), fun h => cc.c6 (T 6 (by decide) h), fun h => cc.c7 (T 7 (by decide) h)⟩⟩
    · simp at ho
      subst ho
      have T : ∀ j, j ≠ 1 → (listed.setIfInBounds 1 true).getD j false = true → listed.getD j false = true := fun j hj h => (done_set h).resolve_left hj
      refine wp_callF (f := 31) (args := #[.int .u64 0]) (v := U 0) (by simp [execOp_call_go, go_sem]) (H0.out w') ?_
      intro w'' hb''
      have c2 := cc.below hb''
      exact ⟨_, rfl, ⟨c2.b, c2.m, fun h => c2.c0 (T 0 (by decide) h), fun _ => rfl, fun h => c2.c2 (T 2 (by decide) h), fun h => c2.c3 (T 3 (by decide) h), fun h => c2.c4 (T 4 (by decide) h), fun h => c2.c5 (T 5 (by decide) h), fun h => c2.c6 (T 6 (by decide) h), fun h => c2.c7 (T 7 (by decide) h)⟩⟩
    · simp at ho
      subst ho
      have T : ∀ j, j ≠ 2 → (listed.setIfInBounds 2 true).getD j false = true → listed.getD j false = true := fun j hj h => (done_set h).resolve_left hj
      have hv := ((hF.new (t := 4) (i := 1) (by kernel_rfl) (by simp) (waits_done (i := 2) (j := 1) (by kernel_rfl) hi)).trans (cc.c1 (waits_done (i := 2) (j := 1) (by kernel_rfl) hi)))
      unfold Oper.wp
      rw [show (execOp a'.eval _).run Tryd.prog w' = .ok (.enter 30 #[U 0]) w' from by simp [execOp_call_go, ev hv, go_sem], Oper.upon_enter]
      refine (above_ex 0 w').mono ?_
      rintro e7 w'' ⟨⟨g, rfl, gr⟩, hb''⟩
      have c2 := cc.below hb''
      exact ⟨FA g, rfl, ⟨c2.b, c2.m, fun h => c2.c0 (T 0 (by decide) h), fun h => c2.c1 (T 1 (by decide) h), fun _ => ⟨g, rfl, gr⟩, fun h => c2.c3 (T 3 (by decide) h), fun h => c2.c4 (T 4 (by decide) h), fun h => c2.c5 (T 5 (by decide) h), fun h => c2.c6 (T 6 (by decide) h), fun h => c2.c7 (T 7 (by decide) h)⟩⟩
    · simp at ho
      subst ho
      have T : ∀ j, j ≠ 3 → (listed.setIfInBounds 3 true).getD j false = true → listed.getD j false = true := fun j hj h => (done_set h).resolve_left hj
      refine wp_callF (f := 33) (args := #[]) (v := U on) (by simp [execOp_call_go, go_sem]) (HO.out w') ?_
      intro w'' hb''
      have c2 := cc.below hb''
      exact ⟨_, rfl, ⟨c2.b, c2.m, fun h => c2.c0 (T 0 (by decide) h), fun h => c2.c1 (T 1 (by decide) h), fun h => c2.c2 (T 2 (by decide) h), fun _ => rfl, fun h => c2.c4 (T 4 (by decide) h), fun h => c2.c5 (T 5 (by decide) h), fun h => c2.c6 (T 6 (by decide) h), fun h => c2.c7 (T 7 (by decide) h)⟩⟩
    · simp at ho
      subst ho
      have T : ∀ j, j ≠ 4 → (listed.setIfInBounds 4 true).getD j false = true → listed.getD j false = true := fun j hj h => (done_set h).resolve_left hj
      have hv := ((hF.new (t := 6) (i := 3) (by kernel_rfl) (by simp) (waits_done (i := 4) (j := 3) (by kernel_rfl) hi)).trans (cc.c3 (waits_done (i := 4) (j := 3) (by kernel_rfl) hi)))
      unfold Oper.wp
      rw [show (execOp a'.eval _).run Tryd.prog w' = .ok (.enter 32 #[U on]) w' from by simp [execOp_call_go, ev hv, go_sem], Oper.upon_enter]
      refine (below_ex on w').mono ?_
      rintro e7 w'' ⟨⟨g, rfl, gr⟩, hb''⟩
      have c2 := cc.below hb''
      exact ⟨FB g, rfl, ⟨c2.b, c2.m, fun h => c2.c0 (T 0 (by decide) h), fun h => c2.c1 (T 1 (by decide) h), fun h => c2.c2 (T 2 (by decide) h), fun h => c2.c3 (T 3 (by decide) h), fun _ => ⟨g, rfl, gr⟩, fun h => c2.c5 (T 5 (by decide) h), fun h => c2.c6 (T 6 (by decide) h), fun h => c2.c7 (T 7 (by decide) h)⟩⟩
    · simp at ho
      subst ho
      have T : ∀ j, j ≠ 5 → (listed.setIfInBounds 5 true).getD j false = true → listed.getD j false = true := fun j hj h => (done_set h).resolve_left hj
      obtain ⟨g1, e1, r1⟩ := cc.c2 (waits_done (i := 5) (j := 2) (by kernel_rfl) hi)
      obtain ⟨g2, e2, r2⟩ := cc.c4 (waits_done (i := 5) (j := 4) (by kernel_rfl) hi)
      have hv1 := ((hF.new (t := 5) (i := 2) (by kernel_rfl) (by simp) (waits_done (i := 5) (j := 2) (by kernel_rfl) hi)).trans e1)
      have hv2 := ((hF.new (t := 7) (i := 4) (by kernel_rfl) (by simp) (waits_done (i := 5) (j := 4) (by kernel_rfl) hi)).trans e2)
      have hb'' : Below w'.heap.size w' (w'.alloc (.cells #[FA g1, FB g2] 53)) := bel_alloc (Below.refl _ _) _
      have c2 := cc.below hb''
      refine wp_valF (v := .slice (some ⟨w'.heap.size, 0, none⟩) 2 2) (w1 := w'.alloc (.cells #[FA g1, FB g2] 53)) (by simp [execOp, ev hv1, ev hv2, go_sem]) ?_
      exact ⟨_, rfl, ⟨c2.b, c2.m, fun h => c2.c0 (T 0 (by decide) h), fun h => c2.c1 (T 1 (by decide) h), fun h => c2.c2 (T 2 (by decide) h), fun h => c2.c3 (T 3 (by decide) h), fun h => c2.c4 (T 4 (by decide) h), fun _ => ⟨_, g1, g2, rfl, HasRow.last rfl, r1.below hb'', r2.below hb''⟩, fun h => c2.c6 (T 6 (by decide) h), fun h => c2.c7 (T 7 (by decide) h)⟩⟩
    · simp at ho
      subst ho
      have T : ∀ j, j ≠ 6 → (listed.setIfInBounds 6 true).getD j false = true → listed.getD j false = true := fun j hj h => (done_set h).resolve_left hj
      obtain ⟨g, g1, g2, e5, r0, r1, r2⟩ := cc.c5 (waits_done (i := 6) (j := 5) (by kernel_rfl) hi)
      have hv0 := ((hF.new (t := 3) (i := 0) (by kernel_rfl) (by simp) (waits_done (i := 6) (j := 0) (by kernel_rfl) hi)).trans (cc.c0 (waits_done (i := 6) (j := 0) (by kernel_rfl) hi)))
      have hv5 := ((hF.new (t := 8) (i := 5) (by kernel_rfl) (by simp) (waits_done (i := 6) (j := 5) (by kernel_rfl) hi)).trans e5)
      refine wp_callF (f := 29) (args := #[U k, .slice (some ⟨g, 0, none⟩) 2 2]) (v := .bool (x1 && x2)) (by simp [execOp_call_go, ev hv0, ev hv5, go_sem]) (passes_raw k g g1 g2 0 on x1 x2 (H1.out g1) (H2.out g2) w' r0 r1 r2) ?_
      intro w'' hb''
      have c2 := cc.below hb''
      exact ⟨_, rfl, ⟨c2.b, c2.m, fun h => c2.c0 (T 0 (by decide) h), fun h => c2.c1 (T 1 (by decide) h), fun h => c2.c2 (T 2 (by decide) h), fun h => c2.c3 (T 3 (by decide) h), fun h => c2.c4 (T 4 (by decide) h), fun h => c2.c5 (T 5 (by decide) h), fun _ => rfl, fun h => c2.c7 (T 7 (by decide) h)⟩⟩
    · simp at ho
      subst ho
      have T : ∀ j, j ≠ 7 → (listed.setIfInBounds 7 true).getD j false = true → listed.getD j false = true := fun j hj h => (done_set h).resolve_left hj
      have hv := ((hF.new (t := 9) (i := 6) (by kernel_rfl) (by simp) (waits_done (i := 7) (j := 6) (by kernel_rfl) hi)).trans (cc.c6 (waits_done (i := 7) (j := 6) (by kernel_rfl) hi)))
      refine wp_valF (v := .bool (x1 && x2)) (w1 := w') (by simp [execOp, ev hv, go_sem]) ?_
      exact ⟨_, rfl, ⟨cc.b, cc.m, fun h => cc.c0 (T 0 (by decide) h), fun h => cc.c1 (T 1 (by decide) h), fun h => cc.c2 (T 2 (by decide) h), fun h => cc.c3 (T 3 (by decide) h), fun h => cc.c4 (T 4 (by decide) h), fun h => cc.c5 (T 5 (by decide) h), fun h => cc.c6 (T 6 (by decide) h), fun _ => rfl⟩⟩
  intro listed vs a' w5 hd hF cc
  have B5 : Hid (Below w.heap.size w w5) := cc.b
  have e0 := cc.c0 (hd 0 (by decide))
  have e1 := cc.c1 (hd 1 (by decide))
  obtain ⟨g2, e2, _⟩ := cc.c2 (hd 2 (by decide))
  have e3 := cc.c3 (hd 3 (by decide))
  obtain ⟨g4, e4, _⟩ := cc.c4 (hd 4 (by decide))
  obtain ⟨g5, _, _, e5, _⟩ := cc.c5 (hd 5 (by decide))
  have e6 := cc.c6 (hd 6 (by decide))
  have e7 := cc.c7 (hd 7 (by decide))
  have eZ : a' = { tmps := #[U k, .pointer (some ⟨w.heap.size, 0, none⟩), .bool (x1 && x2), U k, U 0, FA g2, U on, FB g4, .slice (some ⟨g5, 0, none⟩) 2 2, .bool (x1 && x2)], defers := [] } := by
    obtain ⟨vv, hvs⟩ : ∃ vv : Nat → Value, vs = fun j => if j = 0 then U k else if j = 1 then U 0 else if j = 2 then FA g2 else if j = 3 then U on else if j = 4 then FB g4 else if j = 5 then (.slice (some ⟨g5, 0, none⟩) 2 2) else if j = 6 then .bool (x1 && x2) else if j = 7 then .bool (x1 && x2) else vv j := by
      refine ⟨vs, ?_⟩
      funext j
      by_cases h0 : j = 0
      · rw [if_pos h0, h0, e0]
      by_cases h1 : j = 1
      · rw [if_neg h0, if_pos h1, h1, e1]
      by_cases h2 : j = 2
      · rw [if_neg h0, if_neg h1, if_pos h2, h2, e2]
      by_cases h3 : j = 3
      · rw [if_neg h0, if_neg h1, if_neg h2, if_pos h3, h3, e3]
      by_cases h4 : j = 4
      · rw [if_neg h0, if_neg h1, if_neg h2, if_neg h3, if_pos h4, h4, e4]
      by_cases h5 : j = 5
      · rw [if_neg h0, if_neg h1, if_neg h2, if_neg h3, if_neg h4, if_pos h5, h5, e5]
      by_cases h6 : j = 6
      · rw [if_neg h0, if_neg h1, if_neg h2, if_neg h3, if_neg h4, if_neg h5, if_pos h6, h6, e6]
      by_cases h7 : j = 7
      · rw [if_neg h0, if_neg h1, if_neg h2, if_neg h3, if_neg h4, if_neg h5, if_neg h6, if_pos h7, h7, e7]
      rw [if_neg h0, if_neg h1, if_neg h2, if_neg h3, if_neg h4, if_neg h5, if_neg h6, if_neg h7]
    clear e0 e1 e2 e3 e4 e5 e6 e7 cc
    subst hvs
    exact (hF.all hd).trans (by kernel_rfl)
  subst eZ
  clear hF cc hd e0 e1 e2 e3 e4 e5 e6 e7
  go_wp2
  exact bodyPost_ret (v := .bool (x1 && x2)) (by simp [results, Tryd.results11, go_sem]) rfl ⟨rfl, B5.out⟩
theorem ask_above (k g : Nat) (hk : k < W) : Asks 53 k g 0 (decide (0 < cmpN k 0)) := fun w h => above1_raw k g 0 _ (fun w => cmp_any k 0 hk (by decide +kernel) w) w h
theorem ask_below (k g on : Nat) (hk : k < W) (ho : on < W) : Asks 55 k g on (decide (cmpN k on < 0)) := fun w h => below1_raw k g on _ (fun w => cmp_any k on hk ho w) w h
end Go.Proofs.YtpdoonofipcbeaaDoor
namespace Go.Proofs.YtpdoonofipcbeaaDoor
open Go.RowKit Go.Sort
set_option linter.unusedVariables false
theorem cmp_pos (a b : Nat) : decide (0 < cmpN a b) = decide (b < a) := by
  unfold cmpN
  by_cases h1 : a < b
  · simp [h1]; omega
  · by_cases h2 : b < a
    · simp [h1, h2]
    · simp [h1, h2]
def fitB (k : Nat) : Bool := decide (0 < k) && decide (k < On)
theorem fit_any (k : Nat) (hk : k < W) : Does 11 #[U k] (.bool (fitB k)) := by
  have h := fun w => fit_raw k On _ _ (fun w => of_any 0 (by decide) w) order_any (fun g => ask_above k g hk) (fun g => ask_below k g On hk On_W) w
  rw [cmp_pos, cmp_neg] at h
  exact h
theorem U_small (n : Nat) (h : n < M) : U n = .agg #[B n, .int .u64 0, .int .u64 0, .int .u64 0] := by
  have h0 : l0 n = n := by unfold l0; exact Nat.mod_eq_of_lt h
  have h1 : l1 n = 0 := by unfold l1; rw [Nat.div_eq_of_lt h]; rfl
  have h2 : l2 n = 0 := by unfold l2; rw [Nat.div_eq_of_lt (Nat.lt_of_lt_of_le h (by decide +kernel))]; rfl
  have h3 : l3 n = 0 := by unfold l3; rw [Nat.div_eq_of_lt (Nat.lt_of_lt_of_le h (by decide +kernel))]; rfl
  unfold U U4
  rw [h0, h1, h2, h3]
  rfl
theorem M_W : M < W := by decide +kernel
theorem M1_W : M + 1 < W := by decide +kernel
theorem M_On : M < On := by decide +kernel
theorem add1W (n : Nat) (h : n < M) : addW n 1 = n + 1 := by
  unfold addW
  exact Nat.mod_eq_of_lt (by have := M1_W; omega)
theorem small_any (n : Nat) (h : n < M) : Does 13 #[B n] (U (n + 1)) := by
  have hA : Does 34 #[U n, U 1] (.tuple #[U (addW n 1), .bool (ovW n 1)]) := fun w => add_any n 1 (Nat.lt_trans h M_W) W1 w
  rw [add1W n h] at hA
  exact fun w => small_raw n n 1 _ _ (fun w => of_any n h w) (fun w => of_any 1 (by decide) w) hA w
set_option maxRecDepth 100000 in
theorem base_raw (w : World) : Calls Tryd.prog 26 #[] w fun e w' => e = .returned GV ∧ Below w.heap.size w w' := by
  go_enter Tryd.func26, Tryd.ntmps26
  go_wp2
  exact bodyPost_ret (v := GV) (resA (p := 0) (ty := 26) rfl (g := w.heap.size) rfl (HasRow.last rfl) Tryd.underlying26 rfl (by kernel_rfl)) rfl ⟨rfl, bel_alloc (Below.refl _ _) _⟩
theorem base_any : Does 26 #[] (A9 Gx Gy false) := by rw [← GV_eq]; exact fun w => base_raw w
/-- A point's address. -/
def adr (x y : Nat) (n : Bool) : ByteArray := if n = true then { data := #[] } else (told (spg (blks (strN x ++ strN y)))).extract 12 32
theorem slice_run (d : ByteArray) (h : d.size = 32) (w : World) : (Instr.slice 9 (.string d) (some (.int .i64 12)) none none).run Tryd.prog w = .ok (.string (d.extract 12 32)) w := by
  simp [Instr.slice, go_sem, h]
theorem addr_any (x y : Nat) (n : Bool) : DoesT 16 #[A9 x y n] (.string (adr x y n)) := by
  cases n with
  | true => exact fun w ht => addr_none x y w ht
  | false =>
    have hs : DoesT 38 #[.string (strN x ++ strN y)] (.string (told (spg (blks (strN x ++ strN y))))) := fun w ht => sum_any _ w ht
    exact fun w ht => addr_some x y (strN x) (strN y) _ _ (by rw [strN_size, strN_size]; decide) rfl (by rw [told_size]; rfl) (slice_run _ (told_size _)) (fun w => bytes_any x w) (fun w => bytes_any y w) hs w ht
theorem g_bytes : strN Gx ++ strN Gy = gB := by kernel_rfl
theorem eq9_same (x y : Nat) (n : Bool) (hx : x < W) (hy : y < W) (w : World) : (Op.equalIn 10000 26 (A9 x y n) (A9 x y n)).run Tryd.prog w = .ok true w := by
  rw [run_eq9 _ _ _ _ _ _ hx hy hx hy]; simp
theorem eqP_same (P : Pt) (w : World) : (Op.equalIn 10000 26 (A9 (pX P) (pY P) (pN P)) (A9 (pX P) (pY P) (pN P))).run Tryd.prog w = .ok true w := eq9_same _ _ _ (pX_lt P) (pY_lt P) w
theorem fit_1 : fitB 1 = true := by decide +kernel
theorem fit_lt {k : Nat} (h : fitB k = true) : 0 < k ∧ k < On := by
  unfold fitB at h
  simpa using h
theorem fit_of {k : Nat} (h1 : 0 < k) (h2 : k < On) : fitB k = true := by unfold fitB; simp [h1, h2]
theorem fit_small (n : Nat) (h : n < M) : fitB (n + 1) = true := fit_of (by omega) (by have := M_On; omega)
section
variable [NeZero Pp]
theorem vG : vP Gp' = A9 Gx Gy false := by show A9 (cf Gx).val (cf Gy).val false = _; rw [val_cf Gx_lt, val_cf Gy_lt]
/-- A key's point, or the zero answer. -/
def pubX (k : Nat) : Nat := if fitB k = true then pX (mulP k Gp') else 0
def pubY (k : Nat) : Nat := if fitB k = true then pY (mulP k Gp') else 0
def pubN (k : Nat) : Bool := if fitB k = true then pN (mulP k Gp') else false
def pubE (k : Nat) : Int := if fitB k = true then 0 else 5
theorem pub_any (k : Nat) (hk : k < W) : Does 7 #[U k] (.tuple #[A9 (pubX k) (pubY k) (pubN k), .int .i64 (pubE k)]) := by
  have hf := fit_any k hk
  unfold pubX pubY pubN pubE
  cases h : fitB k with
  | false =>
    rw [h] at hf
    exact fun w => public_no k hf w
  | true =>
    rw [h] at hf
    have hM := mul_any G_on k hk
    rw [vG, vP_eq] at hM
    exact fun w => public_yes k Gx Gy _ _ false _ hf base_any hM w
def whoS (k : Nat) : ByteArray := if fitB k = true then adr (pX (mulP k Gp')) (pY (mulP k Gp')) (pN (mulP k Gp')) else { data := #[] }
theorem pub_yes {k : Nat} (hk : k < W) (h : fitB k = true) : Does 7 #[U k] (.tuple #[A9 (pX (mulP k Gp')) (pY (mulP k Gp')) (pN (mulP k Gp')), .int .i64 0]) := by
  have hp := pub_any k hk
  unfold pubX pubY pubN pubE at hp
  rw [h] at hp
  exact hp
theorem pub_no {k : Nat} (hk : k < W) (h : fitB k = false) : Does 7 #[U k] (.tuple #[A9 0 0 false, .int .i64 5]) := by
  have hp := pub_any k hk
  unfold pubX pubY pubN pubE at hp
  rw [h] at hp
  exact hp
theorem who_any (k : Nat) (hk : k < W) : DoesT 9 #[U k] (.tuple #[.string (whoS k), .int .i64 (pubE k)]) := by
  unfold whoS pubE
  cases h : fitB k with
  | false => exact fun w ht => who_no k (pub_no hk h) w ht
  | true => exact fun w ht => who_yes k _ _ _ _ (pub_yes hk h) (addr_any _ _ _) w ht
theorem who_1 : whoS 1 = gA := by
  unfold whoS
  rw [fit_1, if_pos rfl, mulP_one G_on]
  show adr (cf Gx).val (cf Gy).val false = gA
  rw [val_cf Gx_lt, val_cf Gy_lt]
  show (told (spg (blks (strN Gx ++ strN Gy)))).extract 12 32 = gA
  rw [g_bytes]
  exact g_sum
theorem awake_any : DoesT 18 #[] (.bool true) := by
  have h := who_any 1 W1
  have e : pubE 1 = 0 := by unfold pubE; rw [fit_1]; rfl
  rw [who_1, e, U_small 1 (by decide)] at h
  exact fun w ht => awake_raw h w ht
end
end Go.Proofs.YtpdoonofipcbeaaDoor
