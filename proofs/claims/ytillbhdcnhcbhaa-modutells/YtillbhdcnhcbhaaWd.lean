/- Contract of Wide. -/
import Derived.Test.YtillbhdcnhcbhaaPb
import Derived.Test.YtillbhdcnhcbhaaSp
import Derived.Test.YtillbhdcnhcbhaaJo
import Derived.Test.YtillbhdcnhcbhaaRv
import Derived.Deep.DeepCutAuto
import Derived.Deep.Light
import Derived.BigCall
namespace Go.Proofs.Ytillbhdcnhcbhaa
open Go.RowKit Go.Sort
set_option linter.unusedVariables false
attribute [local go_sem] setCell_drewN

abbrev z16 : Array Value := #[.int .u32 0, .int .u32 0, .int .u32 0, .int .u32 0, .int .u32 0, .int .u32 0, .int .u32 0, .int .u32 0, .int .u32 0, .int .u32 0, .int .u32 0, .int .u32 0, .int .u32 0, .int .u32 0, .int .u32 0, .int .u32 0]
theorem z16_ag : z16 = ag .u32 16 (fun _ => 0) := rfl
abbrev z8 : Array Value := #[.int .u32 0, .int .u32 0, .int .u32 0, .int .u32 0, .int .u32 0, .int .u32 0, .int .u32 0, .int .u32 0]
theorem num_mac {c x y f : Nat} (hc : c < D) (hx : x < D) (hy : y < D) (hf : f < D) :
    IntKind.u64.wrap ((c : Int) + IntKind.u64.wrap (IntKind.u64.wrap (IntKind.u64.wrap (x : Int) * IntKind.u64.wrap (y : Int)) + IntKind.u64.wrap (f : Int))) = ((c + (x * y + f) : Nat) : Int) ∧ (c + (x * y + f)) / D < D := by
  have h := digit_mul hx hy
  have e1 : IntKind.u64.wrap (x : Int) = (x : Int) := by simp only [IntKind.wrap_u64]; unfold D at *; omega
  have e2 : IntKind.u64.wrap (y : Int) = (y : Int) := by simp only [IntKind.wrap_u64]; unfold D at *; omega
  rw [e1, e2, show (x : Int) * (y : Int) = ((x * y : Nat) : Int) by simp]
  generalize x * y = p at *
  simp only [IntKind.wrap_u64]
  unfold D at *
  refine ⟨by omega, by omega⟩
structure MK (f0 f' X Y : Nat → Nat) (j l c : Nat) : Prop where
  hc : c < D
  hf : ∀ i, i < 16 → f' i < D
  ho : ∀ i, i < j ∨ j + l ≤ i → f' i = f0 i
  hv : vl f' j l + c * D ^ l = vl f0 j l + X j * vl Y 0 l
theorem MK.start {f X Y : Nat → Nat} {j : Nat} (hf : ∀ i, i < 16 → f i < D) : MK f f X Y j 0 0 := ⟨D_pos, hf, fun _ _ => rfl, by simp [vl]⟩
theorem MK.step {f0 f' X Y : Nat → Nat} {j l c : Nat} (h : MK f0 f' X Y j l c) (hc' : (c + (X j * Y l + f' (j + l))) / D < D) :
    MK f0 (upd f' (j + l) ((c + (X j * Y l + f' (j + l))) % D)) X Y j (l + 1) ((c + (X j * Y l + f' (j + l))) / D) where
  hc := hc'
  hf := upd_lt h.hf (Nat.mod_lt _ D_pos)
  ho i hi := by rw [upd_other _ _ _ (by omega)]; exact h.ho i (by omega)
  hv := by
    have e0 := h.ho (j + l) (by omega)
    have hv := h.hv
    rw [vl_upd_top, vl, vl, Nat.zero_add, Nat.pow_succ, ← e0]
    have hm := Nat.div_add_mod (c + (X j * Y l + f' (j + l))) D
    generalize (c + (X j * Y l + f' (j + l))) / D = c' at *
    generalize (c + (X j * Y l + f' (j + l))) % D = r at *
    generalize D ^ l = Pw at *
    have e1 : vl f' j l + r * Pw + c' * (Pw * D) = vl f' j l + (D * c' + r) * Pw := by grind
    rw [e1, hm]
    have e2 : vl f' j l + (c + (X j * Y l + f' (j + l))) * Pw = (vl f' j l + c * Pw) + (X j * Y l + f' (j + l)) * Pw := by grind
    rw [e2, hv]; grind
structure OK (f X Y : Nat → Nat) (j : Nat) : Prop where
  hf : ∀ i, i < 16 → f i < D
  hz : ∀ i, j + 8 ≤ i → f i = 0
  hv : vl f 0 (j + 8) = vl X 0 j * vl Y 0 8
theorem OK.start (X Y : Nat → Nat) : OK (fun _ => 0) X Y 0 := ⟨fun _ _ => D_pos, fun _ _ => rfl, by rw [vl_of_zero (fun _ _ => rfl)]; simp [vl]⟩
theorem OK.step {f f' X Y : Nat → Nat} {j c : Nat} (h : OK f X Y j) (hj : j < 8) (hm : MK f f' X Y j 8 c) : OK (upd f' (j + 8) c) X Y (j + 1) where
  hf := upd_lt hm.hf hm.hc
  hz i hi := by rw [upd_other _ _ _ (by omega), hm.ho i (by omega), h.hz i (by omega)]
  hv := by
    have e1 : vl (upd f' (j + 8) c) 0 (j + 1 + 8) = vl (upd f' (j + 8) c) 0 j + D ^ j * vl (upd f' (j + 8) c) j 9 := by
      rw [show j + 1 + 8 = j + 9 by omega, vl_add, Nat.zero_add]
    have e2 : vl (upd f' (j + 8) c) 0 j = vl f 0 j := vl_congr fun i hi => by rw [upd_other _ _ _ (by omega), hm.ho _ (by omega)]
    have e3 : vl (upd f' (j + 8) c) j 9 = vl f' j 8 + c * D ^ 8 := vl_upd_top f' j 8 c
    have e4 := vl_add f 0 j 8
    rw [Nat.zero_add, h.hv] at e4
    have eX : vl X 0 (j + 1) = vl X 0 j + X j * D ^ j := by rw [vl, Nat.zero_add]
    rw [e1, e2, e3, hm.hv, Nat.mul_add, ← Nat.add_assoc, ← e4, eX]
    clear e1 e2 e3 e4 eX
    generalize vl X 0 j = A
    generalize vl Y 0 8 = Bb
    generalize D ^ j = Pw
    generalize X j = x
    clear hm h
    grind

/-- What holds in the region that lays the two factors' digits. -/
structure CX (W0 : World) (u0 u1 : Value) (X Y : Nat → Nat) (listed : Array Bool) (vs : Nat → Value) (w' : World) : Prop where
  b : Below W0.heap.size W0 w'
  c0 : listed.getD 0 false = true → vs 0 = u0
  c1 : listed.getD 1 false = true → vs 1 = L8 X
  c2 : listed.getD 2 false = true → vs 2 = u1
  c3 : listed.getD 3 false = true → vs 3 = L8 Y
  c4 : listed.getD 4 false = true → ∃ g c, vs 4 = .pointer (some ⟨g, 0, none⟩) ∧ W0.heap.size ≤ g ∧ HasRow w' g c ∧ c.size = 8 ∧ (listed.getD 6 false = true → c = ag .u32 8 X)
  c5 : listed.getD 5 false = true → ∃ g c, vs 5 = .pointer (some ⟨g, 0, none⟩) ∧ W0.heap.size ≤ g ∧ HasRow w' g c ∧ c.size = 8 ∧ (listed.getD 7 false = true → c = ag .u32 8 Y)
  c45 : listed.getD 4 false = true → listed.getD 5 false = true → vs 4 ≠ vs 5
  c64 : listed.getD 6 false = true → listed.getD 4 false = true
  c75 : listed.getD 7 false = true → listed.getD 5 false = true
/-- What holds in the region that hands the two halves back. -/
structure CY (w : World) (bo r4 r5 : Nat) (f : Nat → Nat) (hi lo : Nat) (listed : Array Bool) (vs : Nat → Value) (w' : World) : Prop where
  b : Below w.heap.size w w'
  o : HasRow w' bo (ag .u32 16 f)
  c0 : listed.getD 0 false = true → vs 0 = .slice (some ⟨bo, 8, none⟩) 8 8
  c1 : listed.getD 1 false = true → vs 1 = U hi
  c2 : listed.getD 2 false = true → vs 2 = .slice (some ⟨bo, 0, none⟩) 8 16
  c3 : listed.getD 3 false = true → vs 3 = U lo
  c4 : ∃ c, HasRow w' r4 c ∧ c.size = 4 ∧ (listed.getD 4 false = true → .agg c = U hi)
  c5 : ∃ c, HasRow w' r5 c ∧ c.size = 4 ∧ (listed.getD 5 false = true → .agg c = U lo)

set_option maxRecDepth 100000 in
set_option maxHeartbeats 4000000 in
theorem wide_raw (a0 a1 a2 a3 b0 b1 b2 b3 : Nat) (X Y : Nat → Nat) (hX : ∀ i, i < 8 → X i < D) (hY : ∀ i, i < 8 → Y i < D)
    (sa : Hid (∀ w, Calls Try.prog 49 #[U4 a0 a1 a2 a3] w fun e w' => e = .returned (L8 X) ∧ Below w.heap.size w w'))
    (sb : Hid (∀ w, Calls Try.prog 49 #[U4 b0 b1 b2 b3] w fun e w' => e = .returned (L8 Y) ∧ Below w.heap.size w w'))
    (w : World) :
    Calls Try.prog 33 #[U4 a0 a1 a2 a3, U4 b0 b1 b2 b3] w fun e w' =>
      (∃ f, OK f X Y 8 ∧ e = .returned (.tuple #[U (vl (fun i => f (8 + i)) 0 8), U (vl f 0 8)])) ∧ Below w.heap.size w w' := by
  have GX : Hid _ := hX
  have GY : Hid _ := hY
  clear hX hY
  go_enter Try.func33, Try.ntmps33
  go_wp2
  go_cut [6, 7] (fun s6 s7 w' => ∃ bx by', s6 = .pointer (some ⟨bx, 0, none⟩) ∧ s7 = .pointer (some ⟨by', 0, none⟩) ∧ bx < w'.heap.size ∧ by' < w'.heap.size ∧ (∀ i, i < 8 → w'.cell? ⟨bx, i, none⟩ = some (.int .u32 (X i : Nat))) ∧ (∀ i, i < 8 → w'.cell? ⟨by', i, none⟩ = some (.int .u32 (Y i : Nat))) ∧ Old ((((w.alloc (Obj.cells #[B a0, B a1, B a2, B a3] 24)).alloc (Obj.cells #[B b0, B b1, B b2, B b3] 24)).alloc (Obj.cells #[.int .u64 0, .int .u64 0, .int .u64 0, .int .u64 0] 24)).alloc (Obj.cells #[.int .u64 0, .int .u64 0, .int .u64 0, .int .u64 0] 24)) w')
  case first =>
    have r0 : ∀ w', Below ((((w.alloc (Obj.cells #[B a0, B a1, B a2, B a3] 24)).alloc (Obj.cells #[B b0, B b1, B b2, B b3] 24)).alloc (Obj.cells #[.int .u64 0, .int .u64 0, .int .u64 0, .int .u64 0] 24)).alloc (Obj.cells #[.int .u64 0, .int .u64 0, .int .u64 0, .int .u64 0] 24)).heap.size ((((w.alloc (Obj.cells #[B a0, B a1, B a2, B a3] 24)).alloc (Obj.cells #[B b0, B b1, B b2, B b3] 24)).alloc (Obj.cells #[.int .u64 0, .int .u64 0, .int .u64 0, .int .u64 0] 24)).alloc (Obj.cells #[.int .u64 0, .int .u64 0, .int .u64 0, .int .u64 0] 24)) w' → HasRow w' w.heap.size #[B a0, B a1, B a2, B a3] := fun w' hb => (HasRow.old (HasRow.old (HasRow.old (HasRow.last rfl)))).below hb
    have r1 : ∀ w', Below ((((w.alloc (Obj.cells #[B a0, B a1, B a2, B a3] 24)).alloc (Obj.cells #[B b0, B b1, B b2, B b3] 24)).alloc (Obj.cells #[.int .u64 0, .int .u64 0, .int .u64 0, .int .u64 0] 24)).alloc (Obj.cells #[.int .u64 0, .int .u64 0, .int .u64 0, .int .u64 0] 24)).heap.size ((((w.alloc (Obj.cells #[B a0, B a1, B a2, B a3] 24)).alloc (Obj.cells #[B b0, B b1, B b2, B b3] 24)).alloc (Obj.cells #[.int .u64 0, .int .u64 0, .int .u64 0, .int .u64 0] 24)).alloc (Obj.cells #[.int .u64 0, .int .u64 0, .int .u64 0, .int .u64 0] 24)) w' → HasRow w' (w.heap.size + 1) #[B b0, B b1, B b2, B b3] := fun w' hb => (HasRow.old (HasRow.old (HasRow.last (by simp)))).below hb
    generalize ((((w.alloc (Obj.cells #[B a0, B a1, B a2, B a3] 24)).alloc (Obj.cells #[B b0, B b1, B b2, B b3] 24)).alloc (Obj.cells #[.int .u64 0, .int .u64 0, .int .u64 0, .int .u64 0] 24)).alloc (Obj.cells #[.int .u64 0, .int .u64 0, .int .u64 0, .int .u64 0] 24)) = W0 at *
    refine wp_region_vals (by kernel_rfl) (by kernel_rfl) (by kernel_rfl) (CX W0 (U4 a0 a1 a2 a3) (U4 b0 b1 b2 b3) X Y) ?_ ?_ ?_
    · refine ⟨(Below.refl _ _).drew, ?_, ?_, ?_, ?_, ?_, ?_, ?_, ?_, ?_⟩ <;> (intro h; simp [Array.getD] at h)
    · intro listed vs a' w' i o hs ho hi hF cc
      have hi8 : i < 8 := by have := (Array.getElem?_eq_some_iff.1 ho).1; simpa using this
      have hcase : i = 0 ∨ i = 1 ∨ i = 2 ∨ i = 3 ∨ i = 4 ∨ i = 5 ∨ i = 6 ∨ i = 7 := by omega
      rcases hcase with rfl | rfl | rfl | rfl | rfl | rfl | rfl | rfl
      · simp at ho
        subst ho
        have T : ∀ j, j ≠ 0 → (listed.setIfInBounds 0 true).getD j false = true → listed.getD j false = true := fun j hj h => (done_set h).resolve_left hj
        have S : ∀ j, listed.getD j false = true → (listed.setIfInBounds 0 true).getD j false = true := fun j h => done_keep h
        refine wp_rowF 24 (.tmp 2) rfl w.heap.size ((hF.old (by kernel_rfl)).trans rfl) (r0 w' cc.b) rfl Try.underlying24 (by kernel_rfl) ⟨_, rfl, ⟨cc.b, fun _ => rfl, fun h => cc.c1 (T 1 (by decide) h), fun h => cc.c2 (T 2 (by decide) h), fun h => cc.c3 (T 3 (by decide) h), fun h => by obtain ⟨g, c, e, h1, h2, h3, h4⟩ := cc.c4 (T 4 (by decide) h); exact ⟨g, c, e, h1, h2, h3, fun h6 => h4 (T 6 (by decide) h6)⟩, fun h => by obtain ⟨g, c, e, h1, h2, h3, h4⟩ := cc.c5 (T 5 (by decide) h); exact ⟨g, c, e, h1, h2, h3, fun h6 => h4 (T 7 (by decide) h6)⟩, fun h h' => cc.c45 (T 4 (by decide) h) (T 5 (by decide) h'), fun h => S 4 (cc.c64 (T 6 (by decide) h)), fun h => S 5 (cc.c75 (T 7 (by decide) h))⟩⟩
      · simp at ho
        subst ho
        have T : ∀ j, j ≠ 1 → (listed.setIfInBounds 1 true).getD j false = true → listed.getD j false = true := fun j hj h => (done_set h).resolve_left hj
        have S : ∀ j, listed.getD j false = true → (listed.setIfInBounds 1 true).getD j false = true := fun j h => done_keep h
        have hv := ((hF.new (t := 12) (i := 0) (by kernel_rfl) (by simp) (waits_done (i := 1) (j := 0) (by kernel_rfl) hi)).trans (cc.c0 (waits_done (i := 1) (j := 0) (by kernel_rfl) hi)))
        refine wp_callF (f := 49) (args := #[U4 a0 a1 a2 a3]) (v := L8 X) (by simp [execOp_call_go, ev hv, go_sem]) (sa.out w') ?_
        intro w'' hb''
        exact ⟨_, rfl, ⟨cc.b.trans (hb''.mono cc.b.size), fun h => cc.c0 (T 0 (by decide) h), fun _ => rfl, fun h => cc.c2 (T 2 (by decide) h), fun h => cc.c3 (T 3 (by decide) h), fun h => by obtain ⟨g, c, e, h1, h2, h3, h4⟩ := cc.c4 (T 4 (by decide) h); exact ⟨g, c, e, h1, h2.below hb'', h3, fun h6 => h4 (T 6 (by decide) h6)⟩, fun h => by obtain ⟨g, c, e, h1, h2, h3, h4⟩ := cc.c5 (T 5 (by decide) h); exact ⟨g, c, e, h1, h2.below hb'', h3, fun h6 => h4 (T 7 (by decide) h6)⟩, fun h h' => cc.c45 (T 4 (by decide) h) (T 5 (by decide) h'), fun h => S 4 (cc.c64 (T 6 (by decide) h)), fun h => S 5 (cc.c75 (T 7 (by decide) h))⟩⟩
      · simp at ho
        subst ho
        have T : ∀ j, j ≠ 2 → (listed.setIfInBounds 2 true).getD j false = true → listed.getD j false = true := fun j hj h => (done_set h).resolve_left hj
        have S : ∀ j, listed.getD j false = true → (listed.setIfInBounds 2 true).getD j false = true := fun j h => done_keep h
        refine wp_rowF 24 (.tmp 3) rfl (w.heap.size + 1) ((hF.old (by kernel_rfl)).trans rfl) (r1 w' cc.b) rfl Try.underlying24 (by kernel_rfl) ⟨_, rfl, ⟨cc.b, fun h => cc.c0 (T 0 (by decide) h), fun h => cc.c1 (T 1 (by decide) h), fun _ => rfl, fun h => cc.c3 (T 3 (by decide) h), fun h => by obtain ⟨g, c, e, h1, h2, h3, h4⟩ := cc.c4 (T 4 (by decide) h); exact ⟨g, c, e, h1, h2, h3, fun h6 => h4 (T 6 (by decide) h6)⟩, fun h => by obtain ⟨g, c, e, h1, h2, h3, h4⟩ := cc.c5 (T 5 (by decide) h); exact ⟨g, c, e, h1, h2, h3, fun h6 => h4 (T 7 (by decide) h6)⟩, fun h h' => cc.c45 (T 4 (by decide) h) (T 5 (by decide) h'), fun h => S 4 (cc.c64 (T 6 (by decide) h)), fun h => S 5 (cc.c75 (T 7 (by decide) h))⟩⟩
      · simp at ho
        subst ho
        have T : ∀ j, j ≠ 3 → (listed.setIfInBounds 3 true).getD j false = true → listed.getD j false = true := fun j hj h => (done_set h).resolve_left hj
        have S : ∀ j, listed.getD j false = true → (listed.setIfInBounds 3 true).getD j false = true := fun j h => done_keep h
        have hv := ((hF.new (t := 14) (i := 2) (by kernel_rfl) (by simp) (waits_done (i := 3) (j := 2) (by kernel_rfl) hi)).trans (cc.c2 (waits_done (i := 3) (j := 2) (by kernel_rfl) hi)))
        refine wp_callF (f := 49) (args := #[U4 b0 b1 b2 b3]) (v := L8 Y) (by simp [execOp_call_go, ev hv, go_sem]) (sb.out w') ?_
        intro w'' hb''
        exact ⟨_, rfl, ⟨cc.b.trans (hb''.mono cc.b.size), fun h => cc.c0 (T 0 (by decide) h), fun h => cc.c1 (T 1 (by decide) h), fun h => cc.c2 (T 2 (by decide) h), fun _ => rfl, fun h => by obtain ⟨g, c, e, h1, h2, h3, h4⟩ := cc.c4 (T 4 (by decide) h); exact ⟨g, c, e, h1, h2.below hb'', h3, fun h6 => h4 (T 6 (by decide) h6)⟩, fun h => by obtain ⟨g, c, e, h1, h2, h3, h4⟩ := cc.c5 (T 5 (by decide) h); exact ⟨g, c, e, h1, h2.below hb'', h3, fun h6 => h4 (T 7 (by decide) h6)⟩, fun h h' => cc.c45 (T 4 (by decide) h) (T 5 (by decide) h'), fun h => S 4 (cc.c64 (T 6 (by decide) h)), fun h => S 5 (cc.c75 (T 7 (by decide) h))⟩⟩
      · simp at ho
        subst ho
        have T : ∀ j, j ≠ 4 → (listed.setIfInBounds 4 true).getD j false = true → listed.getD j false = true := fun j hj h => (done_set h).resolve_left hj
        have S : ∀ j, listed.getD j false = true → (listed.setIfInBounds 4 true).getD j false = true := fun j h => done_keep h
        have hun : ¬ listed.getD 4 false = true := fun h => undone hi hs h
        refine wp_valF (v := .pointer (some ⟨w'.heap.size, 0, none⟩)) (w1 := w'.alloc (.cells z8 59)) (by simp [execOp, go_sem]) ⟨_, rfl, ⟨cc.b.alloc cc.b.size _, fun h => cc.c0 (T 0 (by decide) h), fun h => cc.c1 (T 1 (by decide) h), fun h => cc.c2 (T 2 (by decide) h), fun h => cc.c3 (T 3 (by decide) h), fun _ => ⟨w'.heap.size, z8, rfl, cc.b.size, HasRow.last rfl, rfl, fun h6 => absurd (cc.c64 (T 6 (by decide) h6)) hun⟩, fun h => by obtain ⟨g, c, e, h1, h2, h3, h4⟩ := cc.c5 (T 5 (by decide) h); exact ⟨g, c, e, h1, h2.old, h3, fun h6 => h4 (T 7 (by decide) h6)⟩, fun _ h => by obtain ⟨g, c, e, h1, h2, h3, h4⟩ := cc.c5 (T 5 (by decide) h); have := h2.lt; show Value.pointer (some ⟨w'.heap.size, 0, none⟩) ≠ vs 5; rw [e]; intro q; simp at q; try omega, fun h => S 4 (cc.c64 (T 6 (by decide) h)), fun h => S 5 (cc.c75 (T 7 (by decide) h))⟩⟩
      · simp at ho
        subst ho
        have T : ∀ j, j ≠ 5 → (listed.setIfInBounds 5 true).getD j false = true → listed.getD j false = true := fun j hj h => (done_set h).resolve_left hj
        have S : ∀ j, listed.getD j false = true → (listed.setIfInBounds 5 true).getD j false = true := fun j h => done_keep h
        have hun : ¬ listed.getD 5 false = true := fun h => undone hi hs h
        refine wp_valF (v := .pointer (some ⟨w'.heap.size, 0, none⟩)) (w1 := w'.alloc (.cells z8 59)) (by simp [execOp, go_sem]) ⟨_, rfl, ⟨cc.b.alloc cc.b.size _, fun h => cc.c0 (T 0 (by decide) h), fun h => cc.c1 (T 1 (by decide) h), fun h => cc.c2 (T 2 (by decide) h), fun h => cc.c3 (T 3 (by decide) h), fun h => by obtain ⟨g, c, e, h1, h2, h3, h4⟩ := cc.c4 (T 4 (by decide) h); exact ⟨g, c, e, h1, h2.old, h3, fun h6 => h4 (T 6 (by decide) h6)⟩, fun _ => ⟨w'.heap.size, z8, rfl, cc.b.size, HasRow.last rfl, rfl, fun h6 => absurd (cc.c75 (T 7 (by decide) h6)) hun⟩, fun h _ => by obtain ⟨g, c, e, h1, h2, h3, h4⟩ := cc.c4 (T 4 (by decide) h); have := h2.lt; show vs 4 ≠ Value.pointer (some ⟨w'.heap.size, 0, none⟩); rw [e]; intro q; simp at q; try omega, fun h => S 4 (cc.c64 (T 6 (by decide) h)), fun h => S 5 (cc.c75 (T 7 (by decide) h))⟩⟩
      · simp at ho
        subst ho
        have T : ∀ j, j ≠ 6 → (listed.setIfInBounds 6 true).getD j false = true → listed.getD j false = true := fun j hj h => (done_set h).resolve_left hj
        have S : ∀ j, listed.getD j false = true → (listed.setIfInBounds 6 true).getD j false = true := fun j h => done_keep h
        have d4 := (waits_done (i := 6) (j := 4) (by kernel_rfl) hi)
        obtain ⟨g, c, e, h1, h2, h3, h4⟩ := cc.c4 d4
        have hx := (hF.new (t := 6) (i := 4) (by kernel_rfl) (by simp) d4).trans e
        have hv := ((hF.new (t := 13) (i := 1) (by kernel_rfl) (by simp) (waits_done (i := 6) (j := 1) (by kernel_rfl) hi)).trans (cc.c1 (waits_done (i := 6) (j := 1) (by kernel_rfl) hi)))
        refine wp_rowS 59 (.tmp 6) (.tmp 13) rfl g (c' := ag .u32 8 X) hx hv h2 h3 (ag_size _ _ _) (ag_one _ _ _) (by kernel_rfl) ⟨_, rfl, ⟨below_setRow cc.b h1 _, fun h => cc.c0 (T 0 (by decide) h), fun h => cc.c1 (T 1 (by decide) h), fun h => cc.c2 (T 2 (by decide) h), fun h => cc.c3 (T 3 (by decide) h), fun h => ⟨g, _, e, h1, h2.set_same _, ag_size _ _ _, fun _ => rfl⟩, fun h => by obtain ⟨g', c', e', k1, k2, k3, k4⟩ := cc.c5 (T 5 (by decide) h); exact ⟨g', c', e', k1, k2.set_other _ (by rintro rfl; exact cc.c45 d4 (T 5 (by decide) h) (by rw [e, e'])), k3, fun h6 => k4 (T 7 (by decide) h6)⟩, fun h h' => cc.c45 (T 4 (by decide) h) (T 5 (by decide) h'), fun _ => S 4 d4, fun h => S 5 (cc.c75 (T 7 (by decide) h))⟩⟩
      · simp at ho
        subst ho
        have T : ∀ j, j ≠ 7 → (listed.setIfInBounds 7 true).getD j false = true → listed.getD j false = true := fun j hj h => (done_set h).resolve_left hj
        have S : ∀ j, listed.getD j false = true → (listed.setIfInBounds 7 true).getD j false = true := fun j h => done_keep h
        have d4 := (waits_done (i := 7) (j := 5) (by kernel_rfl) hi)
        obtain ⟨g, c, e, h1, h2, h3, h4⟩ := cc.c5 d4
        have hx := (hF.new (t := 7) (i := 5) (by kernel_rfl) (by simp) d4).trans e
        have hv := ((hF.new (t := 15) (i := 3) (by kernel_rfl) (by simp) (waits_done (i := 7) (j := 3) (by kernel_rfl) hi)).trans (cc.c3 (waits_done (i := 7) (j := 3) (by kernel_rfl) hi)))
        refine wp_rowS 59 (.tmp 7) (.tmp 15) rfl g (c' := ag .u32 8 Y) hx hv h2 h3 (ag_size _ _ _) (ag_one _ _ _) (by kernel_rfl) ⟨_, rfl, ⟨below_setRow cc.b h1 _, fun h => cc.c0 (T 0 (by decide) h), fun h => cc.c1 (T 1 (by decide) h), fun h => cc.c2 (T 2 (by decide) h), fun h => cc.c3 (T 3 (by decide) h), fun h => by obtain ⟨g', c', e', k1, k2, k3, k4⟩ := cc.c4 (T 4 (by decide) h); exact ⟨g', c', e', k1, k2.set_other _ (by rintro rfl; exact cc.c45 (T 4 (by decide) h) d4 (by rw [e, e'])), k3, fun h6 => k4 (T 6 (by decide) h6)⟩, fun h => ⟨g, _, e, h1, h2.set_same _, ag_size _ _ _, fun _ => rfl⟩, fun h h' => cc.c45 (T 4 (by decide) h) (T 5 (by decide) h'), fun h => S 4 (cc.c64 (T 6 (by decide) h)), fun _ => S 5 d4⟩⟩
    · intro listed vs a' w' hd hF cc
      have e : a' = ({ tmps := #[U4 a0 a1 a2 a3, U4 b0 b1 b2 b3, .pointer (some ⟨w.heap.size, 0, none⟩), .pointer (some ⟨w.heap.size + 1, 0, none⟩), .pointer (some ⟨w.heap.size + 1 + 1, 0, none⟩), .pointer (some ⟨w.heap.size + 1 + 1 + 1, 0, none⟩), vs 4, vs 5, undef, undef, undef, undef, vs 0, vs 1, vs 2, vs 3, undef, undef, undef, undef, undef, undef, undef, undef, undef, undef, undef, undef, undef, undef, undef, undef, undef, undef, undef, undef, undef, undef, undef, undef, undef, undef, undef, undef, undef, undef, undef, undef, undef, undef, undef, undef, undef, undef, undef, undef, undef, undef, undef], defers := [] } : Act) := (hF.all hd).trans (by kernel_rfl)
      subst e
      obtain ⟨g, c, e4, h1, h2, h3, h4⟩ := cc.c4 (hd 4 (by simp))
      obtain ⟨g', c', e5, k1, k2, k3, k4⟩ := cc.c5 (hd 5 (by simp))
      have HH : Hid (vs 4 = .pointer (some ⟨g, 0, none⟩) ∧ vs 5 = .pointer (some ⟨g', 0, none⟩) ∧ HasRow w' g (ag .u32 8 X) ∧ HasRow w' g' (ag .u32 8 Y) ∧ Below W0.heap.size W0 w') := ⟨e4, e5, h4 (hd 6 (by simp)) ▸ h2, k4 (hd 7 (by simp)) ▸ k2, cc.b⟩
      clear e4 e5 h1 h2 h3 h4 k1 k2 k3 k4 cc hd r0 r1 hF
      go_wp2_with fail
      go_meet
      case rel =>
        obtain ⟨e4, e5, h2, k2, hb⟩ := HH.out
        refine ⟨g, g', e4, e5, h2.lt, k2.lt, fun i hi => ?_, fun i hi => ?_, old_of hb⟩
        · rw [h2.cell, ag_get, if_pos hi]
        · rw [k2.cell, ag_get, if_pos hi]
  case rest =>
    obtain ⟨bx, by', rfl, rfl, hbx, hby, hX, hY, ho, hbel⟩ := hcut
    clear sa sb
    have HX : Hid _ := hX
    have HY : Hid _ := hY
    have R4 : Hid (HasRow wc (w.heap.size + 1 + 1) #[.int .u64 0, .int .u64 0, .int .u64 0, .int .u64 0]) := (HasRow.old (HasRow.last (by simp))).below hbel
    have R5 : Hid (HasRow wc (w.heap.size + 1 + 1 + 1) #[.int .u64 0, .int .u64 0, .int .u64 0, .int .u64 0]) := (HasRow.last (by simp)).below hbel
    have HO : Hid (Below w.heap.size w wc) := bel_call (by (repeat (first | exact Below.refl _ _ | refine bel_alloc ?_ _))) hbel
    have Hz : Hid (w.heap.size + 1 + 1 + 1 < wc.heap.size) := R5.out.lt
    clear hX hY ho hbel
    go_wp2
    go_loopw [16] (fun i w' => ∃ (j nq : Nat) (f : Nat → Nat), j ≤ 8 ∧ i = .int .i64 (j : Int) ∧ w' = (wc.alloc (Obj.cells (ag .u32 16 f) 66)).drewN nq ∧ OK f X Y j) (fun i _ => 8 - (intOf i).toNat)
    case atStart => exact ⟨0, 0, fun _ => 0, by omega, rfl, rfl, OK.start X Y⟩
    case round =>
      obtain ⟨j, nq, f, hj, rfl, rfl, hO⟩ := hrel
      have KO : Hid _ := hO
      clear hO
      by_cases hlt : j < 8
      · have hx := HX.out j hlt
        go_wp2
        go_loopw [10, 19] (fun c i w' => ∃ (l cn nq : Nat) (f' : Nat → Nat), l ≤ 8 ∧ i = .int .i64 (l : Int) ∧ c = B cn ∧ w' = (wc.alloc (Obj.cells (ag .u32 16 f') 66)).drewN nq ∧ MK f f' X Y j l cn) (fun _ i _ => 8 - (intOf i).toNat)
        case atStart => exact ⟨0, 0, nq, f, by omega, rfl, rfl, rfl, MK.start KO.out.hf⟩
        case round =>
          obtain ⟨l, cn, nq', f', hl, rfl, rfl, rfl, hM⟩ := hrel
          have KM : Hid _ := hM
          clear hM
          by_cases hlt2 : l < 8
          · have hy := HY.out l hlt2
            have hc1 : (ag .u32 16 f')[j + l]? = some (.int .u32 (f' (j + l) : Nat)) := by rw [ag_get, if_pos (by omega)]
            go_wp2
            go_region
            go_wp2
            go_roundw
            case rel =>
              have hM := KM.out
              obtain ⟨e1, e2⟩ := num_mac hM.hc (GX.out j hlt) (GY.out l hlt2) (hM.hf (j + l) (by omega))
              refine ⟨l + 1, _, nq' + 1, _, by omega, by go_num, ?_, ?_, hM.step e2⟩
              · rw [e1, cast_div]
              · rw [e1, cast_mod, ag_set]; try rfl
            case measure => simp [intOf]; omega
          · have hl8 : l = 8 := by omega
            subst hl8
            have hc1 : (ag .u32 16 f')[j + 8]? = some (.int .u32 (f' (j + 8) : Nat)) := by rw [ag_get, if_pos (by omega)]
            go_wp2
            go_roundw
            case rel =>
              refine ⟨j + 1, nq', _, by omega, by go_num, ?_, KO.out.step hlt KM.out⟩
              rw [cast_mod, ag_set, Nat.mod_eq_of_lt KM.out.hc]
            case measure => simp [intOf]; omega
      · have hj8 : j = 8 := by omega
        subst hj8
        go_wp2
        have o1 := HasRow.drewN (HasRow.last (w := wc) (c := ag .u32 16 f) (t := 66) rfl) nq
        have o4 := HasRow.drewN (HasRow.old (o := Obj.cells (ag .u32 16 f) 66) R4.out) nq
        have o5 := HasRow.drewN (HasRow.old (o := Obj.cells (ag .u32 16 f) 66) R5.out) nq
        have ob := below_drewN (bel_alloc HO.out (Obj.cells (ag .u32 16 f) 66)) nq
        have hbo : w.heap.size + 1 + 1 + 1 < wc.heap.size := Hz.out
        clear R4 R5 HO Hz HX HY
        generalize (wc.alloc (Obj.cells (ag .u32 16 f) 66)).drewN nq = wr' at *
        generalize wc.heap.size = bo at *
        refine wp_region_vals (by kernel_rfl) (by kernel_rfl) (by kernel_rfl) (CY w bo (w.heap.size + 1 + 1) (w.heap.size + 1 + 1 + 1) f (vl (fun i => f (8 + i)) 0 8) (vl f 0 8)) ?_ ?_ ?_
        · refine ⟨ob.drew, o1, ?_, ?_, ?_, ?_, ⟨_, o4, rfl, ?_⟩, ⟨_, o5, rfl, ?_⟩⟩ <;> (intro h; simp [Array.getD] at h)
        · intro listed vs a' w' i o hs ho hi hF cc
          have hi8 : i < 6 := by have := (Array.getElem?_eq_some_iff.1 ho).1; simpa using this
          have hcase : i = 0 ∨ i = 1 ∨ i = 2 ∨ i = 3 ∨ i = 4 ∨ i = 5 := by omega
          rcases hcase with rfl | rfl | rfl | rfl | rfl | rfl
          · simp at ho
            subst ho
            have T : ∀ j, j ≠ 0 → (listed.setIfInBounds 0 true).getD j false = true → listed.getD j false = true := fun j hj h => (done_set h).resolve_left hj
            have S : ∀ j, listed.getD j false = true → (listed.setIfInBounds 0 true).getD j false = true := fun j h => done_keep h
            have hv : a'.eval (.tmp 8) = .pointer (some ⟨bo, 0, none⟩) := (hF.old (by kernel_rfl)).trans rfl
            refine wp_valF (v := .slice (some ⟨bo, 8, none⟩) 8 8) (w1 := w') (by simp [execOp, go_sem, ev hv]) ⟨_, rfl, ⟨cc.b, cc.o, fun _ => rfl, fun h => cc.c1 (T 1 (by decide) h), fun h => cc.c2 (T 2 (by decide) h), fun h => cc.c3 (T 3 (by decide) h), by obtain ⟨c, h2, h3, h4⟩ := cc.c4; exact ⟨c, h2, h3, fun h => h4 (T 4 (by decide) h)⟩, by obtain ⟨c, h2, h3, h4⟩ := cc.c5; exact ⟨c, h2, h3, fun h => h4 (T 5 (by decide) h)⟩⟩⟩
          · simp at ho
            subst ho
            have T : ∀ j, j ≠ 1 → (listed.setIfInBounds 1 true).getD j false = true → listed.getD j false = true := fun j hj h => (done_set h).resolve_left hj
            have S : ∀ j, listed.getD j false = true → (listed.setIfInBounds 1 true).getD j false = true := fun j h => done_keep h
            have hv := ((hF.new (t := 55) (i := 0) (by kernel_rfl) (by simp) (waits_done (i := 1) (j := 0) (by kernel_rfl) hi)).trans (cc.c0 (waits_done (i := 1) (j := 0) (by kernel_rfl) hi)))
            refine wp_callF (f := 55) (args := #[.slice (some ⟨bo, 8, none⟩) 8 8]) (v := U (vl (fun i => f (8 + i)) 0 8)) (by simp [execOp_call_go, ev hv, go_sem]) (join_any bo 8 8 (fun i => f (8 + i)) (fun i h => KO.out.hf _ (by omega)) w' cc.o.lt (fun i h => by rw [cc.o.cell, ag_get, if_pos (by omega)])) ?_
            intro w'' hb''
            exact ⟨_, rfl, ⟨cc.b.trans (hb''.mono cc.b.size), cc.o.below hb'', fun h => cc.c0 (T 0 (by decide) h), fun _ => rfl, fun h => cc.c2 (T 2 (by decide) h), fun h => cc.c3 (T 3 (by decide) h), by obtain ⟨c, h2, h3, h4⟩ := cc.c4; exact ⟨c, h2.below hb'', h3, fun h => h4 (T 4 (by decide) h)⟩, by obtain ⟨c, h2, h3, h4⟩ := cc.c5; exact ⟨c, h2.below hb'', h3, fun h => h4 (T 5 (by decide) h)⟩⟩⟩
          · simp at ho
            subst ho
            have T : ∀ j, j ≠ 2 → (listed.setIfInBounds 2 true).getD j false = true → listed.getD j false = true := fun j hj h => (done_set h).resolve_left hj
            have S : ∀ j, listed.getD j false = true → (listed.setIfInBounds 2 true).getD j false = true := fun j h => done_keep h
            have hv : a'.eval (.tmp 8) = .pointer (some ⟨bo, 0, none⟩) := (hF.old (by kernel_rfl)).trans rfl
            refine wp_valF (v := .slice (some ⟨bo, 0, none⟩) 8 16) (w1 := w') (by simp [execOp, go_sem, ev hv]) ⟨_, rfl, ⟨cc.b, cc.o, fun h => cc.c0 (T 0 (by decide) h), fun h => cc.c1 (T 1 (by decide) h), fun _ => rfl, fun h => cc.c3 (T 3 (by decide) h), by obtain ⟨c, h2, h3, h4⟩ := cc.c4; exact ⟨c, h2, h3, fun h => h4 (T 4 (by decide) h)⟩, by obtain ⟨c, h2, h3, h4⟩ := cc.c5; exact ⟨c, h2, h3, fun h => h4 (T 5 (by decide) h)⟩⟩⟩
          · simp at ho
            subst ho
            have T : ∀ j, j ≠ 3 → (listed.setIfInBounds 3 true).getD j false = true → listed.getD j false = true := fun j hj h => (done_set h).resolve_left hj
            have S : ∀ j, listed.getD j false = true → (listed.setIfInBounds 3 true).getD j false = true := fun j h => done_keep h
            have hv := ((hF.new (t := 57) (i := 2) (by kernel_rfl) (by simp) (waits_done (i := 3) (j := 2) (by kernel_rfl) hi)).trans (cc.c2 (waits_done (i := 3) (j := 2) (by kernel_rfl) hi)))
            refine wp_callF (f := 55) (args := #[.slice (some ⟨bo, 0, none⟩) 8 16]) (v := U (vl f 0 8)) (by simp [execOp_call_go, ev hv, go_sem]) (join_any bo 0 16 f (fun i h => KO.out.hf _ (by omega)) w' cc.o.lt (fun i h => by rw [cc.o.cell, ag_get, if_pos (by omega)]; rw [Nat.zero_add])) ?_
            intro w'' hb''
            exact ⟨_, rfl, ⟨cc.b.trans (hb''.mono cc.b.size), cc.o.below hb'', fun h => cc.c0 (T 0 (by decide) h), fun h => cc.c1 (T 1 (by decide) h), fun h => cc.c2 (T 2 (by decide) h), fun _ => rfl, by obtain ⟨c, h2, h3, h4⟩ := cc.c4; exact ⟨c, h2.below hb'', h3, fun h => h4 (T 4 (by decide) h)⟩, by obtain ⟨c, h2, h3, h4⟩ := cc.c5; exact ⟨c, h2.below hb'', h3, fun h => h4 (T 5 (by decide) h)⟩⟩⟩
          · simp at ho
            subst ho
            have T : ∀ j, j ≠ 4 → (listed.setIfInBounds 4 true).getD j false = true → listed.getD j false = true := fun j hj h => (done_set h).resolve_left hj
            have S : ∀ j, listed.getD j false = true → (listed.setIfInBounds 4 true).getD j false = true := fun j h => done_keep h
            have hv := ((hF.new (t := 56) (i := 1) (by kernel_rfl) (by simp) (waits_done (i := 4) (j := 1) (by kernel_rfl) hi)).trans (cc.c1 (waits_done (i := 4) (j := 1) (by kernel_rfl) hi)))
            have hx : a'.eval (.tmp 4) = .pointer (some ⟨(w.heap.size + 1 + 1), 0, none⟩) := (hF.old (by kernel_rfl)).trans rfl
            obtain ⟨c, h2, h3, h4⟩ := cc.c4
            obtain ⟨c', k2, k3, k4⟩ := cc.c5
            refine wp_rowS 24 (.tmp 4) (.tmp 56) rfl (w.heap.size + 1 + 1) (c' := #[B (l0 (vl (fun i => f (8 + i)) 0 8)), B (l1 (vl (fun i => f (8 + i)) 0 8)), B (l2 (vl (fun i => f (8 + i)) 0 8)), B (l3 (vl (fun i => f (8 + i)) 0 8))]) hx hv h2 h3 rfl (by simp [Value.oneCell']) (by kernel_rfl) ⟨_, rfl, ⟨below_setRow cc.b (by omega) _, cc.o.set_other _ (by omega), fun h => cc.c0 (T 0 (by decide) h), fun h => cc.c1 (T 1 (by decide) h), fun h => cc.c2 (T 2 (by decide) h), fun h => cc.c3 (T 3 (by decide) h), ⟨_, h2.set_same _, rfl, fun _ => rfl⟩, ⟨c', k2.set_other _ (by omega), k3, fun h => k4 (T 5 (by decide) h)⟩⟩⟩
          · simp at ho
            subst ho
            have T : ∀ j, j ≠ 5 → (listed.setIfInBounds 5 true).getD j false = true → listed.getD j false = true := fun j hj h => (done_set h).resolve_left hj
            have S : ∀ j, listed.getD j false = true → (listed.setIfInBounds 5 true).getD j false = true := fun j h => done_keep h
            have hv := ((hF.new (t := 58) (i := 3) (by kernel_rfl) (by simp) (waits_done (i := 5) (j := 3) (by kernel_rfl) hi)).trans (cc.c3 (waits_done (i := 5) (j := 3) (by kernel_rfl) hi)))
            have hx : a'.eval (.tmp 5) = .pointer (some ⟨(w.heap.size + 1 + 1 + 1), 0, none⟩) := (hF.old (by kernel_rfl)).trans rfl
            obtain ⟨c, h2, h3, h4⟩ := cc.c5
            obtain ⟨c', k2, k3, k4⟩ := cc.c4
            refine wp_rowS 24 (.tmp 5) (.tmp 58) rfl (w.heap.size + 1 + 1 + 1) (c' := #[B (l0 (vl f 0 8)), B (l1 (vl f 0 8)), B (l2 (vl f 0 8)), B (l3 (vl f 0 8))]) hx hv h2 h3 rfl (by simp [Value.oneCell']) (by kernel_rfl) ⟨_, rfl, ⟨below_setRow cc.b (by omega) _, cc.o.set_other _ (by omega), fun h => cc.c0 (T 0 (by decide) h), fun h => cc.c1 (T 1 (by decide) h), fun h => cc.c2 (T 2 (by decide) h), fun h => cc.c3 (T 3 (by decide) h), ⟨c', k2.set_other _ (by omega), k3, fun h => k4 (T 4 (by decide) h)⟩, ⟨_, h2.set_same _, rfl, fun _ => rfl⟩⟩⟩
        · intro listed vs a' w' hd hF cc
          obtain ⟨c, h2, h3, h4⟩ := cc.c4
          obtain ⟨c', k2, k3, k4⟩ := cc.c5
          have hx4 : a'.eval (.tmp 4) = .pointer (some ⟨w.heap.size + 1 + 1, 0, none⟩) := (hF.old (by kernel_rfl)).trans rfl
          have hx5 : a'.eval (.tmp 5) = .pointer (some ⟨w.heap.size + 1 + 1 + 1, 0, none⟩) := (hF.old (by kernel_rfl)).trans rfl
          have hr := results_cell2 (P := Try.prog) (fn := Try.f33) rfl a' w' hx4 hx5 h2 k2 h3 k3 Try.underlying24 (by kernel_rfl) Try.underlying24 (by kernel_rfl)
          rw [h4 (hd 4 (by simp)), k4 (hd 5 (by simp))] at hr
          have HR : Hid _ := hr
          have HB : Hid _ := cc.b
          have HD : Hid (a'.defers = []) := hF.1
          clear hr cc hF hx4 hx5 h2 h3 h4 k2 k3 k4
          go_wp2
          exact bodyPost_ret HR.out HD.out ⟨⟨f, KO.out, rfl⟩, HB.out⟩
end Go.Proofs.Ytillbhdcnhcbhaa
