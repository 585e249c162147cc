/- Operations by their names, of the program; what is known of operations in the document. -/
import Derived.Test.YtoceebhnhccfdaaDoorKd
namespace Go.Proofs.YtoceebhnhccfdaaDoor
open Go.RowKit Go.Sort
set_option linter.unusedVariables false
set_option maxRecDepth 100000
/-- The operation of a name. -/
def opV (nm : Nat → List UInt8) (s : List UInt8) : Nat × Bool := if s = [] then (0, false) else match (List.range 256).find? fun i => decide (nm i = s) with
  | some i => (i, true)
  | none => (0, false)
theorem opV_hit {nm : Nat → List UInt8} {s : List UInt8} (h0 : s ≠ []) {i : Nat} (hi : i < 256) (hb : ∀ j, j < i → nm j ≠ s) (h : nm i = s) : opV nm s = (i, true) := by
  unfold opV
  rw [if_neg h0]
  have : (List.range 256).find? (fun i => decide (nm i = s)) = some i := by
    rw [List.find?_range_eq_some]
    exact ⟨by simp [h], by simpa using hi, fun j hj => by simpa using hb j hj⟩
  rw [this]
theorem opV_miss {nm : Nat → List UInt8} {s : List UInt8} (h : ∀ j, j < 256 → nm j ≠ s) : opV nm s = (0, false) := by
  unfold opV
  split
  · rfl
  · have : (List.range 256).find? (fun i => decide (nm i = s)) = none := by
      rw [List.find?_eq_none]
      intro j hj
      simpa using h j (List.mem_range.1 hj)
    rw [this]
abbrev opK : List Nat := [0, 2, 3, 8]
abbrev opW (s : List UInt8) (i : Nat) : Vs := frm 19 [(0, Sum.inl (str s)), (2, Sum.inl (b8 0)), (3, Sum.inl (.bool false)), (8, Sum.inl (Z i))]
theorem op_any {w : World} (hT : Tb w) (s : List UInt8) : Calls Tryd.prog 10 #[str s] w fun e w' => e = .returned (.tuple #[b8 (opV nmN s).1, .bool (opV nmN s).2]) ∧ Below w.heap.size w w' := by
  refine inQ (J := Below w.heap.size w) (F := (· < w.heap.size)) Tryd.func10 (Below.refl _ _) fun a I => ?_
  by_cases h0 : s = []
  · have e : opV nmN s = (0, false) := by unfold opV; rw [if_pos h0]
    rw [e]
    refine goQ [bO .eql 9 (eqS_run (a := s) (b := []) (q := true) (by simp [h0]))] (nonR w) I fun β a w1 I hb => ?_
    exact outQ (v := .tuple #[b8 0, .bool false]) I ⟨rfl, I.hJ⟩
  refine goQ [bO .eql 9 (eqS_run (a := s) (b := []) (q := false) (by simp [h0]))] (nonR w) I fun β a w1 I hb => ?_
  let St : Nat → Act → World → Prop := fun k a w' => ∃ (i : Nat) (β : Nat → Nat) (u : Nat → Value), k = 256 - i ∧ i ≤ 256 ∧ (∀ j, j < i → nmN j ≠ s) ∧ SI (Below w.heap.size w) (· < w.heap.size) [] β (cfC (bodyL Tryd.f10) (fillF (scrF 19 opK) u 0 (opW s i)) [] 0) a w'
  refine lpM (bodyL Tryd.f10) St 256 ?_ ?_
  · obtain ⟨u, Iu⟩ := I.scr (bodyL Tryd.f10) (scrF 19 opK) (opW s 0) [] 0
    exact ⟨0, β, u, by omega, Nat.zero_le _, fun j hj => absurd hj (Nat.not_lt_zero j), Iu⟩
  rintro k a3 w3 ⟨i, β3, u, rfl, hi, hall, I⟩
  refine wp_cfC (tm := fillF (scrF 19 opK) u 0 (opW s i)) (rows := []) (nx := 0) ?_
  rcases Nat.lt_or_ge i 256 with hil | hil
  · have hnm : ∀ w', Tb w' → Calls Tryd.prog 12 #[b8 i] w' fun e w'' => e = .returned (str (nmN i)) ∧ Below w'.heap.size w' w'' := fun w' h => name_any h i hil
    by_cases he : nmN i = s
    · rw [opV_hit h0 hil hall he]
      generalize nmN i = t at hnm he
      refine goT (T := Tb) [bO .lss 3 (run_lssZ (x := i) (y := 256) (b := true) (by simp; omega)), vO 3 5 (cnvZ8 i hil), cA Tryd.func12 hnm, bO .eql 9 (eqS_run (a := t) (b := s) (q := true) (by simp [he]))] (nonR w) (fun _ hb => hT.below hb) I fun β4 a4 w4 I hb4 => ?_
      exact endR (retV (v := .tuple #[b8 i, .bool true]) I ⟨rfl, I.hJ⟩)
    · have hall' : ∀ j, j < i + 1 → nmN j ≠ s := fun j hj => by
        rcases Nat.lt_or_ge j i with h | h
        · exact hall j h
        · obtain rfl : j = i := by omega
          exact he
      generalize nmN i = t at hnm he
      refine goT (T := Tb) [bO .lss 3 (run_lssZ (x := i) (y := 256) (b := true) (by simp; omega)), vO 3 5 (cnvZ8 i hil), cA Tryd.func12 hnm, bO .eql 9 (eqS_run (a := t) (b := s) (q := false) (by simp [he])), bO .add 3 (run_addZ (x := i) (y := 1) (z := (i + 1 : Nat)) (by rw [wz (by omega) (by omega)]; omega))] (nonR w) (fun _ hb => hT.below hb) I fun β4 a4 w4 I hb4 => ?_
      obtain ⟨u', Iu⟩ := I.scr (bodyL Tryd.f10) (scrF 19 opK) (opW s (i + 1)) [] 0
      exact endL ⟨256 - (i + 1), by omega, i + 1, β4, u', rfl, hil, hall', Iu⟩
  · obtain rfl : i = 256 := by omega
    rw [opV_miss hall]
    refine goQ [bO .lss 3 (run_lssZ (x := (256 : Nat)) (y := 256) (b := false) (by simp))] (nonR w) I fun β4 a4 w4 I hb4 => ?_
    refine endE 0 ?_
    refine goQ [] (nonR w) (I.exit _) fun β5 a5 w5 I hb5 => ?_
    exact outQ (v := .tuple #[b8 0, .bool false]) I ⟨rfl, I.hJ⟩
/-- A row of the document's table. -/
abbrev RfR : Type := Nat × OpR
def rfV (r : RfR) : List Value := b8 r.1 :: rwV r.2
def rfL : List RfR := [(0, [83, 84, 79, 80], 0, 0, 0), (1, [65, 68, 68], 2, 1, 3), (2, [77, 85, 76], 2, 1, 5), (3, [83, 85, 66], 2, 1, 3), (4, [68, 73, 86], 2, 1, 5), (5, [83, 68, 73, 86], 2, 1, 5), (6, [77, 79, 68], 2, 1, 5), (7, [83, 77, 79, 68], 2, 1, 5), (8, [65, 68, 68, 77, 79, 68], 3, 1, 8), (9, [77, 85, 76, 77, 79, 68], 3, 1, 8), (10, [69, 88, 80], 2, 1, 10), (11, [83, 73, 71, 78, 69, 88, 84, 69, 78, 68], 2, 1, 5), (16, [76, 84], 2, 1, 3), (17, [71, 84], 2, 1, 3), (18, [83, 76, 84], 2, 1, 3), (19, [83, 71, 84], 2, 1, 3), (20, [69, 81], 2, 1, 3), (21, [73, 83, 90, 69, 82, 79], 1, 1, 3), (22, [65, 78, 68], 2, 1, 3), (23, [79, 82], 2, 1, 3), (24, [88, 79, 82], 2, 1, 3), (25, [78, 79, 84], 1, 1, 3), (26, [66, 89, 84, 69], 2, 1, 3), (27, [83, 72, 76], 2, 1, 3), (28, [83, 72, 82], 2, 1, 3), (29, [83, 65, 82], 2, 1, 3), (32, [75, 69, 67, 67, 65, 75, 50, 53, 54], 2, 1, 30), (53, [67, 65, 76, 76, 68, 65, 84, 65, 76, 79, 65, 68], 1, 1, 3), (54, [67, 65, 76, 76, 68, 65, 84, 65, 83, 73, 90, 69], 0, 1, 2), (55, [67, 65, 76, 76, 68, 65, 84, 65, 67, 79, 80, 89], 3, 0, 3), (56, [67, 79, 68, 69, 83, 73, 90, 69], 0, 1, 2), (57, [67, 79, 68, 69, 67, 79, 80, 89], 3, 0, 3), (80, [80, 79, 80], 1, 0, 2), (81, [77, 76, 79, 65, 68], 1, 1, 3), (82, [77, 83, 84, 79, 82, 69], 2, 0, 3), (83, [77, 83, 84, 79, 82, 69, 56], 2, 0, 3), (86, [74, 85, 77, 80], 1, 0, 8), (87, [74, 85, 77, 80, 73], 2, 0, 10), (88, [80, 67], 0, 1, 2), (89, [77, 83, 73, 90, 69], 0, 1, 2), (90, [71, 65, 83], 0, 1, 2), (91, [74, 85, 77, 80, 68, 69, 83, 84], 0, 0, 1), (243, [82, 69, 84, 85, 82, 78], 2, 0, 0), (253, [82, 69, 86, 69, 82, 84], 2, 0, 0), (254, [73, 78, 86, 65, 76, 73, 68], 0, 0, 0), (95, [80, 85, 83, 72, 48], 0, 1, 2)]
theorem bd46 (n : Nat) (s : List UInt8) (t l g : Nat) (w : World) : (Instr.build 46 (([0, 1, 2, 3, 4] : List Nat).zip (rfV (n, s, t, l, g))).toArray).run Tryd.prog w = .ok (.agg (rfV (n, s, t, l, g)).toArray) w := by kernel_rfl
theorem bd46_ (w : World) : (Instr.build 46 (([] : List Nat).zip []).toArray).run Tryd.prog w = .ok (.agg (rfV (0, opD)).toArray) w := by kernel_rfl
def ssL : List (Nat × SV) := ((List.range 46).zip rfL).map fun p => (p.1, Sum.inl (Value.agg (rfV p.2).toArray))
theorem bs46 (β : Nat → Nat) (w : World) : (Instr.buildSlice 61 46 (ssL.map fun p => (p.1, up β p.2)).toArray).run Tryd.prog w = .ok (.slice (some ⟨w.heap.size, 0, none⟩) 46 46) (w.alloc (.cells (rfL.flatMap rfV).toArray 46)) := by kernel_rfl
set_option maxHeartbeats 4000000 in
theorem rows_any (w : World) : Calls Tryd.prog 36 #[] w fun e w' => ∃ b, e = .returned (.slice (some ⟨b, 0, none⟩) 46 46) ∧ w.heap.size ≤ b ∧ w'.heap[b]? = some (.cells (rfL.flatMap rfV).toArray 46) ∧ Below w.heap.size w w' := by
  refine inQ (J := Below w.heap.size w) (F := (· < w.heap.size)) Tryd.func36 (Below.refl _ _) fun a I => ?_
  refine goQ [dO 46 [0, 1, 2, 3, 4] (bd46 0 [83, 84, 79, 80] 0 0 0), dO 46 [0, 1, 2, 3, 4] (bd46 1 [65, 68, 68] 2 1 3), dO 46 [0, 1, 2, 3, 4] (bd46 2 [77, 85, 76] 2 1 5), dO 46 [0, 1, 2, 3, 4] (bd46 3 [83, 85, 66] 2 1 3), dO 46 [0, 1, 2, 3, 4] (bd46 4 [68, 73, 86] 2 1 5), dO 46 [0, 1, 2, 3, 4] (bd46 5 [83, 68, 73, 86] 2 1 5), dO 46 [0, 1, 2, 3, 4] (bd46 6 [77, 79, 68] 2 1 5), dO 46 [0, 1, 2, 3, 4] (bd46 7 [83, 77, 79, 68] 2 1 5), dO 46 [0, 1, 2, 3, 4] (bd46 8 [65, 68, 68, 77, 79, 68] 3 1 8), dO 46 [0, 1, 2, 3, 4] (bd46 9 [77, 85, 76, 77, 79, 68] 3 1 8), dO 46 [0, 1, 2, 3, 4] (bd46 10 [69, 88, 80] 2 1 10), dO 46 [0, 1, 2, 3, 4] (bd46 11 [83, 73, 71, 78, 69, 88, 84, 69, 78, 68] 2 1 5), dO 46 [0, 1, 2, 3, 4] (bd46 16 [76, 84] 2 1 3), dO 46 [0, 1, 2, 3, 4] (bd46 17 [71, 84] 2 1 3), dO 46 [0, 1, 2, 3, 4] (bd46 18 [83, 76, 84] 2 1 3), dO 46 [0, 1, 2, 3, 4] (bd46 19 [83, 71, 84] 2 1 3), dO 46 [0, 1, 2, 3, 4] (bd46 20 [69, 81] 2 1 3), dO 46 [0, 1, 2, 3, 4] (bd46 21 [73, 83, 90, 69, 82, 79] 1 1 3), dO 46 [0, 1, 2, 3, 4] (bd46 22 [65, 78, 68] 2 1 3), dO 46 [0, 1, 2, 3, 4] (bd46 23 [79, 82] 2 1 3), dO 46 [0, 1, 2, 3, 4] (bd46 24 [88, 79, 82] 2 1 3), dO 46 [0, 1, 2, 3, 4] (bd46 25 [78, 79, 84] 1 1 3), dO 46 [0, 1, 2, 3, 4] (bd46 26 [66, 89, 84, 69] 2 1 3), dO 46 [0, 1, 2, 3, 4] (bd46 27 [83, 72, 76] 2 1 3), dO 46 [0, 1, 2, 3, 4] (bd46 28 [83, 72, 82] 2 1 3), dO 46 [0, 1, 2, 3, 4] (bd46 29 [83, 65, 82] 2 1 3), dO 46 [0, 1, 2, 3, 4] (bd46 32 [75, 69, 67, 67, 65, 75, 50, 53, 54] 2 1 30), dO 46 [0, 1, 2, 3, 4] (bd46 53 [67, 65, 76, 76, 68, 65, 84, 65, 76, 79, 65, 68] 1 1 3), dO 46 [0, 1, 2, 3, 4] (bd46 54 [67, 65, 76, 76, 68, 65, 84, 65, 83, 73, 90, 69] 0 1 2), dO 46 [0, 1, 2, 3, 4] (bd46 55 [67, 65, 76, 76, 68, 65, 84, 65, 67, 79, 80, 89] 3 0 3), dO 46 [0, 1, 2, 3, 4] (bd46 56 [67, 79, 68, 69, 83, 73, 90, 69] 0 1 2), dO 46 [0, 1, 2, 3, 4] (bd46 57 [67, 79, 68, 69, 67, 79, 80, 89] 3 0 3), dO 46 [0, 1, 2, 3, 4] (bd46 80 [80, 79, 80] 1 0 2), dO 46 [0, 1, 2, 3, 4] (bd46 81 [77, 76, 79, 65, 68] 1 1 3), dO 46 [0, 1, 2, 3, 4] (bd46 82 [77, 83, 84, 79, 82, 69] 2 0 3), dO 46 [0, 1, 2, 3, 4] (bd46 83 [77, 83, 84, 79, 82, 69, 56] 2 0 3), dO 46 [0, 1, 2, 3, 4] (bd46 86 [74, 85, 77, 80] 1 0 8), dO 46 [0, 1, 2, 3, 4] (bd46 87 [74, 85, 77, 80, 73] 2 0 10), dO 46 [0, 1, 2, 3, 4] (bd46 88 [80, 67] 0 1 2), dO 46 [0, 1, 2, 3, 4] (bd46 89 [77, 83, 73, 90, 69] 0 1 2), dO 46 [0, 1, 2, 3, 4] (bd46 90 [71, 65, 83] 0 1 2), dO 46 [0, 1, 2, 3, 4] (bd46 91 [74, 85, 77, 80, 68, 69, 83, 84] 0 0 1), dO 46 [0, 1, 2, 3, 4] (bd46 243 [82, 69, 84, 85, 82, 78] 2 0 0), dO 46 [0, 1, 2, 3, 4] (bd46 253 [82, 69, 86, 69, 82, 84] 2 0 0), dO 46 [0, 1, 2, 3, 4] (bd46 254 [73, 78, 86, 65, 76, 73, 68] 0 0 0), dO 46 [0, 1, 2, 3, 4] (bd46 95 [80, 85, 83, 72, 48] 0 1 2)] (nonR w) I fun β a w1 I hb => ?_
  refine bslQ (t := 61) (n := 46) (ss := ssL) I (bs46 β w1) ?_
  have I2 := I.lay (nonR w) (.cells (rfL.flatMap rfV).toArray 46) (.slice (some ⟨w1.heap.size, 0, none⟩) 46 46)
  have hs := I.hJ.size
  have R := (nonR w).lay w1.heap.size (.cells (rfL.flatMap rfV).toArray 46)
  generalize w1.heap.size = b at *
  generalize w1.alloc (.cells (rfL.flatMap rfV).toArray 46) = w2 at *
  refine goQ [] R I2 fun β3 a3 w3 I hb => ?_
  exact outQ (v := .slice (some ⟨b, 0, none⟩) 46 46) I ⟨b, rfl, hs, I.hJ.2, I.hJ.1⟩
end Go.Proofs.YtoceebhnhccfdaaDoor
