/- What is known of operations: the program's find, Name, Takes, Gas, Op. -/
import Derived.Test.YtoceebhnhccfdaaDoorKc
namespace Go.Proofs.YtoceebhnhccfdaaDoor
open Go.RowKit Go.Sort
set_option linter.unusedVariables false
set_option maxRecDepth 100000
abbrev OpR : Type := List UInt8 × Nat × Nat × Nat
def opD : OpR := ([], 0, 0, 0)
def rwV (r : OpR) : List Value := [str r.1, Z (r.2.1 : Nat), Z (r.2.2.1 : Nat), Z (r.2.2.2 : Nat)]
def stopL : List OpR := [([83, 84, 79, 80], 0, 0, 0), ([65, 68, 68], 2, 1, 3), ([77, 85, 76], 2, 1, 5), ([83, 85, 66], 2, 1, 3), ([68, 73, 86], 2, 1, 5), ([83, 68, 73, 86], 2, 1, 5), ([77, 79, 68], 2, 1, 5), ([83, 77, 79, 68], 2, 1, 5), ([65, 68, 68, 77, 79, 68], 3, 1, 8), ([77, 85, 76, 77, 79, 68], 3, 1, 8), ([69, 88, 80], 2, 1, 10), ([83, 73, 71, 78, 69, 88, 84, 69, 78, 68], 2, 1, 5)]
def lessL : List OpR := [([76, 84], 2, 1, 3), ([71, 84], 2, 1, 3), ([83, 76, 84], 2, 1, 3), ([83, 71, 84], 2, 1, 3), ([69, 81], 2, 1, 3), ([73, 83, 90, 69, 82, 79], 1, 1, 3), ([65, 78, 68], 2, 1, 3), ([79, 82], 2, 1, 3), ([88, 79, 82], 2, 1, 3), ([78, 79, 84], 1, 1, 3), ([66, 89, 84, 69], 2, 1, 3), ([83, 72, 76], 2, 1, 3), ([83, 72, 82], 2, 1, 3), ([83, 65, 82], 2, 1, 3)]
def inputL : List OpR := [([67, 65, 76, 76, 68, 65, 84, 65, 76, 79, 65, 68], 1, 1, 3), ([67, 65, 76, 76, 68, 65, 84, 65, 83, 73, 90, 69], 0, 1, 2), ([67, 65, 76, 76, 68, 65, 84, 65, 67, 79, 80, 89], 3, 0, 3), ([67, 79, 68, 69, 83, 73, 90, 69], 0, 1, 2), ([67, 79, 68, 69, 67, 79, 80, 89], 3, 0, 3)]
def popL : List OpR := [([80, 79, 80], 1, 0, 2), ([77, 76, 79, 65, 68], 1, 1, 3), ([77, 83, 84, 79, 82, 69], 2, 0, 3), ([77, 83, 84, 79, 82, 69, 56], 2, 0, 3), ([], 0, 0, 0), ([], 0, 0, 0), ([74, 85, 77, 80], 1, 0, 8), ([74, 85, 77, 80, 73], 2, 0, 10), ([80, 67], 0, 1, 2), ([77, 83, 73, 90, 69], 0, 1, 2), ([71, 65, 83], 0, 1, 2), ([74, 85, 77, 80, 68, 69, 83, 84], 0, 0, 1), ([], 0, 0, 0), ([], 0, 0, 0), ([], 0, 0, 0), ([80, 85, 83, 72, 48], 0, 1, 2)]
def tabC (l : List OpR) : Array Value := (l.flatMap rwV).toArray
def TabRow (w : World) (g : Nat) (c : Array Value) : Prop := ∃ t fr, w.heap[g]? = some (.cells c t fr)
theorem TabRow.below {w w' : World} {g : Nat} {c : Array Value} (h : TabRow w g c) (hb : Below w.heap.size w w') : TabRow w' g c := by
  obtain ⟨t, fr, h⟩ := h
  exact ⟨t, fr, (hb.block g (Array.getElem?_eq_some_iff.1 h).1).trans h⟩
structure Tb (w : World) : Prop where
  r0 : TabRow w 0 (tabC stopL)
  r1 : TabRow w 1 (tabC lessL)
  r2 : TabRow w 2 (tabC inputL)
  r3 : TabRow w 3 (tabC popL)
theorem Tb.below {w w' : World} (h : Tb w) (hb : Below w.heap.size w w') : Tb w' := ⟨h.r0.below hb, h.r1.below hb, h.r2.below hb, h.r3.below hb⟩
theorem tab_len : ∀ (l : List OpR), (l.flatMap rwV).length = 4 * l.length
  | [] => rfl
  | r :: l => by rw [List.flatMap_cons, List.length_append, tab_len l]; simp [rwV]; omega
theorem tab_get : ∀ (l : List OpR) (i j : Nat), i < l.length → j < 4 → (l.flatMap rwV)[4 * i + j]? = (rwV (l.getD i opD))[j]?
  | [], i, j, h, _ => by simp at h
  | r :: l, 0, j, _, hj => by
    rw [List.flatMap_cons, List.getElem?_append_left (by simp [rwV]; omega)]
    simp
  | r :: l, i + 1, j, h, hj => by
    have e : (rwV r).length = 4 := rfl
    rw [List.flatMap_cons, List.getElem?_append_right (by rw [e]; omega), e, show 4 * (i + 1) + j - 4 = 4 * i + j by omega, tab_get l i j (by simpa using h) hj]
    simp
theorem tab_cells {w : World} {g : Nat} {l : List OpR} (h : TabRow w g (tabC l)) (i : Nat) (hi : i < l.length) : CellsAt w g (0 + 4 * i) (rwV (l.getD i opD)) := by
  obtain ⟨t, fr, h⟩ := h
  intro j c hc
  have hj : j < 4 := by have := (List.getElem?_eq_some_iff.1 hc).1; simpa [rwV] using this
  rw [← tab_get l i j hi hj] at hc
  simp only [World.cell?, h]
  rw [show 0 + 4 * i + j = 4 * i + j by omega]
  simpa [tabC] using hc
theorem tab_load {w : World} {g : Nat} {l : List OpR} (h : TabRow w g (tabC l)) (i : Nat) (hi : i < l.length) : (loadVar 43 ⟨g, 0 + 4 * i, none⟩).run Tryd.prog w = .ok (.agg (rwV (l.getD i opD)).toArray) w :=
  loadN Tryd.underlying43 rfl (n := 4) (by kernel_rfl) rfl (tab_cells h i hi)
theorem io_stop : ∀ n : Fin 12, ioV Tryd.prog 57 (n.val : Int) = some (4 * n.val) := by decide +kernel
theorem io_less : ∀ n : Fin 14, ioV Tryd.prog 58 (n.val : Int) = some (4 * n.val) := by decide +kernel
theorem io_input : ∀ n : Fin 5, ioV Tryd.prog 59 (n.val : Int) = some (4 * n.val) := by decide +kernel
theorem io_pop : ∀ n : Fin 16, ioV Tryd.prog 60 (n.val : Int) = some (4 * n.val) := by decide +kernel
def numP (n : Nat) : OpR := if numN n = 0 then opD else if n < 128 then ([80, 85, 83, 72], 0, 1, 3) else if n < 144 then ([68, 85, 80], numN n, numN n + 1, 3) else ([83, 87, 65, 80], numN n + 1, numN n + 1, 3)
def opP (n : Nat) : OpR := if n < 12 then stopL.getD n opD else if n < 16 then numP n else if n < 30 then lessL.getD (n - 16) opD else if n < 32 then numP n else if n < 33 then ([75, 69, 67, 67, 65, 75, 50, 53, 54], 2, 1, 30) else if n < 53 then numP n else if n < 58 then inputL.getD (n - 53) opD else if n < 80 then numP n else if n < 96 then popL.getD (n - 80) opD else if n < 243 then numP n else if n < 244 then ([82, 69, 84, 85, 82, 78], 2, 0, 0) else if n < 253 then numP n else if n < 254 then ([82, 69, 86, 69, 82, 84], 2, 0, 0) else if n < 255 then ([73, 78, 86, 65, 76, 73, 68], 0, 0, 0) else numP n
theorem bd43 (s : List UInt8) (t l g : Nat) (w : World) : (Instr.build 43 (([0, 1, 2, 3] : List Nat).zip (rwV (s, t, l, g))).toArray).run Tryd.prog w = .ok (.agg (rwV (s, t, l, g)).toArray) w := by kernel_rfl
theorem bd43_ (w : World) : (Instr.build 43 (([] : List Nat).zip []).toArray).run Tryd.prog w = .ok (.agg (rwV opD).toArray) w := by kernel_rfl
theorem numbered_any (n : Nat) (hn : n < 256) (w : World) : Calls Tryd.prog 35 #[b8 n] w fun e w' => e = .returned (.agg (rwV (numP n)).toArray) ∧ Below w.heap.size w w' := by
  have hk := number_any n hn
  have hl := numN_lt n
  unfold numP
  generalize numN n = m at *
  refine inQ (J := Below w.heap.size w) (F := (· < w.heap.size)) Tryd.func35 (Below.refl _ _) fun a I => ?_
  by_cases h0 : m = 0
  · subst h0
    refine goQ [kC Tryd.func26 hk, bO .eql 3 (run_eqlZ (x := (0 : Nat)) (y := 0) (b := true) (by simp)), dO 43 [] bd43_] (nonR w) I fun β a w1 I hb => ?_
    exact outQ (v := .agg (rwV opD).toArray) I ⟨rfl, I.hJ⟩
  · rw [if_neg h0]
    by_cases h1 : n < 128
    · rw [if_pos h1]
      refine goQ [kC Tryd.func26 hk, bO .eql 3 (run_eqlZ (x := m) (y := 0) (b := false) (by simp; omega)), bO .lss 5 (run_lss8 (x := n) (y := 128) (b := true) (by simp; omega)), dO 43 [0, 1, 2, 3] (bd43 [80, 85, 83, 72] 0 1 3)] (nonR w) I fun β a w1 I hb => ?_
      exact outQ (v := .agg (rwV ([80, 85, 83, 72], 0, 1, 3)).toArray) I ⟨rfl, I.hJ⟩
    · rw [if_neg h1]
      by_cases h2 : n < 144
      · rw [if_pos h2]
        refine goQ [kC Tryd.func26 hk, bO .eql 3 (run_eqlZ (x := m) (y := 0) (b := false) (by simp; omega)), bO .lss 5 (run_lss8 (x := n) (y := 128) (b := false) (by simp; omega)), bO .lss 5 (run_lss8 (x := n) (y := 144) (b := true) (by simp; omega)), bO .add 3 (run_addZ (x := m) (y := 1) (z := (m + 1 : Nat)) (by rw [wz (by omega) (by omega)]; omega)), dO 43 [0, 1, 2, 3] (bd43 [68, 85, 80] m (m + 1) 3)] (nonR w) I fun β a w1 I hb => ?_
        exact outQ (v := .agg (rwV ([68, 85, 80], m, m + 1, 3)).toArray) I ⟨rfl, I.hJ⟩
      · rw [if_neg h2]
        refine goQ [kC Tryd.func26 hk, bO .eql 3 (run_eqlZ (x := m) (y := 0) (b := false) (by simp; omega)), bO .lss 5 (run_lss8 (x := n) (y := 128) (b := false) (by simp; omega)), bO .lss 5 (run_lss8 (x := n) (y := 144) (b := false) (by simp; omega)), bO .add 3 (run_addZ (x := m) (y := 1) (z := (m + 1 : Nat)) (by rw [wz (by omega) (by omega)]; omega)), bO .add 3 (run_addZ (x := m) (y := 1) (z := (m + 1 : Nat)) (by rw [wz (by omega) (by omega)]; omega)), dO 43 [0, 1, 2, 3] (bd43 [83, 87, 65, 80] (m + 1) (m + 1) 3)] (nonR w) I fun β a w1 I hb => ?_
        exact outQ (v := .agg (rwV ([83, 87, 65, 80], m + 1, m + 1, 3)).toArray) I ⟨rfl, I.hJ⟩
theorem find_any {w : World} (hT : Tb w) (n : Nat) (hn : n < 256) : Calls Tryd.prog 24 #[b8 n] w fun e w' => e = .returned (.agg (rwV (opP n)).toArray) ∧ Below w.heap.size w w' := by
  refine inQ (J := Below w.heap.size w) (F := (· < w.heap.size)) Tryd.func24 (Below.refl _ _) fun a I => ?_
  have hnu : ∀ w', Tb w' → Calls Tryd.prog 35 #[b8 n] w' fun e w'' => e = .returned (.agg (rwV (numP n)).toArray) ∧ Below w'.heap.size w' w'' := fun w' _ => numbered_any n hn w'
  unfold opP
  by_cases c12 : n < 12
  · rw [if_pos c12]
    have hld : ∀ w', Tb w' → (loadVar 43 ⟨0, 0 + 4 * (n), none⟩).run Tryd.prog w' = .ok (.agg (rwV (stopL.getD (n) opD)).toArray) w' := fun w' h => tab_load h.r0 (n) (show n < 12 by omega)
    have hio : ioV Tryd.prog 57 ((n : Nat) : Int) = some (4 * (n)) := io_stop ⟨n, by omega⟩
    generalize stopL.getD (n) opD = r at hld ⊢
    obtain ⟨s, t, l, g⟩ := r
    refine goT (T := Tb) [vO 5 3 (cnv8Z n hn), bO .lss 3 (run_lssZ (x := n) (y := 12) (b := true) (by simp; omega)), bO .sub 3 (run_subZ (x := n) (y := 0) (z := (n : Nat)) (by rw [wz (by omega) (by omega)]; omega)), iP 57 (g := 0) (off := 0) (d := 4 * (n)) (i := (n : Nat)) hio, ldA 43 hld] (nonR w) (fun _ hb => hT.below hb) I fun β a w1 I hb => ?_
    exact outQ (v := .agg (rwV (s, t, l, g)).toArray) I ⟨rfl, I.hJ⟩
  rw [if_neg c12]
  by_cases c16 : n < 16
  · rw [if_pos c16]
    generalize numP n = r at hnu ⊢
    obtain ⟨s, t, l, g⟩ := r
    refine goT (T := Tb) [vO 5 3 (cnv8Z n hn), bO .lss 3 (run_lssZ (x := n) (y := 12) (b := false) (by simp; omega)), bO .leq 3 (run_leqZ (x := 16) (y := n) (b := false) (by simp; omega)), bO .eql 3 (run_eqlZ (x := n) (y := 32) (b := false) (by simp; omega)), bO .leq 3 (run_leqZ (x := 53) (y := n) (b := false) (by simp; omega)), bO .leq 3 (run_leqZ (x := 80) (y := n) (b := false) (by simp; omega)), bO .eql 3 (run_eqlZ (x := n) (y := 243) (b := false) (by simp; omega)), bO .eql 3 (run_eqlZ (x := n) (y := 253) (b := false) (by simp; omega)), bO .eql 3 (run_eqlZ (x := n) (y := 254) (b := false) (by simp; omega)), cA Tryd.func35 hnu] (nonR w) (fun _ hb => hT.below hb) I fun β a w1 I hb => ?_
    exact outQ (v := .agg (rwV (s, t, l, g)).toArray) I ⟨rfl, I.hJ⟩
  rw [if_neg c16]
  by_cases c30 : n < 30
  · rw [if_pos c30]
    have hld : ∀ w', Tb w' → (loadVar 43 ⟨1, 0 + 4 * (n - 16), none⟩).run Tryd.prog w' = .ok (.agg (rwV (lessL.getD (n - 16) opD)).toArray) w' := fun w' h => tab_load h.r1 (n - 16) (show n - 16 < 14 by omega)
    have hio : ioV Tryd.prog 58 ((n - 16 : Nat) : Int) = some (4 * (n - 16)) := io_less ⟨n - 16, by omega⟩
    generalize lessL.getD (n - 16) opD = r at hld ⊢
    obtain ⟨s, t, l, g⟩ := r
    refine goT (T := Tb) [vO 5 3 (cnv8Z n hn), bO .lss 3 (run_lssZ (x := n) (y := 12) (b := false) (by simp; omega)), bO .leq 3 (run_leqZ (x := 16) (y := n) (b := true) (by simp; omega)), bO .lss 3 (run_lssZ (x := n) (y := 30) (b := true) (by simp; omega)), bO .sub 3 (run_subZ (x := n) (y := 16) (z := (n - 16 : Nat)) (by rw [wz (by omega) (by omega)]; omega)), iP 58 (g := 1) (off := 0) (d := 4 * (n - 16)) (i := (n - 16 : Nat)) hio, ldA 43 hld] (nonR w) (fun _ hb => hT.below hb) I fun β a w1 I hb => ?_
    exact outQ (v := .agg (rwV (s, t, l, g)).toArray) I ⟨rfl, I.hJ⟩
  rw [if_neg c30]
  by_cases c32 : n < 32
  · rw [if_pos c32]
    generalize numP n = r at hnu ⊢
    obtain ⟨s, t, l, g⟩ := r
    refine goT (T := Tb) [vO 5 3 (cnv8Z n hn), bO .lss 3 (run_lssZ (x := n) (y := 12) (b := false) (by simp; omega)), bO .leq 3 (run_leqZ (x := 16) (y := n) (b := true) (by simp; omega)), bO .lss 3 (run_lssZ (x := n) (y := 30) (b := false) (by simp; omega)), bO .eql 3 (run_eqlZ (x := n) (y := 32) (b := false) (by simp; omega)), bO .leq 3 (run_leqZ (x := 53) (y := n) (b := false) (by simp; omega)), bO .leq 3 (run_leqZ (x := 80) (y := n) (b := false) (by simp; omega)), bO .eql 3 (run_eqlZ (x := n) (y := 243) (b := false) (by simp; omega)), bO .eql 3 (run_eqlZ (x := n) (y := 253) (b := false) (by simp; omega)), bO .eql 3 (run_eqlZ (x := n) (y := 254) (b := false) (by simp; omega)), cA Tryd.func35 hnu] (nonR w) (fun _ hb => hT.below hb) I fun β a w1 I hb => ?_
    exact outQ (v := .agg (rwV (s, t, l, g)).toArray) I ⟨rfl, I.hJ⟩
  rw [if_neg c32]
  by_cases c33 : n < 33
  · rw [if_pos c33]
    refine goT (T := Tb) [vO 5 3 (cnv8Z n hn), bO .lss 3 (run_lssZ (x := n) (y := 12) (b := false) (by simp; omega)), bO .leq 3 (run_leqZ (x := 16) (y := n) (b := true) (by simp; omega)), bO .lss 3 (run_lssZ (x := n) (y := 30) (b := false) (by simp; omega)), bO .eql 3 (run_eqlZ (x := n) (y := 32) (b := true) (by simp; omega)), dO 43 [0, 1, 2, 3] (bd43 [75, 69, 67, 67, 65, 75, 50, 53, 54] 2 1 30)] (nonR w) (fun _ hb => hT.below hb) I fun β a w1 I hb => ?_
    exact outQ (v := .agg (rwV ([75, 69, 67, 67, 65, 75, 50, 53, 54], 2, 1, 30)).toArray) I ⟨rfl, I.hJ⟩
  rw [if_neg c33]
  by_cases c53 : n < 53
  · rw [if_pos c53]
    generalize numP n = r at hnu ⊢
    obtain ⟨s, t, l, g⟩ := r
    refine goT (T := Tb) [vO 5 3 (cnv8Z n hn), bO .lss 3 (run_lssZ (x := n) (y := 12) (b := false) (by simp; omega)), bO .leq 3 (run_leqZ (x := 16) (y := n) (b := true) (by simp; omega)), bO .lss 3 (run_lssZ (x := n) (y := 30) (b := false) (by simp; omega)), bO .eql 3 (run_eqlZ (x := n) (y := 32) (b := false) (by simp; omega)), bO .leq 3 (run_leqZ (x := 53) (y := n) (b := false) (by simp; omega)), bO .leq 3 (run_leqZ (x := 80) (y := n) (b := false) (by simp; omega)), bO .eql 3 (run_eqlZ (x := n) (y := 243) (b := false) (by simp; omega)), bO .eql 3 (run_eqlZ (x := n) (y := 253) (b := false) (by simp; omega)), bO .eql 3 (run_eqlZ (x := n) (y := 254) (b := false) (by simp; omega)), cA Tryd.func35 hnu] (nonR w) (fun _ hb => hT.below hb) I fun β a w1 I hb => ?_
    exact outQ (v := .agg (rwV (s, t, l, g)).toArray) I ⟨rfl, I.hJ⟩
  rw [if_neg c53]
  by_cases c58 : n < 58
  · rw [if_pos c58]
    have hld : ∀ w', Tb w' → (loadVar 43 ⟨2, 0 + 4 * (n - 53), none⟩).run Tryd.prog w' = .ok (.agg (rwV (inputL.getD (n - 53) opD)).toArray) w' := fun w' h => tab_load h.r2 (n - 53) (show n - 53 < 5 by omega)
    have hio : ioV Tryd.prog 59 ((n - 53 : Nat) : Int) = some (4 * (n - 53)) := io_input ⟨n - 53, by omega⟩
    generalize inputL.getD (n - 53) opD = r at hld ⊢
    obtain ⟨s, t, l, g⟩ := r
    refine goT (T := Tb) [vO 5 3 (cnv8Z n hn), bO .lss 3 (run_lssZ (x := n) (y := 12) (b := false) (by simp; omega)), bO .leq 3 (run_leqZ (x := 16) (y := n) (b := true) (by simp; omega)), bO .lss 3 (run_lssZ (x := n) (y := 30) (b := false) (by simp; omega)), bO .eql 3 (run_eqlZ (x := n) (y := 32) (b := false) (by simp; omega)), bO .leq 3 (run_leqZ (x := 53) (y := n) (b := true) (by simp; omega)), bO .lss 3 (run_lssZ (x := n) (y := 58) (b := true) (by simp; omega)), bO .sub 3 (run_subZ (x := n) (y := 53) (z := (n - 53 : Nat)) (by rw [wz (by omega) (by omega)]; omega)), iP 59 (g := 2) (off := 0) (d := 4 * (n - 53)) (i := (n - 53 : Nat)) hio, ldA 43 hld] (nonR w) (fun _ hb => hT.below hb) I fun β a w1 I hb => ?_
    exact outQ (v := .agg (rwV (s, t, l, g)).toArray) I ⟨rfl, I.hJ⟩
  rw [if_neg c58]
  by_cases c80 : n < 80
  · rw [if_pos c80]
    generalize numP n = r at hnu ⊢
    obtain ⟨s, t, l, g⟩ := r
    refine goT (T := Tb) [vO 5 3 (cnv8Z n hn), bO .lss 3 (run_lssZ (x := n) (y := 12) (b := false) (by simp; omega)), bO .leq 3 (run_leqZ (x := 16) (y := n) (b := true) (by simp; omega)), bO .lss 3 (run_lssZ (x := n) (y := 30) (b := false) (by simp; omega)), bO .eql 3 (run_eqlZ (x := n) (y := 32) (b := false) (by simp; omega)), bO .leq 3 (run_leqZ (x := 53) (y := n) (b := true) (by simp; omega)), bO .lss 3 (run_lssZ (x := n) (y := 58) (b := false) (by simp; omega)), bO .leq 3 (run_leqZ (x := 80) (y := n) (b := false) (by simp; omega)), bO .eql 3 (run_eqlZ (x := n) (y := 243) (b := false) (by simp; omega)), bO .eql 3 (run_eqlZ (x := n) (y := 253) (b := false) (by simp; omega)), bO .eql 3 (run_eqlZ (x := n) (y := 254) (b := false) (by simp; omega)), cA Tryd.func35 hnu] (nonR w) (fun _ hb => hT.below hb) I fun β a w1 I hb => ?_
    exact outQ (v := .agg (rwV (s, t, l, g)).toArray) I ⟨rfl, I.hJ⟩
  rw [if_neg c80]
  by_cases c96 : n < 96
  · rw [if_pos c96]
    have hld : ∀ w', Tb w' → (loadVar 43 ⟨3, 0 + 4 * (n - 80), none⟩).run Tryd.prog w' = .ok (.agg (rwV (popL.getD (n - 80) opD)).toArray) w' := fun w' h => tab_load h.r3 (n - 80) (show n - 80 < 16 by omega)
    have hio : ioV Tryd.prog 60 ((n - 80 : Nat) : Int) = some (4 * (n - 80)) := io_pop ⟨n - 80, by omega⟩
    generalize popL.getD (n - 80) opD = r at hld ⊢
    obtain ⟨s, t, l, g⟩ := r
    refine goT (T := Tb) [vO 5 3 (cnv8Z n hn), bO .lss 3 (run_lssZ (x := n) (y := 12) (b := false) (by simp; omega)), bO .leq 3 (run_leqZ (x := 16) (y := n) (b := true) (by simp; omega)), bO .lss 3 (run_lssZ (x := n) (y := 30) (b := false) (by simp; omega)), bO .eql 3 (run_eqlZ (x := n) (y := 32) (b := false) (by simp; omega)), bO .leq 3 (run_leqZ (x := 53) (y := n) (b := true) (by simp; omega)), bO .lss 3 (run_lssZ (x := n) (y := 58) (b := false) (by simp; omega)), bO .leq 3 (run_leqZ (x := 80) (y := n) (b := true) (by simp; omega)), bO .lss 3 (run_lssZ (x := n) (y := 96) (b := true) (by simp; omega)), bO .sub 3 (run_subZ (x := n) (y := 80) (z := (n - 80 : Nat)) (by rw [wz (by omega) (by omega)]; omega)), iP 60 (g := 3) (off := 0) (d := 4 * (n - 80)) (i := (n - 80 : Nat)) hio, ldA 43 hld] (nonR w) (fun _ hb => hT.below hb) I fun β a w1 I hb => ?_
    exact outQ (v := .agg (rwV (s, t, l, g)).toArray) I ⟨rfl, I.hJ⟩
  rw [if_neg c96]
  by_cases c243 : n < 243
  · rw [if_pos c243]
    generalize numP n = r at hnu ⊢
    obtain ⟨s, t, l, g⟩ := r
    refine goT (T := Tb) [vO 5 3 (cnv8Z n hn), bO .lss 3 (run_lssZ (x := n) (y := 12) (b := false) (by simp; omega)), bO .leq 3 (run_leqZ (x := 16) (y := n) (b := true) (by simp; omega)), bO .lss 3 (run_lssZ (x := n) (y := 30) (b := false) (by simp; omega)), bO .eql 3 (run_eqlZ (x := n) (y := 32) (b := false) (by simp; omega)), bO .leq 3 (run_leqZ (x := 53) (y := n) (b := true) (by simp; omega)), bO .lss 3 (run_lssZ (x := n) (y := 58) (b := false) (by simp; omega)), bO .leq 3 (run_leqZ (x := 80) (y := n) (b := true) (by simp; omega)), bO .lss 3 (run_lssZ (x := n) (y := 96) (b := false) (by simp; omega)), bO .eql 3 (run_eqlZ (x := n) (y := 243) (b := false) (by simp; omega)), bO .eql 3 (run_eqlZ (x := n) (y := 253) (b := false) (by simp; omega)), bO .eql 3 (run_eqlZ (x := n) (y := 254) (b := false) (by simp; omega)), cA Tryd.func35 hnu] (nonR w) (fun _ hb => hT.below hb) I fun β a w1 I hb => ?_
    exact outQ (v := .agg (rwV (s, t, l, g)).toArray) I ⟨rfl, I.hJ⟩
  rw [if_neg c243]
  by_cases c244 : n < 244
  · rw [if_pos c244]
    refine goT (T := Tb) [vO 5 3 (cnv8Z n hn), bO .lss 3 (run_lssZ (x := n) (y := 12) (b := false) (by simp; omega)), bO .leq 3 (run_leqZ (x := 16) (y := n) (b := true) (by simp; omega)), bO .lss 3 (run_lssZ (x := n) (y := 30) (b := false) (by simp; omega)), bO .eql 3 (run_eqlZ (x := n) (y := 32) (b := false) (by simp; omega)), bO .leq 3 (run_leqZ (x := 53) (y := n) (b := true) (by simp; omega)), bO .lss 3 (run_lssZ (x := n) (y := 58) (b := false) (by simp; omega)), bO .leq 3 (run_leqZ (x := 80) (y := n) (b := true) (by simp; omega)), bO .lss 3 (run_lssZ (x := n) (y := 96) (b := false) (by simp; omega)), bO .eql 3 (run_eqlZ (x := n) (y := 243) (b := true) (by simp; omega)), dO 43 [0, 1, 2, 3] (bd43 [82, 69, 84, 85, 82, 78] 2 0 0)] (nonR w) (fun _ hb => hT.below hb) I fun β a w1 I hb => ?_
    exact outQ (v := .agg (rwV ([82, 69, 84, 85, 82, 78], 2, 0, 0)).toArray) I ⟨rfl, I.hJ⟩
  rw [if_neg c244]
  by_cases c253 : n < 253
  · rw [if_pos c253]
    generalize numP n = r at hnu ⊢
    obtain ⟨s, t, l, g⟩ := r
    refine goT (T := Tb) [vO 5 3 (cnv8Z n hn), bO .lss 3 (run_lssZ (x := n) (y := 12) (b := false) (by simp; omega)), bO .leq 3 (run_leqZ (x := 16) (y := n) (b := true) (by simp; omega)), bO .lss 3 (run_lssZ (x := n) (y := 30) (b := false) (by simp; omega)), bO .eql 3 (run_eqlZ (x := n) (y := 32) (b := false) (by simp; omega)), bO .leq 3 (run_leqZ (x := 53) (y := n) (b := true) (by simp; omega)), bO .lss 3 (run_lssZ (x := n) (y := 58) (b := false) (by simp; omega)), bO .leq 3 (run_leqZ (x := 80) (y := n) (b := true) (by simp; omega)), bO .lss 3 (run_lssZ (x := n) (y := 96) (b := false) (by simp; omega)), bO .eql 3 (run_eqlZ (x := n) (y := 243) (b := false) (by simp; omega)), bO .eql 3 (run_eqlZ (x := n) (y := 253) (b := false) (by simp; omega)), bO .eql 3 (run_eqlZ (x := n) (y := 254) (b := false) (by simp; omega)), cA Tryd.func35 hnu] (nonR w) (fun _ hb => hT.below hb) I fun β a w1 I hb => ?_
    exact outQ (v := .agg (rwV (s, t, l, g)).toArray) I ⟨rfl, I.hJ⟩
  rw [if_neg c253]
  by_cases c254 : n < 254
  · rw [if_pos c254]
    refine goT (T := Tb) [vO 5 3 (cnv8Z n hn), bO .lss 3 (run_lssZ (x := n) (y := 12) (b := false) (by simp; omega)), bO .leq 3 (run_leqZ (x := 16) (y := n) (b := true) (by simp; omega)), bO .lss 3 (run_lssZ (x := n) (y := 30) (b := false) (by simp; omega)), bO .eql 3 (run_eqlZ (x := n) (y := 32) (b := false) (by simp; omega)), bO .leq 3 (run_leqZ (x := 53) (y := n) (b := true) (by simp; omega)), bO .lss 3 (run_lssZ (x := n) (y := 58) (b := false) (by simp; omega)), bO .leq 3 (run_leqZ (x := 80) (y := n) (b := true) (by simp; omega)), bO .lss 3 (run_lssZ (x := n) (y := 96) (b := false) (by simp; omega)), bO .eql 3 (run_eqlZ (x := n) (y := 243) (b := false) (by simp; omega)), bO .eql 3 (run_eqlZ (x := n) (y := 253) (b := true) (by simp; omega)), dO 43 [0, 1, 2, 3] (bd43 [82, 69, 86, 69, 82, 84] 2 0 0)] (nonR w) (fun _ hb => hT.below hb) I fun β a w1 I hb => ?_
    exact outQ (v := .agg (rwV ([82, 69, 86, 69, 82, 84], 2, 0, 0)).toArray) I ⟨rfl, I.hJ⟩
  rw [if_neg c254]
  by_cases c255 : n < 255
  · rw [if_pos c255]
    refine goT (T := Tb) [vO 5 3 (cnv8Z n hn), bO .lss 3 (run_lssZ (x := n) (y := 12) (b := false) (by simp; omega)), bO .leq 3 (run_leqZ (x := 16) (y := n) (b := true) (by simp; omega)), bO .lss 3 (run_lssZ (x := n) (y := 30) (b := false) (by simp; omega)), bO .eql 3 (run_eqlZ (x := n) (y := 32) (b := false) (by simp; omega)), bO .leq 3 (run_leqZ (x := 53) (y := n) (b := true) (by simp; omega)), bO .lss 3 (run_lssZ (x := n) (y := 58) (b := false) (by simp; omega)), bO .leq 3 (run_leqZ (x := 80) (y := n) (b := true) (by simp; omega)), bO .lss 3 (run_lssZ (x := n) (y := 96) (b := false) (by simp; omega)), bO .eql 3 (run_eqlZ (x := n) (y := 243) (b := false) (by simp; omega)), bO .eql 3 (run_eqlZ (x := n) (y := 253) (b := false) (by simp; omega)), bO .eql 3 (run_eqlZ (x := n) (y := 254) (b := true) (by simp; omega)), dO 43 [0, 1, 2, 3] (bd43 [73, 78, 86, 65, 76, 73, 68] 0 0 0)] (nonR w) (fun _ hb => hT.below hb) I fun β a w1 I hb => ?_
    exact outQ (v := .agg (rwV ([73, 78, 86, 65, 76, 73, 68], 0, 0, 0)).toArray) I ⟨rfl, I.hJ⟩
  rw [if_neg c255]
  generalize numP n = r at hnu ⊢
  obtain ⟨s, t, l, g⟩ := r
  refine goT (T := Tb) [vO 5 3 (cnv8Z n hn), bO .lss 3 (run_lssZ (x := n) (y := 12) (b := false) (by simp; omega)), bO .leq 3 (run_leqZ (x := 16) (y := n) (b := true) (by simp; omega)), bO .lss 3 (run_lssZ (x := n) (y := 30) (b := false) (by simp; omega)), bO .eql 3 (run_eqlZ (x := n) (y := 32) (b := false) (by simp; omega)), bO .leq 3 (run_leqZ (x := 53) (y := n) (b := true) (by simp; omega)), bO .lss 3 (run_lssZ (x := n) (y := 58) (b := false) (by simp; omega)), bO .leq 3 (run_leqZ (x := 80) (y := n) (b := true) (by simp; omega)), bO .lss 3 (run_lssZ (x := n) (y := 96) (b := false) (by simp; omega)), bO .eql 3 (run_eqlZ (x := n) (y := 243) (b := false) (by simp; omega)), bO .eql 3 (run_eqlZ (x := n) (y := 253) (b := false) (by simp; omega)), bO .eql 3 (run_eqlZ (x := n) (y := 254) (b := false) (by simp; omega)), cA Tryd.func35 hnu] (nonR w) (fun _ hb => hT.below hb) I fun β a w1 I hb => ?_
  exact outQ (v := .agg (rwV (s, t, l, g)).toArray) I ⟨rfl, I.hJ⟩
/-- An operation's name. -/
def nmN (n : Nat) : List UInt8 := if 0 < numN n then (opP n).1 ++ decL (numN n) else (opP n).1
theorem fd0 (r : OpR) (w : World) : (Instr.field 43 (.agg (rwV r).toArray) 0).run Tryd.prog w = .ok (str r.1) w := by kernel_rfl
theorem fd3 (r : OpR) (w : World) : (Instr.field 43 (.agg (rwV r).toArray) 3).run Tryd.prog w = .ok (Z (r.2.2.2 : Nat)) w := by kernel_rfl
theorem opn_len : ∀ n : Fin 256, (opP n.val).1.length ≤ 12 := by decide +kernel
theorem decL_len (n : Nat) : (decL n).length ≤ 2 := by unfold decL; split <;> simp
theorem nmN_len (n : Nat) (hn : n < 256) : (nmN n).length ≤ 14 := by
  have h1 := opn_len ⟨n, hn⟩
  have h2 := decL_len (numN n)
  unfold nmN
  split
  · rw [List.length_append]; simp only [] at h1; omega
  · simp only [] at h1; omega
theorem name_any {w : World} (hT : Tb w) (n : Nat) (hn : n < 256) : Calls Tryd.prog 12 #[b8 n] w fun e w' => e = .returned (str (nmN n)) ∧ Below w.heap.size w w' := by
  have hf : ∀ w', Tb w' → Calls Tryd.prog 24 #[b8 n] w' fun e w'' => e = .returned (.agg (rwV (opP n)).toArray) ∧ Below w'.heap.size w' w'' := fun w' h => find_any h n hn
  have hk : ∀ w', Tb w' → Calls Tryd.prog 26 #[b8 n] w' fun e w'' => e = .returned (Z (numN n : Nat)) ∧ Below w'.heap.size w' w'' := fun w' _ => number_any n hn w'
  have hi : ∀ w', Tb w' → Calls Tryd.prog 27 #[Z (numN n : Nat)] w' fun e w'' => e = .returned (str (decL (numN n))) ∧ Below w'.heap.size w' w'' := fun w' _ => itoa_any (numN n) (by have := numN_lt n; omega) w'
  have h1 := opn_len ⟨n, hn⟩
  have h2 := decL_len (numN n)
  simp only [] at h1
  unfold nmN
  generalize opP n = r at *
  generalize decL (numN n) = dl at *
  generalize numN n = m at *
  refine inQ (J := Below w.heap.size w) (F := (· < w.heap.size)) Tryd.func12 (Below.refl _ _) fun a I => ?_
  by_cases h : 0 < m
  · rw [if_pos h]
    refine goT (T := Tb) [cA Tryd.func24 hf, fO 43 0 (fd0 r), cA Tryd.func26 hk, bO .gtr 3 (run_gtrZ (x := m) (y := 0) (b := true) (by simp; omega)), cA Tryd.func27 hi, bO .add 9 (addS_run r.1 dl (by omega))] (nonR w) (fun _ hb => hT.below hb) I fun β a w1 I hb => ?_
    exact outQ (v := str (r.1 ++ dl)) I ⟨rfl, I.hJ⟩
  · rw [if_neg h]
    refine goT (T := Tb) [cA Tryd.func24 hf, fO 43 0 (fd0 r), cA Tryd.func26 hk, bO .gtr 3 (run_gtrZ (x := m) (y := 0) (b := false) (by simp; omega))] (nonR w) (fun _ hb => hT.below hb) I fun β a w1 I hb => ?_
    exact outQ (v := str r.1) I ⟨rfl, I.hJ⟩
theorem gas_any {w : World} (hT : Tb w) (n : Nat) (hn : n < 256) : Calls Tryd.prog 14 #[b8 n] w fun e w' => e = .returned (Z ((opP n).2.2.2 : Nat)) ∧ Below w.heap.size w w' := by
  have hf : ∀ w', Tb w' → Calls Tryd.prog 24 #[b8 n] w' fun e w'' => e = .returned (.agg (rwV (opP n)).toArray) ∧ Below w'.heap.size w' w'' := fun w' h => find_any h n hn
  generalize opP n = r at *
  refine inQ (J := Below w.heap.size w) (F := (· < w.heap.size)) Tryd.func14 (Below.refl _ _) fun a I => ?_
  refine goT (T := Tb) [cA Tryd.func24 hf, fO 43 3 (fd3 r)] (nonR w) (fun _ hb => hT.below hb) I fun β a w1 I hb => ?_
  exact outQ (v := Z (r.2.2.2 : Nat)) I ⟨rfl, I.hJ⟩
theorem takes_any {w : World} (hT : Tb w) (n : Nat) (hn : n < 256) : Calls Tryd.prog 8 #[b8 n] w fun e w' => e = .returned (.tuple #[Z ((opP n).2.1 : Nat), Z ((opP n).2.2.1 : Nat)]) ∧ Below w.heap.size w w' := by
  have hf : ∀ w', Tb w' → Calls Tryd.prog 24 #[b8 n] w' fun e w'' => e = .returned (.agg (rwV (opP n)).toArray) ∧ Below w'.heap.size w' w'' := fun w' h => find_any h n hn
  generalize opP n = r at *
  obtain ⟨s, t, l, g⟩ := r
  refine inQ (J := Below w.heap.size w) (F := (· < w.heap.size)) Tryd.func8 (Below.refl _ _) fun a I => ?_
  refine goT (T := Tb) [cA Tryd.func24 hf] (nonR w) (fun _ hb => hT.below hb) I fun β a w1 I hb => ?_
  refine dwQ 6 [] (nonR w) PanOk.post I fun a2 w2 I => ?_
  refine goQ [] (nonR w) I fun β3 a3 w3 I hb => ?_
  exact outQ (v := .tuple #[Z (t : Nat), Z (l : Nat)]) I ⟨rfl, I.hJ⟩
end Go.Proofs.YtoceebhnhccfdaaDoor
