/- The chapter's example. -/
import Derived.Test.YtoceebhnhccfdaaDoorKq
namespace Go.Proofs.YtoceebhnhccfdaaDoor
open Go.RowKit Go.Sort Go.Shelf
set_option linter.unusedVariables false
set_option maxRecDepth 100000
theorem aw1 : dsN [96, 5, 91] = [false, false, true] := by decide +kernel
theorem aw2 : asV [80, 85, 83, 72, 49, 32, 53] = ([], 6, 28) := by decide +kernel
theorem aw3 : lsN [96, 5, 91] = [80, 85, 83, 72, 49, 32, 48, 53, 10, 74, 85, 77, 80, 68, 69, 83, 84, 10] := by decide +kernel
theorem aw4 : lsN [91, 97, 1] = [74, 85, 77, 80, 68, 69, 83, 84, 10, 48, 120, 54, 49, 10, 48, 120, 48, 49, 10] := by decide +kernel
theorem bl_load {w : World} {g : Nat} {l : List Bool} (h : w.heap[g]? = some (.cells (blC l) 4)) {i : Nat} {v : Bool} (hi : l[i]? = some v) : (loadVar 4 ⟨g, 0 + i * 1, none⟩).run Tryd.prog w = .ok (.bool v) w := by
  have hc : CellsAt w g (0 + i * 1) [.bool v] := by
    intro j c hc
    have hj : j = 0 := by have := (List.getElem?_eq_some_iff.1 hc).1; simp at this; exact this
    subst hj
    cases hc
    simp [World.cell?, h, blC, hi]
  exact load1 hc 0 rfl 4 Tryd.underlying4 rfl
abbrev dJ (w : World) (g : Nat) (l : List Bool) (w' : World) : Prop := RowKit.Below w.heap.size w w' ∧ w'.heap[g]? = some (.cells (blC l) 4)
abbrev dF (w : World) (g k : Nat) : Prop := k < w.heap.size ∨ k = g
theorem dJ.rs (w : World) (g : Nat) (l : List Bool) : Rsrc (dJ w g l) (dF w g) := (nonR w).lay g _
theorem run_neq30 {x y : Int} {b : Bool} (h : decide (x ≠ y) = b) (o1 o2 : Operand) (w : World) : (do eqGuard .neq 30 o1 o2 (Z x) (Z y); binOp .neq 30 (Z x) (Z y) : Sem Value).run Tryd.prog w = .ok (.bool b) w := by
  subst h
  by_cases hx : x = y
  · simp [go_sem, hx]
  · simp [go_sem, hx]
set_option maxHeartbeats 4000000 in
theorem awake_any {w : World} (hT : Tb w) : Calls Tryd.prog 16 #[] w fun e w' => e = .returned (.bool true) ∧ RowKit.Below w.heap.size w w' := by
  have h17 : ∀ w', Tb w' → Calls Tryd.prog 17 #[str [80, 85, 83, 72, 49, 32, 53]] w' fun e w'' => e = .returned (.tuple #[str [], Z 6, Z 28]) ∧ RowKit.Below w'.heap.size w' w'' := fun w' h => by
    have := assemble_any h [80, 85, 83, 72, 49, 32, 53] (by decide)
    rw [aw2] at this
    exact this
  have h22 : ∀ w', Tb w' → Calls Tryd.prog 22 #[str [96, 5, 91]] w' fun e w'' => e = .returned (str [80, 85, 83, 72, 49, 32, 48, 53, 10, 74, 85, 77, 80, 68, 69, 83, 84, 10]) ∧ RowKit.Below w'.heap.size w' w'' := fun w' h => by
    have := listing_any h [96, 5, 91] (by decide)
    rw [aw3] at this
    exact this
  have h22' : ∀ w', Tb w' → Calls Tryd.prog 22 #[str [91, 97, 1]] w' fun e w'' => e = .returned (str [74, 85, 77, 80, 68, 69, 83, 84, 10, 48, 120, 54, 49, 10, 48, 120, 48, 49, 10]) ∧ RowKit.Below w'.heap.size w' w'' := fun w' h => by
    have := listing_any h [91, 97, 1] (by decide)
    rw [aw4] at this
    exact this
  refine inQ (J := RowKit.Below w.heap.size w) (F := (· < w.heap.size)) Tryd.func16 (RowKit.Below.refl _ _) fun a I => ?_
  refine goQ [] (nonR w) I fun β a w1 I1 hb => ?_
  have hd := dests_any [96, 5, 91] (by decide) w1
  rw [aw1] at hd
  refine mcall (f := 20) (ss := [Sum.inl (str [96, 5, 91])]) Tryd.func20 I1 (hd.mono fun e w2 he => ?_)
  obtain ⟨g, rfl, hgs, hrow, hbl⟩ := he
  have hw1 := I1.hJ.size
  have I2 : SI (dJ w g [false, false, true]) (dF w g) [] β _ _ w2 := I1.moved (J' := dJ w g [false, false, true]) (F' := dF w g) (Grow.of_below hbl) ⟨I1.hJ.trans (hbl.mono hw1), hrow⟩ (fun k hk h => h.elim id fun e => by omega) (.slice (some ⟨g, 0, none⟩) 3 3)
  have hTT : ∀ w', dJ w g [false, false, true] w' → Tb w' := fun w' h => hT.below h.1
  refine goT (T := dJ w g [false, false, true]) [cA Tryd.func17 (fun w' h => h17 w' (hTT w' h)), cA Tryd.func22 (fun w' h => h22 w' (hTT w' h)), bO .eql 9 (eqS_run (a := [80, 85, 83, 72, 49, 32, 48, 53, 10, 74, 85, 77, 80, 68, 69, 83, 84, 10]) (b := [80, 85, 83, 72, 49, 32, 48, 53, 10, 74, 85, 77, 80, 68, 69, 83, 84, 10]) (q := true) (by decide)), lS Tryd.underlying36 (ad := some ⟨g, 0, none⟩) (n := 3) (cap := 3) rfl, bO .eql 3 (run_eqlZ (x := 3) (y := 3) (b := true) (by decide)), iA 36 Tryd.underlying36 (sz := 1) (by kernel_rfl) (g := g) (off := 0) (n := 3) (cap := 3) (i := 2) (by decide), ldA 4 (fun w' h => bl_load (i := 2) (v := true) h.2 rfl),
    iA 36 Tryd.underlying36 (sz := 1) (by kernel_rfl) (g := g) (off := 0) (n := 3) (cap := 3) (i := 1) (by decide), ldA 4 (fun w' h => bl_load (i := 1) (v := false) h.2 rfl), uO .not (p := .bool false) (v := .bool true) run_not, cA Tryd.func22 (fun w' h => h22' w' (hTT w' h)), bO .eql 9 (eqS_run (a := [74, 85, 77, 80, 68, 69, 83, 84, 10, 48, 120, 54, 49, 10, 48, 120, 48, 49, 10]) (b := [74, 85, 77, 80, 68, 69, 83, 84, 10, 48, 120, 54, 49, 10, 48, 120, 48, 49, 10]) (q := true) (by decide)), bO .eql 3 (run_eqlZ (x := 6) (y := 6) (b := true) (by decide)), bO .neq 30 (run_neq30 (x := 28) (y := 0) (b := true) (by decide))] (dJ.rs _ _ _) (fun _ h => h) I2 fun β3 a3 w3 I3 hb3 => ?_
  exact outQ (v := .bool true) I3 ⟨rfl, I3.hJ.1⟩
end Go.Proofs.YtoceebhnhccfdaaDoor
