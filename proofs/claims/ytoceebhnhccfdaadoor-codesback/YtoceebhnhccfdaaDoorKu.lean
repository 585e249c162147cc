/- CodesBack. -/
import Derived.Test.YtoceebhnhccfdaaDoorKt
import Derived.Test.YtoceebhnhccfdaaDoorKr
namespace Go.Proofs.YtoceebhnhccfdaaDoor
open Go.RowKit Go.Sort Go.Shelf
set_option linter.unusedVariables false
set_option maxRecDepth 100000
theorem run_eql30 {x y : Int} {b : Bool} (h : decide (x = y) = b) (o1 o2 : Operand) (w : World) : (do eqGuard .eql 30 o1 o2 (Z x) (Z y); binOp .eql 30 (Z x) (Z y) : Sem Value).run Tryd.prog w = .ok (.bool b) w := by
  subst h
  by_cases hx : x = y
  · simp [go_sem, hx]
  · simp [go_sem, hx]
theorem ls_len (c : List UInt8) : (lsN c).length ≤ 185 * c.length := by
  have := ls_take_len c (pc 0 c).length
  rw [List.take_length] at this
  exact this
set_option maxHeartbeats 4000000 in
theorem back_walk11 {w : World} (hT : Tb w) (c : List UInt8) : Calls Tryd.prog 5 #[str c] w fun e w' => e = .returned (.bool true) ∧ RowKit.Below w.heap.size w w' := by
  have h16 : ∀ w', Tb w' → Calls Tryd.prog 16 #[] w' fun e w'' => e = .returned (.bool true) ∧ RowKit.Below w'.heap.size w' w'' := fun w' h => awake_any h
  refine inQ (J := RowKit.Below w.heap.size w) (F := (· < w.heap.size)) Tryd.func5 (RowKit.Below.refl _ _) fun a I => ?_
  by_cases hl : 3000 < c.length
  · refine goT (T := Tb) [lnO c, bO .gtr 3 (run_gtrZ (x := c.length) (y := 3000) (b := true) (by simp; omega)), cA Tryd.func16 h16] (nonR w) (fun _ hb => hT.below hb) I fun β a w1 I1 hb => ?_
    exact outQ (v := .bool true) I1 ⟨rfl, I1.hJ⟩
  · have h22 : ∀ w', Tb w' → Calls Tryd.prog 22 #[str c] w' fun e w'' => e = .returned (str (lsN c)) ∧ RowKit.Below w'.heap.size w' w'' := fun w' h => listing_any h c (by omega)
    have hll := ls_len c
    have h17 : ∀ w', Tb w' → Calls Tryd.prog 17 #[str (lsN c)] w' fun e w'' => e = .returned (.tuple #[str c, Z 0, Z 0]) ∧ RowKit.Below w'.heap.size w' w'' := fun w' h => by
      have := assemble_any h (lsN c) (by omega)
      rw [as_ls c] at this
      exact this
    generalize lsN c = t at *
    refine goT (T := Tb) [lnO c, bO .gtr 3 (run_gtrZ (x := c.length) (y := 3000) (b := false) (by simp; omega)), cA Tryd.func22 h22, cA Tryd.func17 h17, bO .eql 30 (run_eql30 (x := 0) (y := 0) (b := true) (by decide)), bO .eql 9 (eqS_run (a := c) (b := c) (q := true) (by simp)), cA Tryd.func16 h16] (nonR w) (fun _ hb => hT.below hb) I fun β a w1 I1 hb => ?_
    exact outQ (v := .bool true) I1 ⟨rfl, I1.hJ⟩
end Go.Proofs.YtoceebhnhccfdaaDoor
