/- CodesTells. -/
import Derived.Test.YtoceebhnhccfdaaDoorKr
import Derived.Test.YtoceebhnhccfdaaDoorKf
namespace Go.Proofs.YtoceebhnhccfdaaDoor
open Go.RowKit Go.Sort Go.Shelf
set_option linter.unusedVariables false
set_option maxRecDepth 100000
theorem run_eql4 {x : Bool} (o1 o2 : Operand) (w : World) : (do eqGuard .eql 4 o1 o2 (.bool x) (.bool x); binOp .eql 4 (.bool x) (.bool x) : Sem Value).run Tryd.prog w = .ok (.bool true) w := by cases x <;> simp [go_sem]
set_option maxHeartbeats 4000000 in
theorem tells_walk {w : World} (hT : Tb w) (n : Nat) (hn : n < 256) (s : List UInt8) : Calls Tryd.prog 3 #[b8 n, str s] w fun e w' => e = .returned (.bool true) ∧ RowKit.Below w.heap.size w w' := by
  have h8 : ∀ w', Tb w' → Calls Tryd.prog 8 #[b8 n] w' fun e w'' => e = .returned (.tuple #[Z ((opP n).2.1 : Nat), Z ((opP n).2.2.1 : Nat)]) ∧ RowKit.Below w'.heap.size w' w'' := fun w' h => takes_any h n hn
  have h9 := rtakes_any n hn
  have h10 : ∀ w', Tb w' → Calls Tryd.prog 10 #[str s] w' fun e w'' => e = .returned (.tuple #[b8 (opV nmN s).1, .bool (opV nmN s).2]) ∧ RowKit.Below w'.heap.size w' w'' := fun w' h => op_any h s
  have h11 := rop_any s
  have h12 : ∀ w', Tb w' → Calls Tryd.prog 12 #[b8 n] w' fun e w'' => e = .returned (str (nmN n)) ∧ RowKit.Below w'.heap.size w' w'' := fun w' h => name_any h n hn
  have h13 := rname_any n hn
  have h14 : ∀ w', Tb w' → Calls Tryd.prog 14 #[b8 n] w' fun e w'' => e = .returned (Z ((opP n).2.2.2 : Nat)) ∧ RowKit.Below w'.heap.size w' w'' := fun w' h => gas_any h n hn
  have h15 := rgas_any n hn
  have h16 : ∀ w', Tb w' → Calls Tryd.prog 16 #[] w' fun e w'' => e = .returned (.bool true) ∧ RowKit.Below w'.heap.size w' w'' := fun w' h => awake_any h
  generalize opP n = r at *
  generalize nmN n = nm at *
  generalize opV nmN s = ov at *
  obtain ⟨rs, t, l, g⟩ := r
  obtain ⟨on, ob⟩ := ov
  simp only [] at h8 h9 h10 h11 h14 h15
  refine inQ (J := RowKit.Below w.heap.size w) (F := (· < w.heap.size)) Tryd.func3 (RowKit.Below.refl _ _) fun a I => ?_
  refine goT (T := Tb) [cA Tryd.func8 h8, kC Tryd.func9 h9, cA Tryd.func10 h10, kC Tryd.func11 h11, cA Tryd.func12 h12, kC Tryd.func13 h13, bO .eql 9 (eqS_run (a := nm) (b := nm) (q := true) (by simp)), bO .eql 3 (run_eqlZ (x := t) (y := t) (b := true) (by simp)), bO .eql 3 (run_eqlZ (x := l) (y := l) (b := true) (by simp)), cA Tryd.func14 h14, kC Tryd.func15 h15, bO .eql 3 (run_eqlZ (x := g) (y := g) (b := true) (by simp)), bO .eql 5 (run_eql8 (x := on) (y := on) (b := true) (by simp)), bO .eql 4 (run_eql4 (x := ob)), cA Tryd.func16 h16] (nonR w) (fun _ hb => hT.below hb) I fun β a w1 I1 hb => ?_
  exact outQ (v := .bool true) I1 ⟨rfl, I1.hJ⟩
end Go.Proofs.YtoceebhnhccfdaaDoor
