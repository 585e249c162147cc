/- The sums that every book names. -/
import Derived.Test.YthpjdnapoafkgaaDoorHr
namespace Go.Proofs.YthpjdnapoafkgaaDoor
open Go.RowKit
set_option linter.unusedVariables false
set_option maxRecDepth 100000 in
set_option maxHeartbeats 1000000 in
theorem awake_gen (A C : ByteArray) (a1 : A.size = 32) (a2 : A.extract 0 4 = { data := #[197, 210, 70, 1] }) (c1 : C.size = 32) (c2 : C.extract 0 4 = { data := #[78, 3, 101, 122] }) (w : World)
    (hA : Hid (∀ w', Below w.heap.size w w' → Calls Tryd.prog 11 #[.string { data := #[] }] w' fun e w'' => e = .returned (.string A) ∧ Below w'.heap.size w' w''))
    (hC : Hid (∀ w', Below w.heap.size w w' → Calls Tryd.prog 11 #[.string { data := #[97, 98, 99] }] w' fun e w'' => e = .returned (.string C) ∧ Below w'.heap.size w' w'')) :
    Calls Tryd.prog 10 #[] w fun e w' => e = .returned (.bool true) ∧ Below w.heap.size w w' := by
  go_enter Tryd.func10, Tryd.ntmps10
  go_wp2_with fail
  refine (hA.out _ (Below.refl _ _)).mono ?_
  rintro e w1 ⟨rfl, hb1⟩
  have B1 : Hid (Below w.heap.size w w1) := hb1
  clear hb1
  go_wp2_with fail
  refine (hC.out _ B1.out).mono ?_
  rintro e w2 ⟨rfl, hb2⟩
  have B2 : Hid (Below w.heap.size w w2) := B1.out.trans (hb2.mono B1.out.size)
  clear hb2
  go_wp2
  go_ret
  exact ⟨rfl, B2.out⟩
theorem awake_any (w : World) (ht : Tabs w ki) : Calls Tryd.prog 10 #[] w fun e w' => e = .returned (.bool true) ∧ Below w.heap.size w w' :=
  awake_gen _ _ e_sum.1 e_sum.2 a_sum.1 a_sum.2 w (fun w' hb => sum_any _ w' (ht.below hb)) (fun w' hb => sum_any _ w' (ht.below hb))
end Go.Proofs.YthpjdnapoafkgaaDoor
