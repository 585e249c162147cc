/- The walk of the law HashSums. -/
import Derived.Test.YthpjdnapoafkgaaDoorL1
import Derived.Test.YthpjdnapoafkgaaDoorHv
namespace Go.Proofs.YthpjdnapoafkgaaDoor
open Go.RowKit
set_option linter.unusedVariables false
set_option maxRecDepth 100000 in
set_option maxHeartbeats 1000000 in
theorem sums_gen (s A : ByteArray) (hs : ¬ (100000 : Int) < (s.size : Int)) (w : World)
    (h1 : Hid (∀ w', Below w.heap.size w w' → Calls Tryd.prog 11 #[.string s] w' fun e w'' => e = .returned (.string A) ∧ Below w'.heap.size w' w''))
    (h2 : Hid (∀ w', Below w.heap.size w w' → Calls Tryd.prog 12 #[.string s] w' fun e w'' => e = .returned (.string A) ∧ Below w'.heap.size w' w''))
    (h3 : Hid (∀ w', Below w.heap.size w w' → Calls Tryd.prog 10 #[] w' fun e w'' => e = .returned (.bool true) ∧ Below w'.heap.size w' w'')) :
    Calls Tryd.prog 4 #[.string s] w fun e w' => e = .returned (.bool true) ∧ Below w.heap.size w w' := by
  go_enter Tryd.func4, Tryd.ntmps4
  go_wp2_with fail
  refine (h1.out _ (Below.refl _ _)).mono ?_
  rintro e w1 ⟨rfl, hb1⟩
  have B1 : Hid (Below w.heap.size w w1) := hb1
  clear hb1
  go_wp2_with fail
  refine (h2.out _ B1.out).mono ?_
  rintro e w3 ⟨rfl, hb3⟩
  have B3 : Hid (Below w.heap.size w w3) := B1.out.trans (hb3.mono B1.out.size)
  clear hb3
  go_wp2_with fail
  refine (h3.out _ B3.out).mono ?_
  rintro e w4 ⟨rfl, hb4⟩
  have B4 : Hid (Below w.heap.size w w4) := B3.out.trans (hb4.mono B3.out.size)
  clear hb4
  go_wp2
  go_ret
  exact ⟨rfl, B4.out⟩
set_option maxRecDepth 100000 in
theorem sums_long (s : ByteArray) (hs : (100000 : Int) < (s.size : Int)) (w : World)
    (h3 : Hid (∀ w', Below w.heap.size w w' → Calls Tryd.prog 10 #[] w' fun e w'' => e = .returned (.bool true) ∧ Below w'.heap.size w' w'')) :
    Calls Tryd.prog 4 #[.string s] w fun e w' => e = .returned (.bool true) ∧ Below w.heap.size w w' := by
  go_enter Tryd.func4, Tryd.ntmps4
  go_wp2_with fail
  refine (h3.out _ (Below.refl _ _)).mono ?_
  rintro e w4 ⟨rfl, hb4⟩
  go_wp2
  go_ret
  exact ⟨rfl, hb4⟩
theorem sums_walk (s : ByteArray) (w : World) (ht : Tabs w ki) : Calls Tryd.prog 4 #[.string s] w fun e w' => e = .returned (.bool true) ∧ Below w.heap.size w w' := by
  by_cases hs : (100000 : Int) < (s.size : Int)
  · exact sums_long s hs w (fun w' hb => awake_any w' (ht.below hb))
  · exact sums_gen s _ hs w (fun w' hb => sum_any s w' (ht.below hb)) (fun w' _ => rsum_any s (by omega) w') (fun w' hb => awake_any w' (ht.below hb))
end Go.Proofs.YthpjdnapoafkgaaDoor
