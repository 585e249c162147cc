/- The walk of the law HashSize. -/
import Derived.Test.YthpjdnapoafkgaaDoorL1
import Derived.Laws.IdiomStrings
namespace Go.Proofs.YthpjdnapoafkgaaDoor
open Go.RowKit
set_option linter.unusedVariables false
theorem conv_round (s : ByteArray) (w : World) : ∃ cp w2, (convert 9 30 (.string s)).run Tryd.prog w = .ok (.slice (some ⟨w.heap.size, 0, none⟩) s.size cp) w2 ∧
    (convert 30 9 (.slice (some ⟨w.heap.size, 0, none⟩) s.size cp)).run Tryd.prog w2 = .ok (.string s) w2 ∧ Below w.heap.size w w2 := by
  refine ⟨_, _, run_bytes_of_string w 9 30 5 s Tryd.underlying9 Tryd.underlying30 Tryd.underlying5, ?_, ?_⟩
  · have hl : s.data.toList.length = s.size := (Go.Lib.size_eq s).symm
    have h := run_convert_bytes_back (P := Tryd.prog) (w.drew.alloc (.cells (bytesRow s (grownCap w s.size 0 5)) 5 ((bytesRow s (grownCap w s.size 0 5)).size, (bytesRow s (grownCap w s.size 0 5)).size + 1))) 30 9 5 ⟨w.heap.size, 0, none⟩ (grownCap w s.size 0 5) s.data.toList Tryd.underlying30 Tryd.underlying5 Tryd.underlying9 (fun j hj => ?_)
    · rw [hl] at h
      refine h.trans ?_
      rw [Array.toArray_toList]
    · have hj2 : j < s.data.size := by simpa using hj
      have hc := cell_of_row _ w.heap.size j _ 5 _ (heap_alloc_last w.drew (.cells (bytesRow s (grownCap w s.size 0 5)) 5 ((bytesRow s (grownCap w s.size 0 5)).size, (bytesRow s (grownCap w s.size 0 5)).size + 1)))
      rw [bytesRow_at s _ j hj2] at hc
      have ea : Addr.add ⟨w.heap.size, 0, none⟩ j = ⟨w.heap.size, j, none⟩ := by
        unfold Addr.add
        split
        · simp_all
        · simp
      rw [ea, hc]
      simp
  · exact bel_alloc (Below.refl _ _).drew _
set_option maxRecDepth 100000 in
set_option maxHeartbeats 1000000 in
theorem size_gen (s A : ByteArray) (hA : A.size = 32) (hs : ¬ (100000 : Int) < (s.size : Int)) (w : World)
    (h1 : Hid (∀ w', Below w.heap.size w w' → Calls Tryd.prog 11 #[.string s] w' fun e w'' => e = .returned (.string A) ∧ Below w'.heap.size w' w''))
    (h3 : Hid (∀ w', Below w.heap.size w w' → Calls Tryd.prog 10 #[] w' fun e w'' => e = .returned (.bool true) ∧ Below w'.heap.size w' w'')) :
    Calls Tryd.prog 6 #[.string s] w fun e w' => e = .returned (.bool true) ∧ Below w.heap.size w w' := by
  go_enter Tryd.func6, Tryd.ntmps6
  go_wp2_with fail
  refine (h1.out _ (Below.refl _ _)).mono ?_
  rintro e w1 ⟨rfl, hb1⟩
  have B1 : Hid (Below w.heap.size w w1) := hb1
  clear hb1
  obtain ⟨cp, w2, c1, c2, c3⟩ := conv_round s w1
  have B2 : Hid (Below w.heap.size w w2) := B1.out.trans (c3.mono B1.out.size)
  clear c3
  go_wp2_with fail
  refine (h1.out _ B2.out).mono ?_
  rintro e w3 ⟨rfl, hb3⟩
  have B3 : Hid (Below w.heap.size w w3) := B2.out.trans (hb3.mono B2.out.size)
  clear hb3 c1 c2
  go_wp2_with fail
  refine (h3.out _ B3.out).mono ?_
  rintro e w4 ⟨rfl, hb4⟩
  have B4 : Hid (Below w.heap.size w w4) := B3.out.trans (hb4.mono B3.out.size)
  clear hb4
  go_wp2
  go_ret
  exact ⟨rfl, B4.out⟩
set_option maxRecDepth 100000 in
theorem size_long (s : ByteArray) (hs : (100000 : Int) < (s.size : Int)) (w : World)
    (h3 : Hid (∀ w', Below w.heap.size w w' → Calls Tryd.prog 10 #[] w' fun e w'' => e = .returned (.bool true) ∧ Below w'.heap.size w' w'')) :
    Calls Tryd.prog 6 #[.string s] w fun e w' => e = .returned (.bool true) ∧ Below w.heap.size w w' := by
  go_enter Tryd.func6, Tryd.ntmps6
  go_wp2_with fail
  refine (h3.out _ (Below.refl _ _)).mono ?_
  rintro e w4 ⟨rfl, hb4⟩
  go_wp2
  go_ret
  exact ⟨rfl, hb4⟩
theorem size_walk (s : ByteArray) (w : World) (ht : Tabs w ki) : Calls Tryd.prog 6 #[.string s] w fun e w' => e = .returned (.bool true) ∧ Below w.heap.size w w' := by
  by_cases hs : (100000 : Int) < (s.size : Int)
  · exact size_long s hs w (fun w' hb => awake_any w' (ht.below hb))
  · exact size_gen s _ (told_size _) hs w (fun w' hb => sum_any s w' (ht.below hb)) (fun w' hb => awake_any w' (ht.below hb))
end Go.Proofs.YthpjdnapoafkgaaDoor
