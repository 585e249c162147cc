/- The examples of chapter 1 hold: the function awake hands back true, and changes nothing that was there. -/
import Derived.Test.YtgmdckibfndbkaaCs
import Derived.Test.YtgmdckibfndbkaaOl
import Derived.Test.YtgmdckibfndbkaaEq
import Derived.Deep.DeepCutAuto
import Derived.Deep.Light
namespace Go.Proofs.Ytgmdckibfndbkaa
open Go.RowKit
set_option linter.unusedVariables false
attribute [local go_sem] run_eq4

abbrev ones : Value := I4 18446744073709551615 18446744073709551615 18446744073709551615 18446744073709551615
theorem U_ones : U (W - 1) = ones := by kernel_rfl
theorem U_1 : U 1 = I4 1 0 0 0 := by kernel_rfl
theorem U_3 : U 3 = I4 3 0 0 0 := by kernel_rfl
theorem U_256 : U 256 = I4 256 0 0 0 := by kernel_rfl
theorem U_top : U (shlW 3 255) = I4 0 0 0 9223372036854775808 := by kernel_rfl

theorem of_1 (w : World) : Calls Try.prog 15 #[.int .u64 1] w fun e w' => e = .returned (I4 1 0 0 0) ∧ Below w.heap.size w w' := by
  have h := of_any 1 (by decide) w; rw [U_1] at h; exact h
theorem of_3 (w : World) : Calls Try.prog 15 #[.int .u64 3] w fun e w' => e = .returned (I4 3 0 0 0) ∧ Below w.heap.size w w' := by
  have h := of_any 3 (by decide) w; rw [U_3] at h; exact h
theorem of_256 (w : World) : Calls Try.prog 15 #[.int .u64 256] w fun e w' => e = .returned (I4 256 0 0 0) ∧ Below w.heap.size w w' := by
  have h := of_any 256 (by decide) w; rw [U_256] at h; exact h
theorem add_ones (w : World) : Calls Try.prog 9 #[ones, I4 1 0 0 0] w fun e w' => e = .returned (.tuple #[I4 0 0 0 0, .bool true]) ∧ Below w.heap.size w w' := by
  have h := add_any (W - 1) 1 (by decide) (by decide) w
  rw [U_ones, U_1, show addW (W - 1) 1 = 0 by decide +kernel, U_zero, show ovW (W - 1) 1 = true by decide +kernel] at h; exact h
theorem sub_ones (w : World) : Calls Try.prog 11 #[I4 0 0 0 0, I4 1 0 0 0] w fun e w' => e = .returned (.tuple #[ones, .bool true]) ∧ Below w.heap.size w w' := by
  have h := sub_any 0 1 (by decide) (by decide) w
  rw [U_zero, U_1, show subW 0 1 = W - 1 by decide +kernel, U_ones, show unW 0 1 = true by decide] at h; exact h
theorem shl_top (w : World) : Calls Try.prog 26 #[I4 3 0 0 0, .int .u64 255] w fun e w' => e = .returned (I4 0 0 0 9223372036854775808) ∧ Below w.heap.size w w' := by
  have h := shl_any 3 255 (by decide) w; rw [U_3, U_top] at h; exact h
theorem bits_9 (w : World) : Calls Try.prog 30 #[I4 256 0 0 0] w fun e w' => e = .returned (.int .i64 9) ∧ Below w.heap.size w w' := by
  have h := bits_any 256 w; rw [U_256, show bitsN 256 = 9 by decide +kernel] at h; exact h

set_option maxRecDepth 100000 in
set_option maxHeartbeats 1000000 in
theorem awake_any (w : World) : Calls Try.prog 17 #[] w fun e w' => e = .returned (.bool true) ∧ Below w.heap.size w w' := by
  go_enter Try.func17, Try.ntmps17
  go_wp2
  go_cut [2, 3] (fun s2 s3 w' => ∃ b, s2 = .pointer (some ⟨b, 0, none⟩) ∧ s3 = .bool true ∧ b < w'.heap.size ∧ w'.cell? ⟨b, 0, none⟩ = some (.int .u64 0) ∧ w'.cell? ⟨b, 1, none⟩ = some (.int .u64 0) ∧ w'.cell? ⟨b, 2, none⟩ = some (.int .u64 0) ∧ w'.cell? ⟨b, 3, none⟩ = some (.int .u64 0) ∧ Old (w.alloc (Obj.cells #[.int .u64 18446744073709551615, .int .u64 18446744073709551615, .int .u64 18446744073709551615, .int .u64 18446744073709551615] 24)) w')
  case first =>
    go_region_held3 (fun w' => (∀ b o, b < (w.alloc (Obj.cells #[.int .u64 18446744073709551615, .int .u64 18446744073709551615, .int .u64 18446744073709551615, .int .u64 18446744073709551615] 24)).heap.size → w'.cell? ⟨b, o, none⟩ = (w.alloc (Obj.cells #[.int .u64 18446744073709551615, .int .u64 18446744073709551615, .int .u64 18446744073709551615, .int .u64 18446744073709551615] 24)).cell? ⟨b, o, none⟩) ∧ Below (w.alloc (Obj.cells #[.int .u64 18446744073709551615, .int .u64 18446744073709551615, .int .u64 18446744073709551615, .int .u64 18446744073709551615] 24)).heap.size (w.alloc (Obj.cells #[.int .u64 18446744073709551615, .int .u64 18446744073709551615, .int .u64 18446744073709551615, .int .u64 18446744073709551615] 24)) w') ((go_light; first | assumption | (refine old_of ?_; (repeat (first | exact Below.refl _ _ | apply Below.drew | refine bel_alloc ?_ _ | refine bel_set ?_ (by first | (simp; done) | (simp; omega)) _ | refine bel_call ?_ (by assumption))))))
      (first
        | (go_at_call 15; refine (of_1 _).mono ?_; rintro e w1 ⟨rfl, hb⟩; obtain ⟨hc, hf, hz⟩ := bcell hb; (try simp at hz); (try have q1 : w.heap.size < w1.heap.size := by omega); (try have q2 : w.heap.size + 1 < w1.heap.size := by omega))
        | (go_at_call 9; refine (add_ones _).mono ?_; rintro e w2 ⟨rfl, hb2⟩; obtain ⟨hc2, hf2, hz2⟩ := bcell hb2; (try simp at hz2)))
    all_goals
      go_wp2_with fail
      go_meet
      case rel => exact ⟨_, rfl, rfl, (by simp; try omega), (by go_simp), (by go_simp), (by go_simp), (by go_simp), old_of (by (repeat (first | exact Below.refl _ _ | apply Below.drew | refine bel_alloc ?_ _ | refine bel_set ?_ (by first | (simp; done) | (simp; omega)) _ | refine bel_call ?_ (by assumption))))⟩
  case rest =>
    obtain ⟨b, rfl, rfl, hbs, hc0, hc1, hc2, hc3, ho, hbel⟩ := hcut
    have hz := hbel.size
    simp at hz ho
    have q0 : w.heap.size < wc.heap.size := by omega
    go_wp2_with fail
    refine (of_1 _).mono ?_
    rintro e w1 ⟨rfl, hb1⟩
    obtain ⟨p1, f1, z1⟩ := bcell hb1
    have q1 : w.heap.size < w1.heap.size := by omega
    have k1 : b < w1.heap.size := by omega
    go_wp2_with fail
    refine (sub_ones _).mono ?_
    rintro e w2 ⟨rfl, hb2⟩
    obtain ⟨p2, f2, z2⟩ := bcell hb2
    have q2 : w.heap.size < w2.heap.size := by omega
    have k2 : b < w2.heap.size := by omega
    go_wp2_with fail
    refine (of_3 _).mono ?_
    rintro e w3 ⟨rfl, hb3⟩
    go_wp2_with fail
    refine (shl_top _).mono ?_
    rintro e w4 ⟨rfl, hb4⟩
    go_wp2_with fail
    refine (of_256 _).mono ?_
    rintro e w5 ⟨rfl, hb5⟩
    go_wp2_with fail
    refine (bits_9 _).mono ?_
    rintro e w6 ⟨rfl, hb6⟩
    go_wp2_with fail
    go_ret
    exact ⟨rfl, by (repeat (first | exact Below.refl _ _ | apply Below.drew | refine bel_alloc ?_ _ | refine bel_set ?_ (by first | (simp; done) | (simp; omega)) _ | refine bel_call ?_ (by assumption)))⟩
end Go.Proofs.Ytgmdckibfndbkaa
