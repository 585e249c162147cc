/- Contracts of shifts of layer 1. -/
import Derived.Test.YthbindnkichimaaXtWt
namespace Go.Proofs.Ythbindnkichimaa
open Go.RowKit
set_option linter.unusedVariables false

set_option maxRecDepth 100000 in
set_option maxHeartbeats 1000000 in
theorem shr_0_raw (a0 a1 a2 a3 k r : Nat) (hk : k < 256) (hq : (k : Int) / 64 = 0) (hr : (k : Int) % 64 = (r : Int)) (hr1 : r < 64) (w : World) : Calls Try.prog 54 #[U4 a0 a1 a2 a3, B k] w fun e w' => e = .returned (I4 (bits .or .u64 ((a0 : Int) / 2 ^ r) (IntKind.u64.wrap ((a1 : Int) * 2 ^ (64 - r)))) (bits .or .u64 ((a1 : Int) / 2 ^ r) (IntKind.u64.wrap ((a2 : Int) * 2 ^ (64 - r)))) (bits .or .u64 ((a2 : Int) / 2 ^ r) (IntKind.u64.wrap ((a3 : Int) * 2 ^ (64 - r)))) ((a3 : Int) / 2 ^ r)) ∧ Below w.heap.size w w' := by
  go_enter Try.func54, Try.ntmps54
  go_wp2
  refine wp_loop_rounds 5 ?_
  rw [rounds_succ]; go_wp2; go_region; go_wp2
  rw [rounds_succ]; go_wp2; go_region; go_wp2
  rw [rounds_succ]; go_wp2; go_region; go_wp2
  rw [rounds_succ]; go_wp2
  rw [rounds_succ]; go_wp2
  exact bodyPost_ret (v := I4 (bits .or .u64 ((a0 : Int) / 2 ^ r) (IntKind.u64.wrap ((a1 : Int) * 2 ^ (64 - r)))) (bits .or .u64 ((a1 : Int) / 2 ^ r) (IntKind.u64.wrap ((a2 : Int) * 2 ^ (64 - r)))) (bits .or .u64 ((a2 : Int) / 2 ^ r) (IntKind.u64.wrap ((a3 : Int) * 2 ^ (64 - r)))) ((a3 : Int) / 2 ^ r)) (by simp [results, Try.results54, go_sem]) rfl ⟨rfl, (by repeat (first | exact Below.refl _ _ | apply Below.drew | refine Below.alloc ?_ (by simp; try omega) _))⟩
set_option maxRecDepth 100000 in
set_option maxHeartbeats 1000000 in
theorem shr_1_raw (a0 a1 a2 a3 k r : Nat) (hk : k < 256) (hq : (k : Int) / 64 = 1) (hr : (k : Int) % 64 = (r : Int)) (hr1 : r < 64) (w : World) : Calls Try.prog 54 #[U4 a0 a1 a2 a3, B k] w fun e w' => e = .returned (I4 (bits .or .u64 ((a1 : Int) / 2 ^ r) (IntKind.u64.wrap ((a2 : Int) * 2 ^ (64 - r)))) (bits .or .u64 ((a2 : Int) / 2 ^ r) (IntKind.u64.wrap ((a3 : Int) * 2 ^ (64 - r)))) ((a3 : Int) / 2 ^ r) 0) ∧ Below w.heap.size w w' := by
  go_enter Try.func54, Try.ntmps54
  go_wp2
  refine wp_loop_rounds 5 ?_
  rw [rounds_succ]; go_wp2; go_region; go_wp2
  rw [rounds_succ]; go_wp2; go_region; go_wp2
  rw [rounds_succ]; go_wp2
  rw [rounds_succ]; go_wp2
  exact bodyPost_ret (v := I4 (bits .or .u64 ((a1 : Int) / 2 ^ r) (IntKind.u64.wrap ((a2 : Int) * 2 ^ (64 - r)))) (bits .or .u64 ((a2 : Int) / 2 ^ r) (IntKind.u64.wrap ((a3 : Int) * 2 ^ (64 - r)))) ((a3 : Int) / 2 ^ r) 0) (by simp [results, Try.results54, go_sem]) rfl ⟨rfl, (by repeat (first | exact Below.refl _ _ | apply Below.drew | refine Below.alloc ?_ (by simp; try omega) _))⟩
set_option maxRecDepth 100000 in
set_option maxHeartbeats 1000000 in
theorem shr_2_raw (a0 a1 a2 a3 k r : Nat) (hk : k < 256) (hq : (k : Int) / 64 = 2) (hr : (k : Int) % 64 = (r : Int)) (hr1 : r < 64) (w : World) : Calls Try.prog 54 #[U4 a0 a1 a2 a3, B k] w fun e w' => e = .returned (I4 (bits .or .u64 ((a2 : Int) / 2 ^ r) (IntKind.u64.wrap ((a3 : Int) * 2 ^ (64 - r)))) ((a3 : Int) / 2 ^ r) 0 0) ∧ Below w.heap.size w w' := by
  go_enter Try.func54, Try.ntmps54
  go_wp2
  refine wp_loop_rounds 5 ?_
  rw [rounds_succ]; go_wp2; go_region; go_wp2
  rw [rounds_succ]; go_wp2
  rw [rounds_succ]; go_wp2
  exact bodyPost_ret (v := I4 (bits .or .u64 ((a2 : Int) / 2 ^ r) (IntKind.u64.wrap ((a3 : Int) * 2 ^ (64 - r)))) ((a3 : Int) / 2 ^ r) 0 0) (by simp [results, Try.results54, go_sem]) rfl ⟨rfl, (by repeat (first | exact Below.refl _ _ | apply Below.drew | refine Below.alloc ?_ (by simp; try omega) _))⟩
set_option maxRecDepth 100000 in
set_option maxHeartbeats 1000000 in
theorem shr_3_raw (a0 a1 a2 a3 k r : Nat) (hk : k < 256) (hq : (k : Int) / 64 = 3) (hr : (k : Int) % 64 = (r : Int)) (hr1 : r < 64) (w : World) : Calls Try.prog 54 #[U4 a0 a1 a2 a3, B k] w fun e w' => e = .returned (I4 ((a3 : Int) / 2 ^ r) 0 0 0) ∧ Below w.heap.size w w' := by
  go_enter Try.func54, Try.ntmps54
  go_wp2
  refine wp_loop_rounds 5 ?_
  rw [rounds_succ]; go_wp2
  rw [rounds_succ]; go_wp2
  exact bodyPost_ret (v := I4 ((a3 : Int) / 2 ^ r) 0 0 0) (by simp [results, Try.results54, go_sem]) rfl ⟨rfl, (by repeat (first | exact Below.refl _ _ | apply Below.drew | refine Below.alloc ?_ (by simp; try omega) _))⟩
set_option maxRecDepth 100000 in
set_option maxHeartbeats 1000000 in
theorem shr_big_raw (a0 a1 a2 a3 k : Nat) (hk : 256 ≤ k) (w : World) : Calls Try.prog 54 #[U4 a0 a1 a2 a3, B k] w fun e w' => e = .returned (I4 0 0 0 0) ∧ Below w.heap.size w w' := by
  have hk' : (256 : Int) ≤ (k : Int) := by omega
  go_enter Try.func54, Try.ntmps54
  go_wp2
  exact bodyPost_ret (v := I4 0 0 0 0) (by simp [results, Try.results54, go_sem]) rfl ⟨rfl, (by repeat (first | exact Below.refl _ _ | apply Below.drew | refine Below.alloc ?_ (by simp; try omega) _))⟩
set_option maxRecDepth 100000 in
set_option maxHeartbeats 1000000 in
theorem rshr_big_raw (a0 a1 a2 a3 k : Nat) (hk : 256 ≤ k) (w : World) : Calls Try.prog 36 #[U4 a0 a1 a2 a3, B k] w fun e w' => e = .returned (I4 0 0 0 0) ∧ Below w.heap.size w w' := by
  have hk' : (256 : Int) ≤ (k : Int) := by omega
  go_enter Try.func36, Try.ntmps36
  go_wp2
  exact bodyPost_ret (v := I4 0 0 0 0) (by simp [results, Try.results36, go_sem]) rfl ⟨rfl, (by repeat (first | exact Below.refl _ _ | apply Below.drew | refine Below.alloc ?_ (by simp; try omega) _))⟩
end Go.Proofs.Ythbindnkichimaa
