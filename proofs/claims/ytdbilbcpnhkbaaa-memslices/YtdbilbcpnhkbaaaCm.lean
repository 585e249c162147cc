/- Contracts of the comparisons of layer 1. -/
import Derived.Test.YtdbilbcpnhkbaaaWt
namespace Go.Proofs.Ytdbilbcpnhkbaaa
open Go.RowKit
def cmp4 (a0 a1 a2 a3 b0 b1 b2 b3 : Nat) : Int :=
  if a3 < b3 then -1 else if b3 < a3 then 1 else if a2 < b2 then -1 else if b2 < a2 then 1 else if a1 < b1 then -1 else if b1 < a1 then 1 else if a0 < b0 then -1 else if b0 < a0 then 1 else 0

set_option maxHeartbeats 1000000 in
theorem cmp_raw (a0 a1 a2 a3 b0 b1 b2 b3 : Nat) (w : World) : Calls Try.prog 20 #[U4 a0 a1 a2 a3, U4 b0 b1 b2 b3] w fun e w' => e = .returned (.int .i64 (cmp4 a0 a1 a2 a3 b0 b1 b2 b3)) ∧ Below w.heap.size w w' := by
  go_enter Try.func20, Try.ntmps20
  go_wp2
  refine wp_loop_rounds 5 ?_
  by_cases h3 : a3 < b3
  · rw [rounds_succ]; go_wp2; go_region; go_wp2; go_ret; exact ⟨by rw [cmp4, if_pos h3]; rfl, (by repeat (first | exact Below.refl _ _ | apply Below.drew | refine Below.alloc ?_ (by simp; try omega) _))⟩
  by_cases k3 : b3 < a3
  · rw [rounds_succ]; go_wp2; go_region; go_wp2; go_region; go_wp2; go_ret; exact ⟨by rw [cmp4, if_neg h3, if_pos k3]; rfl, (by repeat (first | exact Below.refl _ _ | apply Below.drew | refine Below.alloc ?_ (by simp; try omega) _))⟩
  rw [rounds_succ]; go_wp2; go_region; go_wp2; go_region; go_wp2
  by_cases h2 : a2 < b2
  · rw [rounds_succ]; go_wp2; go_region; go_wp2; go_ret; exact ⟨by rw [cmp4, if_neg h3, if_neg k3, if_pos h2]; rfl, (by repeat (first | exact Below.refl _ _ | apply Below.drew | refine Below.alloc ?_ (by simp; try omega) _))⟩
  by_cases k2 : b2 < a2
  · rw [rounds_succ]; go_wp2; go_region; go_wp2; go_region; go_wp2; go_ret; exact ⟨by rw [cmp4, if_neg h3, if_neg k3, if_neg h2, if_pos k2]; rfl, (by repeat (first | exact Below.refl _ _ | apply Below.drew | refine Below.alloc ?_ (by simp; try omega) _))⟩
  rw [rounds_succ]; go_wp2; go_region; go_wp2; go_region; go_wp2
  by_cases h1 : a1 < b1
  · rw [rounds_succ]; go_wp2; go_region; go_wp2; go_ret; exact ⟨by rw [cmp4, if_neg h3, if_neg k3, if_neg h2, if_neg k2, if_pos h1]; rfl, (by repeat (first | exact Below.refl _ _ | apply Below.drew | refine Below.alloc ?_ (by simp; try omega) _))⟩
  by_cases k1 : b1 < a1
  · rw [rounds_succ]; go_wp2; go_region; go_wp2; go_region; go_wp2; go_ret; exact ⟨by rw [cmp4, if_neg h3, if_neg k3, if_neg h2, if_neg k2, if_neg h1, if_pos k1]; rfl, (by repeat (first | exact Below.refl _ _ | apply Below.drew | refine Below.alloc ?_ (by simp; try omega) _))⟩
  rw [rounds_succ]; go_wp2; go_region; go_wp2; go_region; go_wp2
  by_cases h0 : a0 < b0
  · rw [rounds_succ]; go_wp2; go_region; go_wp2; go_ret; exact ⟨by rw [cmp4, if_neg h3, if_neg k3, if_neg h2, if_neg k2, if_neg h1, if_neg k1, if_pos h0]; rfl, (by repeat (first | exact Below.refl _ _ | apply Below.drew | refine Below.alloc ?_ (by simp; try omega) _))⟩
  by_cases k0 : b0 < a0
  · rw [rounds_succ]; go_wp2; go_region; go_wp2; go_region; go_wp2; go_ret; exact ⟨by rw [cmp4, if_neg h3, if_neg k3, if_neg h2, if_neg k2, if_neg h1, if_neg k1, if_neg h0, if_pos k0]; rfl, (by repeat (first | exact Below.refl _ _ | apply Below.drew | refine Below.alloc ?_ (by simp; try omega) _))⟩
  rw [rounds_succ]; go_wp2; go_region; go_wp2; go_region; go_wp2
  rw [rounds_succ]; go_wp2; go_ret; exact ⟨by rw [cmp4, if_neg h3, if_neg k3, if_neg h2, if_neg k2, if_neg h1, if_neg k1, if_neg h0, if_neg k0]; rfl, (by repeat (first | exact Below.refl _ _ | apply Below.drew | refine Below.alloc ?_ (by simp; try omega) _))⟩

set_option maxHeartbeats 1000000 in
theorem rcmp_raw (a0 a1 a2 a3 b0 b1 b2 b3 : Nat) (w : World) : Calls Try.prog 25 #[U4 a0 a1 a2 a3, U4 b0 b1 b2 b3] w fun e w' => e = .returned (.int .i64 (cmp4 a0 a1 a2 a3 b0 b1 b2 b3)) ∧ Below w.heap.size w w' := by
  go_enter Try.func25, Try.ntmps25
  go_wp2
  refine wp_loop_rounds 5 ?_
  by_cases h3 : a3 < b3
  · rw [rounds_succ]; go_wp2; go_region; go_wp2; go_ret; exact ⟨by rw [cmp4, if_pos h3]; rfl, (by repeat (first | exact Below.refl _ _ | apply Below.drew | refine Below.alloc ?_ (by simp; try omega) _))⟩
  by_cases k3 : b3 < a3
  · rw [rounds_succ]; go_wp2; go_region; go_wp2; go_region; go_wp2; go_ret; exact ⟨by rw [cmp4, if_neg h3, if_pos k3]; rfl, (by repeat (first | exact Below.refl _ _ | apply Below.drew | refine Below.alloc ?_ (by simp; try omega) _))⟩
  rw [rounds_succ]; go_wp2; go_region; go_wp2; go_region; go_wp2
  by_cases h2 : a2 < b2
  · rw [rounds_succ]; go_wp2; go_region; go_wp2; go_ret; exact ⟨by rw [cmp4, if_neg h3, if_neg k3, if_pos h2]; rfl, (by repeat (first | exact Below.refl _ _ | apply Below.drew | refine Below.alloc ?_ (by simp; try omega) _))⟩
  by_cases k2 : b2 < a2
  · rw [rounds_succ]; go_wp2; go_region; go_wp2; go_region; go_wp2; go_ret; exact ⟨by rw [cmp4, if_neg h3, if_neg k3, if_neg h2, if_pos k2]; rfl, (by repeat (first | exact Below.refl _ _ | apply Below.drew | refine Below.alloc ?_ (by simp; try omega) _))⟩
  rw [rounds_succ]; go_wp2; go_region; go_wp2; go_region; go_wp2
  by_cases h1 : a1 < b1
  · rw [rounds_succ]; go_wp2; go_region; go_wp2; go_ret; exact ⟨by rw [cmp4, if_neg h3, if_neg k3, if_neg h2, if_neg k2, if_pos h1]; rfl, (by repeat (first | exact Below.refl _ _ | apply Below.drew | refine Below.alloc ?_ (by simp; try omega) _))⟩
  by_cases k1 : b1 < a1
  · rw [rounds_succ]; go_wp2; go_region; go_wp2; go_region; go_wp2; go_ret; exact ⟨by rw [cmp4, if_neg h3, if_neg k3, if_neg h2, if_neg k2, if_neg h1, if_pos k1]; rfl, (by repeat (first | exact Below.refl _ _ | apply Below.drew | refine Below.alloc ?_ (by simp; try omega) _))⟩
  rw [rounds_succ]; go_wp2; go_region; go_wp2; go_region; go_wp2
  by_cases h0 : a0 < b0
  · rw [rounds_succ]; go_wp2; go_region; go_wp2; go_ret; exact ⟨by rw [cmp4, if_neg h3, if_neg k3, if_neg h2, if_neg k2, if_neg h1, if_neg k1, if_pos h0]; rfl, (by repeat (first | exact Below.refl _ _ | apply Below.drew | refine Below.alloc ?_ (by simp; try omega) _))⟩
  by_cases k0 : b0 < a0
  · rw [rounds_succ]; go_wp2; go_region; go_wp2; go_region; go_wp2; go_ret; exact ⟨by rw [cmp4, if_neg h3, if_neg k3, if_neg h2, if_neg k2, if_neg h1, if_neg k1, if_neg h0, if_pos k0]; rfl, (by repeat (first | exact Below.refl _ _ | apply Below.drew | refine Below.alloc ?_ (by simp; try omega) _))⟩
  rw [rounds_succ]; go_wp2; go_region; go_wp2; go_region; go_wp2
  rw [rounds_succ]; go_wp2; go_ret; exact ⟨by rw [cmp4, if_neg h3, if_neg k3, if_neg h2, if_neg k2, if_neg h1, if_neg k1, if_neg h0, if_neg k0]; rfl, (by repeat (first | exact Below.refl _ _ | apply Below.drew | refine Below.alloc ?_ (by simp; try omega) _))⟩

end Go.Proofs.Ytdbilbcpnhkbaaa
