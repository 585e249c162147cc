/- Comparisons of both sides, by numbers. -/
import Derived.Test.YtabghfcjpaileaaCa
import Derived.Test.YtabghfcjpaileaaCm
import Derived.Test.YtabghfcjpaileaaNv
import Derived.Test.YtabghfcjpaileaaWt
namespace Go.Proofs.Ytabghfcjpaileaa
open Go.RowKit
set_option maxHeartbeats 1000000 in
theorem cmp_raw (a0 a1 a2 a3 b0 b1 b2 b3 : Nat) (w : World) : Calls Try.prog 34 #[U4 a0 a1 a2 a3, U4 b0 b1 b2 b3] w fun e w' => e = .returned (.int .i64 (cmp4 a0 a1 a2 a3 b0 b1 b2 b3)) ∧ Below w.heap.size w w' := by
  go_enter Try.func34, Try.ntmps34
  go_wp2
  refine wp_loop_rounds 5 ?_
  by_cases h3 : a3 < b3
  · rw [rounds_succ]; go_wp2; go_region; go_wp2; go_ret; exact ⟨by rw [cmp4, if_pos h3]; rfl, (by repeat (first | exact Below.refl _ _ | apply Below.drew | refine Below.alloc ?_ (by simp; try omega) _))⟩
  by_cases k3 : b3 < a3
  · rw [rounds_succ]; go_wp2; go_region; go_wp2; go_region; go_wp2; go_ret; exact ⟨by rw [cmp4, if_neg h3, if_pos k3]; rfl, (by repeat (first | exact Below.refl _ _ | apply Below.drew | refine Below.alloc ?_ (by simp; try omega) _))⟩
  rw [rounds_succ]; go_wp2; go_region; go_wp2; go_region; go_wp2
  by_cases h2 : a2 < b2
  · rw [rounds_succ]; go_wp2; go_region; go_wp2; go_ret; exact ⟨by rw [cmp4, if_neg h3, if_neg k3, if_pos h2]; rfl, (by repeat (first | exact Below.refl _ _ | apply Below.drew | refine Below.alloc ?_ (by simp; try omega) _))⟩
  by_cases k2 : b2 < a2
  · rw [rounds_succ]; go_wp2; go_region; go_wp2; go_region; go_wp2; go_ret; exact ⟨by rw [cmp4, if_neg h3, if_neg k3, if_neg h2, if_pos k2]; rfl, (by repeat (first | exact Below.refl _ _ | apply Below.drew | refine Below.alloc ?_ (by simp; try omega) _))⟩
  rw [rounds_succ]; go_wp2; go_region; go_wp2; go_region; go_wp2
  by_cases h1 : a1 < b1
  · rw [rounds_succ]; go_wp2; go_region; go_wp2; go_ret; exact ⟨by rw [cmp4, if_neg h3, if_neg k3, if_neg h2, if_neg k2, if_pos h1]; rfl, (by repeat (first | exact Below.refl _ _ | apply Below.drew | refine Below.alloc ?_ (by simp; try omega) _))⟩
  by_cases k1 : b1 < a1
  · rw [rounds_succ]; go_wp2; go_region; go_wp2; go_region; go_wp2; go_ret; exact ⟨by rw [cmp4, if_neg h3, if_neg k3, if_neg h2, if_neg k2, if_neg h1, if_pos k1]; rfl, (by repeat (first | exact Below.refl _ _ | apply Below.drew | refine Below.alloc ?_ (by simp; try omega) _))⟩
  rw [rounds_succ]; go_wp2; go_region; go_wp2; go_region; go_wp2
  by_cases h0 : a0 < b0
  · rw [rounds_succ]; go_wp2; go_region; go_wp2; go_ret; exact ⟨by rw [cmp4, if_neg h3, if_neg k3, if_neg h2, if_neg k2, if_neg h1, if_neg k1, if_pos h0]; rfl, (by repeat (first | exact Below.refl _ _ | apply Below.drew | refine Below.alloc ?_ (by simp; try omega) _))⟩
  by_cases k0 : b0 < a0
  · rw [rounds_succ]; go_wp2; go_region; go_wp2; go_region; go_wp2; go_ret; exact ⟨by rw [cmp4, if_neg h3, if_neg k3, if_neg h2, if_neg k2, if_neg h1, if_neg k1, if_neg h0, if_pos k0]; rfl, (by repeat (first | exact Below.refl _ _ | apply Below.drew | refine Below.alloc ?_ (by simp; try omega) _))⟩
  rw [rounds_succ]; go_wp2; go_region; go_wp2; go_region; go_wp2
  rw [rounds_succ]; go_wp2; go_ret; exact ⟨by rw [cmp4, if_neg h3, if_neg k3, if_neg h2, if_neg k2, if_neg h1, if_neg k1, if_neg h0, if_neg k0]; rfl, (by repeat (first | exact Below.refl _ _ | apply Below.drew | refine Below.alloc ?_ (by simp; try omega) _))⟩

set_option maxHeartbeats 1000000 in
theorem rcmp_raw (a0 a1 a2 a3 b0 b1 b2 b3 : Nat) (w : World) : Calls Try.prog 16 #[U4 a0 a1 a2 a3, U4 b0 b1 b2 b3] w fun e w' => e = .returned (.int .i64 (cmp4 a0 a1 a2 a3 b0 b1 b2 b3)) ∧ Below w.heap.size w w' := by
  go_enter Try.func16, Try.ntmps16
  go_wp2
  refine wp_loop_rounds 5 ?_
  by_cases h3 : a3 < b3
  · rw [rounds_succ]; go_wp2; go_region; go_wp2; go_ret; exact ⟨by rw [cmp4, if_pos h3]; rfl, (by repeat (first | exact Below.refl _ _ | apply Below.drew | refine Below.alloc ?_ (by simp; try omega) _))⟩
  by_cases k3 : b3 < a3
  · rw [rounds_succ]; go_wp2; go_region; go_wp2; go_region; go_wp2; go_ret; exact ⟨by rw [cmp4, if_neg h3, if_pos k3]; rfl, (by repeat (first | exact Below.refl _ _ | apply Below.drew | refine Below.alloc ?_ (by simp; try omega) _))⟩
  rw [rounds_succ]; go_wp2; go_region; go_wp2; go_region; go_wp2
  by_cases h2 : a2 < b2
  · rw [rounds_succ]; go_wp2; go_region; go_wp2; go_ret; exact ⟨by rw [cmp4, if_neg h3, if_neg k3, if_pos h2]; rfl, (by repeat (first | exact Below.refl _ _ | apply Below.drew | refine Below.alloc ?_ (by simp; try omega) _))⟩
  by_cases k2 : b2 < a2
  · rw [rounds_succ]; go_wp2; go_region; go_wp2; go_region; go_wp2; go_ret; exact ⟨by rw [cmp4, if_neg h3, if_neg k3, if_neg h2, if_pos k2]; rfl, (by repeat (first | exact Below.refl _ _ | apply Below.drew | refine Below.alloc ?_ (by simp; try omega) _))⟩
  rw [rounds_succ]; go_wp2; go_region; go_wp2; go_region; go_wp2
  by_cases h1 : a1 < b1
  · rw [rounds_succ]; go_wp2; go_region; go_wp2; go_ret; exact ⟨by rw [cmp4, if_neg h3, if_neg k3, if_neg h2, if_neg k2, if_pos h1]; rfl, (by repeat (first | exact Below.refl _ _ | apply Below.drew | refine Below.alloc ?_ (by simp; try omega) _))⟩
  by_cases k1 : b1 < a1
  · rw [rounds_succ]; go_wp2; go_region; go_wp2; go_region; go_wp2; go_ret; exact ⟨by rw [cmp4, if_neg h3, if_neg k3, if_neg h2, if_neg k2, if_neg h1, if_pos k1]; rfl, (by repeat (first | exact Below.refl _ _ | apply Below.drew | refine Below.alloc ?_ (by simp; try omega) _))⟩
  rw [rounds_succ]; go_wp2; go_region; go_wp2; go_region; go_wp2
  by_cases h0 : a0 < b0
  · rw [rounds_succ]; go_wp2; go_region; go_wp2; go_ret; exact ⟨by rw [cmp4, if_neg h3, if_neg k3, if_neg h2, if_neg k2, if_neg h1, if_neg k1, if_pos h0]; rfl, (by repeat (first | exact Below.refl _ _ | apply Below.drew | refine Below.alloc ?_ (by simp; try omega) _))⟩
  by_cases k0 : b0 < a0
  · rw [rounds_succ]; go_wp2; go_region; go_wp2; go_region; go_wp2; go_ret; exact ⟨by rw [cmp4, if_neg h3, if_neg k3, if_neg h2, if_neg k2, if_neg h1, if_neg k1, if_neg h0, if_pos k0]; rfl, (by repeat (first | exact Below.refl _ _ | apply Below.drew | refine Below.alloc ?_ (by simp; try omega) _))⟩
  rw [rounds_succ]; go_wp2; go_region; go_wp2; go_region; go_wp2
  rw [rounds_succ]; go_wp2; go_ret; exact ⟨by rw [cmp4, if_neg h3, if_neg k3, if_neg h2, if_neg k2, if_neg h1, if_neg k1, if_neg h0, if_neg k0]; rfl, (by repeat (first | exact Below.refl _ _ | apply Below.drew | refine Below.alloc ?_ (by simp; try omega) _))⟩


theorem cmp_any (n m : Nat) (hn : n < W) (hm : m < W) (w : World) : Calls Try.prog 34 #[U n, U m] w fun e w' => e = .returned (.int .i64 (cmpN n m)) ∧ Below w.heap.size w w' := by
  refine (cmp_raw (l0 n) (l1 n) (l2 n) (l3 n) (l0 m) (l1 m) (l2 m) (l3 m) w).mono ?_
  rintro e w' ⟨rfl, hb⟩
  exact ⟨by rw [cmp4_eq n m hn hm], hb⟩

theorem rcmp_any (n m : Nat) (hn : n < W) (hm : m < W) (w : World) : Calls Try.prog 16 #[U n, U m] w fun e w' => e = .returned (.int .i64 (cmpN n m)) ∧ Below w.heap.size w w' := by
  refine (rcmp_raw (l0 n) (l1 n) (l2 n) (l3 n) (l0 m) (l1 m) (l2 m) (l3 m) w).mono ?_
  rintro e w' ⟨rfl, hb⟩
  exact ⟨by rw [cmp4_eq n m hn hm], hb⟩



end Go.Proofs.Ytabghfcjpaileaa
