/- Contracts of Bits of layer 1. -/
import Derived.Test.YtpdoonofipcbeaaDoorXsWt
import Derived.Test.YtpdoonofipcbeaaDoorXsLn
namespace Go.Proofs.YtpdoonofipcbeaaDoor
open Go.RowKit
def bits4 (a0 a1 a2 a3 : Nat) : Nat :=
  if a3 = 0 then if a2 = 0 then if a1 = 0 then if a0 = 0 then 0 else Lib.bitLen a0 else 64 + Lib.bitLen a1 else 128 + Lib.bitLen a2 else 192 + Lib.bitLen a3
theorem bitLen_le64 (x : Nat) (h : x < 18446744073709551616) : Lib.bitLen x ≤ 64 := Lib.bitLenAux_le 64 x 64 h
set_option maxHeartbeats 1000000 in
theorem bits_raw (a0 a1 a2 a3 : Nat) (g0 : a0 < 18446744073709551616) (g1 : a1 < 18446744073709551616) (g2 : a2 < 18446744073709551616) (g3 : a3 < 18446744073709551616) (w : World) : Calls Tryd.prog 70 #[U4 a0 a1 a2 a3] w fun e w' => e = .returned (.int .i64 (bits4 a0 a1 a2 a3 : Nat)) ∧ Below w.heap.size w w' := by
  have b0 := bitLen_le64 a0 g0
  have b1 := bitLen_le64 a1 g1
  have b2 := bitLen_le64 a2 g2
  have b3 := bitLen_le64 a3 g3
  go_enter Tryd.func70, Tryd.ntmps70
  go_wp2
  refine wp_loop_rounds 5 ?_
  by_cases h3 : a3 = 0
  case neg =>
    have k3 : ((a3 : Int) != 0) = true := by rw [bne_iff_ne]; omega
    rw [rounds_succ]; go_wp2_with (go_at_call 73; refine (len64_any a3 g3 _).mono ?_; rintro e w1 ⟨rfl, rfl⟩)
    go_ret
    exact ⟨by rw [bits4, if_neg h3]; simp; done, (by repeat (first | exact Below.refl _ _ | apply Below.drew | refine Below.alloc ?_ (by simp; try omega) _))⟩
  have k3 : ((a3 : Int) != 0) = false := by rw [h3]; rfl
  rw [rounds_succ]; go_wp2
  by_cases h2 : a2 = 0
  case neg =>
    have k2 : ((a2 : Int) != 0) = true := by rw [bne_iff_ne]; omega
    rw [rounds_succ]; go_wp2_with (go_at_call 73; refine (len64_any a2 g2 _).mono ?_; rintro e w1 ⟨rfl, rfl⟩)
    go_ret
    exact ⟨by rw [bits4, if_pos h3, if_neg h2]; simp; done, (by repeat (first | exact Below.refl _ _ | apply Below.drew | refine Below.alloc ?_ (by simp; try omega) _))⟩
  have k2 : ((a2 : Int) != 0) = false := by rw [h2]; rfl
  rw [rounds_succ]; go_wp2
  by_cases h1 : a1 = 0
  case neg =>
    have k1 : ((a1 : Int) != 0) = true := by rw [bne_iff_ne]; omega
    rw [rounds_succ]; go_wp2_with (go_at_call 73; refine (len64_any a1 g1 _).mono ?_; rintro e w1 ⟨rfl, rfl⟩)
    go_ret
    exact ⟨by rw [bits4, if_pos h3, if_pos h2, if_neg h1]; simp; done, (by repeat (first | exact Below.refl _ _ | apply Below.drew | refine Below.alloc ?_ (by simp; try omega) _))⟩
  have k1 : ((a1 : Int) != 0) = false := by rw [h1]; rfl
  rw [rounds_succ]; go_wp2
  by_cases h0 : a0 = 0
  case neg =>
    have k0 : ((a0 : Int) != 0) = true := by rw [bne_iff_ne]; omega
    rw [rounds_succ]; go_wp2_with (go_at_call 73; refine (len64_any a0 g0 _).mono ?_; rintro e w1 ⟨rfl, rfl⟩)
    go_ret
    exact ⟨by rw [bits4, if_pos h3, if_pos h2, if_pos h1, if_neg h0]; simp; done, (by repeat (first | exact Below.refl _ _ | apply Below.drew | refine Below.alloc ?_ (by simp; try omega) _))⟩
  have k0 : ((a0 : Int) != 0) = false := by rw [h0]; rfl
  rw [rounds_succ]; go_wp2
  rw [rounds_succ]; go_wp2; go_ret; exact ⟨by rw [bits4, if_pos h3, if_pos h2, if_pos h1, if_pos h0]; rfl, (by repeat (first | exact Below.refl _ _ | apply Below.drew | refine Below.alloc ?_ (by simp; try omega) _))⟩
set_option maxHeartbeats 1000000 in
theorem rbits_raw (a0 a1 a2 a3 : Nat) (g0 : a0 < 18446744073709551616) (g1 : a1 < 18446744073709551616) (g2 : a2 < 18446744073709551616) (g3 : a3 < 18446744073709551616) (w : World) : Calls Tryd.prog 50 #[U4 a0 a1 a2 a3] w fun e w' => e = .returned (.int .i64 (bits4 a0 a1 a2 a3 : Nat)) ∧ Below w.heap.size w w' := by
  have b0 := bitLen_le64 a0 g0
  have b1 := bitLen_le64 a1 g1
  have b2 := bitLen_le64 a2 g2
  have b3 := bitLen_le64 a3 g3
  go_enter Tryd.func50, Tryd.ntmps50
  go_wp2
  refine wp_loop_rounds 5 ?_
  by_cases h3 : a3 = 0
  case neg =>
    have k3 : ((a3 : Int) != 0) = true := by rw [bne_iff_ne]; omega
    rw [rounds_succ]; go_wp2_with (go_at_call 73; refine (len64_any a3 g3 _).mono ?_; rintro e w1 ⟨rfl, rfl⟩)
    go_ret
    exact ⟨by rw [bits4, if_neg h3]; simp; done, (by repeat (first | exact Below.refl _ _ | apply Below.drew | refine Below.alloc ?_ (by simp; try omega) _))⟩
  have k3 : ((a3 : Int) != 0) = false := by rw [h3]; rfl
  rw [rounds_succ]; go_wp2
  by_cases h2 : a2 = 0
  case neg =>
    have k2 : ((a2 : Int) != 0) = true := by rw [bne_iff_ne]; omega
    rw [rounds_succ]; go_wp2_with (go_at_call 73; refine (len64_any a2 g2 _).mono ?_; rintro e w1 ⟨rfl, rfl⟩)
    go_ret
    exact ⟨by rw [bits4, if_pos h3, if_neg h2]; simp; done, (by repeat (first | exact Below.refl _ _ | apply Below.drew | refine Below.alloc ?_ (by simp; try omega) _))⟩
  have k2 : ((a2 : Int) != 0) = false := by rw [h2]; rfl
  rw [rounds_succ]; go_wp2
  by_cases h1 : a1 = 0
  case neg =>
    have k1 : ((a1 : Int) != 0) = true := by rw [bne_iff_ne]; omega
    rw [rounds_succ]; go_wp2_with (go_at_call 73; refine (len64_any a1 g1 _).mono ?_; rintro e w1 ⟨rfl, rfl⟩)
    go_ret
    exact ⟨by rw [bits4, if_pos h3, if_pos h2, if_neg h1]; simp; done, (by repeat (first | exact Below.refl _ _ | apply Below.drew | refine Below.alloc ?_ (by simp; try omega) _))⟩
  have k1 : ((a1 : Int) != 0) = false := by rw [h1]; rfl
  rw [rounds_succ]; go_wp2
  by_cases h0 : a0 = 0
  case neg =>
    have k0 : ((a0 : Int) != 0) = true := by rw [bne_iff_ne]; omega
    rw [rounds_succ]; go_wp2_with (go_at_call 73; refine (len64_any a0 g0 _).mono ?_; rintro e w1 ⟨rfl, rfl⟩)
    go_ret
    exact ⟨by rw [bits4, if_pos h3, if_pos h2, if_pos h1, if_neg h0]; simp; done, (by repeat (first | exact Below.refl _ _ | apply Below.drew | refine Below.alloc ?_ (by simp; try omega) _))⟩
  have k0 : ((a0 : Int) != 0) = false := by rw [h0]; rfl
  rw [rounds_succ]; go_wp2
  rw [rounds_succ]; go_wp2; go_ret; exact ⟨by rw [bits4, if_pos h3, if_pos h2, if_pos h1, if_pos h0]; rfl, (by repeat (first | exact Below.refl _ _ | apply Below.drew | refine Below.alloc ?_ (by simp; try omega) _))⟩
end Go.Proofs.YtpdoonofipcbeaaDoor
