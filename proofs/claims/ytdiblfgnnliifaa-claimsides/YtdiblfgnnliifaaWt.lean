/- Contracts of the functions of layer 1 that work part by part: what each hands back, and that nothing that was there is changed. -/
import Derived.Test.YtdiblfgnnliifaaProg
import Derived.Test.YtdiblfgnnliifaaNum
import Derived.WalkKit
import Derived.BigRegion
namespace Go.Proofs.Ytdiblfgnnliifaa
open Go.RowKit
set_option linter.unusedVariables false
abbrev B (x : Nat) : Value := .int .u64 (x : Int)
abbrev U4 (a b c d : Nat) : Value := .agg #[B a, B b, B c, B d]
abbrev I4 (a b c d : Int) : Value := .agg #[.int .u64 a, .int .u64 b, .int .u64 c, .int .u64 d]
abbrev U (n : Nat) : Value := U4 (l0 n) (l1 n) (l2 n) (l3 n)

set_option maxHeartbeats 400000 in
theorem add_raw (s c : Nat → Nat → Nat → Nat) (hc : ∀ x y k : Nat, c x y k ≤ 1) (hr : ∀ x y k : Nat, x < M → y < M → k ≤ 1 → ∀ w, (callFunc 35 #[.int .u64 x, .int .u64 y, .int .u64 k]).run Try.prog w = .ok (.value (.tuple #[B (s x y k), B (c x y k)])) w) (hr0 : ∀ x y : Nat, x < M → y < M → ∀ w, (callFunc 35 #[.int .u64 x, .int .u64 y, .int .u64 0]).run Try.prog w = .ok (.value (.tuple #[B (s x y 0), B (c x y 0)])) w) (a0 a1 a2 a3 b0 b1 b2 b3 : Nat) (g0 : a0 < M) (j0 : b0 < M) (g1 : a1 < M) (j1 : b1 < M) (g2 : a2 < M) (j2 : b2 < M) (g3 : a3 < M) (j3 : b3 < M) (w : World) : Calls Try.prog 23 #[U4 a0 a1 a2 a3, U4 b0 b1 b2 b3] w fun e w' => e = .returned (.tuple #[U4 (s a0 b0 0) (s a1 b1 (c a0 b0 0)) (s a2 b2 (c a1 b1 (c a0 b0 0))) (s a3 b3 (c a2 b2 (c a1 b1 (c a0 b0 0)))), .bool (((c a3 b3 (c a2 b2 (c a1 b1 (c a0 b0 0)))) : Int) != 0)]) ∧ Below w.heap.size w w' := by
  go_enter Try.func23, Try.ntmps23
  go_wp2
  refine wp_loop_rounds 5 ?_
  iterate 4 (rw [rounds_succ]; go_wp2; go_region; go_wp2)
  rw [rounds_succ]; go_wp2
  exact bodyPost_ret (v := .tuple #[U4 (s a0 b0 0) (s a1 b1 (c a0 b0 0)) (s a2 b2 (c a1 b1 (c a0 b0 0))) (s a3 b3 (c a2 b2 (c a1 b1 (c a0 b0 0)))), .bool (((c a3 b3 (c a2 b2 (c a1 b1 (c a0 b0 0)))) : Int) != 0)]) (by simp [results, Try.results23, go_sem]) rfl ⟨rfl, (by repeat (first | exact Below.refl _ _ | apply Below.drew | refine Below.alloc ?_ (by simp; try omega) _))⟩

set_option maxHeartbeats 400000 in
theorem radd_raw (s c : Nat → Nat → Nat → Nat) (hc : ∀ x y k : Nat, c x y k ≤ 1) (hr : ∀ x y k : Nat, x < M → y < M → k ≤ 1 → ∀ w, (callFunc 35 #[.int .u64 x, .int .u64 y, .int .u64 k]).run Try.prog w = .ok (.value (.tuple #[B (s x y k), B (c x y k)])) w) (hr0 : ∀ x y : Nat, x < M → y < M → ∀ w, (callFunc 35 #[.int .u64 x, .int .u64 y, .int .u64 0]).run Try.prog w = .ok (.value (.tuple #[B (s x y 0), B (c x y 0)])) w) (a0 a1 a2 a3 b0 b1 b2 b3 : Nat) (g0 : a0 < M) (j0 : b0 < M) (g1 : a1 < M) (j1 : b1 < M) (g2 : a2 < M) (j2 : b2 < M) (g3 : a3 < M) (j3 : b3 < M) (w : World) : Calls Try.prog 16 #[U4 a0 a1 a2 a3, U4 b0 b1 b2 b3] w fun e w' => e = .returned (.tuple #[U4 (s a0 b0 0) (s a1 b1 (c a0 b0 0)) (s a2 b2 (c a1 b1 (c a0 b0 0))) (s a3 b3 (c a2 b2 (c a1 b1 (c a0 b0 0)))), .bool (decide (0 < (c a3 b3 (c a2 b2 (c a1 b1 (c a0 b0 0))))))]) ∧ Below w.heap.size w w' := by
  go_enter Try.func16, Try.ntmps16
  go_wp2
  refine wp_loop_rounds 5 ?_
  iterate 4 (rw [rounds_succ]; go_wp2; go_region; go_wp2)
  rw [rounds_succ]; go_wp2
  exact bodyPost_ret (v := .tuple #[U4 (s a0 b0 0) (s a1 b1 (c a0 b0 0)) (s a2 b2 (c a1 b1 (c a0 b0 0))) (s a3 b3 (c a2 b2 (c a1 b1 (c a0 b0 0)))), .bool (decide (0 < (c a3 b3 (c a2 b2 (c a1 b1 (c a0 b0 0))))))]) (by simp [results, Try.results16, go_sem]) rfl ⟨rfl, (by repeat (first | exact Below.refl _ _ | apply Below.drew | refine Below.alloc ?_ (by simp; try omega) _))⟩

set_option maxHeartbeats 400000 in
theorem sub_raw (s c : Nat → Nat → Nat → Nat) (hc : ∀ x y k : Nat, c x y k ≤ 1) (hr : ∀ x y k : Nat, k ≤ 1 → ∀ w, (callFunc 34 #[.int .u64 x, .int .u64 y, .int .u64 k]).run Try.prog w = .ok (.value (.tuple #[B (s x y k), B (c x y k)])) w) (hr0 : ∀ x y : Nat, ∀ w, (callFunc 34 #[.int .u64 x, .int .u64 y, .int .u64 0]).run Try.prog w = .ok (.value (.tuple #[B (s x y 0), B (c x y 0)])) w) (a0 a1 a2 a3 b0 b1 b2 b3 : Nat)  (w : World) : Calls Try.prog 33 #[U4 a0 a1 a2 a3, U4 b0 b1 b2 b3] w fun e w' => e = .returned (.tuple #[U4 (s a0 b0 0) (s a1 b1 (c a0 b0 0)) (s a2 b2 (c a1 b1 (c a0 b0 0))) (s a3 b3 (c a2 b2 (c a1 b1 (c a0 b0 0)))), .bool (((c a3 b3 (c a2 b2 (c a1 b1 (c a0 b0 0)))) : Int) != 0)]) ∧ Below w.heap.size w w' := by
  go_enter Try.func33, Try.ntmps33
  go_wp2
  refine wp_loop_rounds 5 ?_
  iterate 4 (rw [rounds_succ]; go_wp2; go_region; go_wp2)
  rw [rounds_succ]; go_wp2
  exact bodyPost_ret (v := .tuple #[U4 (s a0 b0 0) (s a1 b1 (c a0 b0 0)) (s a2 b2 (c a1 b1 (c a0 b0 0))) (s a3 b3 (c a2 b2 (c a1 b1 (c a0 b0 0)))), .bool (((c a3 b3 (c a2 b2 (c a1 b1 (c a0 b0 0)))) : Int) != 0)]) (by simp [results, Try.results33, go_sem]) rfl ⟨rfl, (by repeat (first | exact Below.refl _ _ | apply Below.drew | refine Below.alloc ?_ (by simp; try omega) _))⟩

set_option maxHeartbeats 400000 in
theorem rsub_raw (s c : Nat → Nat → Nat → Nat) (hc : ∀ x y k : Nat, c x y k ≤ 1) (hr : ∀ x y k : Nat, k ≤ 1 → ∀ w, (callFunc 34 #[.int .u64 x, .int .u64 y, .int .u64 k]).run Try.prog w = .ok (.value (.tuple #[B (s x y k), B (c x y k)])) w) (hr0 : ∀ x y : Nat, ∀ w, (callFunc 34 #[.int .u64 x, .int .u64 y, .int .u64 0]).run Try.prog w = .ok (.value (.tuple #[B (s x y 0), B (c x y 0)])) w) (a0 a1 a2 a3 b0 b1 b2 b3 : Nat)  (w : World) : Calls Try.prog 15 #[U4 a0 a1 a2 a3, U4 b0 b1 b2 b3] w fun e w' => e = .returned (.tuple #[U4 (s a0 b0 0) (s a1 b1 (c a0 b0 0)) (s a2 b2 (c a1 b1 (c a0 b0 0))) (s a3 b3 (c a2 b2 (c a1 b1 (c a0 b0 0)))), .bool (decide (0 < (c a3 b3 (c a2 b2 (c a1 b1 (c a0 b0 0))))))]) ∧ Below w.heap.size w w' := by
  go_enter Try.func15, Try.ntmps15
  go_wp2
  refine wp_loop_rounds 5 ?_
  iterate 4 (rw [rounds_succ]; go_wp2; go_region; go_wp2)
  rw [rounds_succ]; go_wp2
  exact bodyPost_ret (v := .tuple #[U4 (s a0 b0 0) (s a1 b1 (c a0 b0 0)) (s a2 b2 (c a1 b1 (c a0 b0 0))) (s a3 b3 (c a2 b2 (c a1 b1 (c a0 b0 0)))), .bool (decide (0 < (c a3 b3 (c a2 b2 (c a1 b1 (c a0 b0 0))))))]) (by simp [results, Try.results15, go_sem]) rfl ⟨rfl, (by repeat (first | exact Below.refl _ _ | apply Below.drew | refine Below.alloc ?_ (by simp; try omega) _))⟩

end Go.Proofs.Ytdiblfgnnliifaa
