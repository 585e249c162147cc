/- Sums, of the program and of the document. -/
import Derived.Test.YtdbilbcpnhkbaaaCa
namespace Go.Proofs.Ytdbilbcpnhkbaaa
open Go.RowKit
set_option linter.unusedVariables false
set_option maxHeartbeats 400000 in
theorem add_raw (s c : Nat → Nat → Nat → Nat) (hc : ∀ x y k : Nat, c x y k ≤ 1) (hr : ∀ x y k : Nat, x < M → y < M → k ≤ 1 → ∀ w, (callFunc 27 #[.int .u64 x, .int .u64 y, .int .u64 k]).run Try.prog w = .ok (.value (.tuple #[B (s x y k), B (c x y k)])) w) (hr0 : ∀ x y : Nat, x < M → y < M → ∀ w, (callFunc 27 #[.int .u64 x, .int .u64 y, .int .u64 0]).run Try.prog w = .ok (.value (.tuple #[B (s x y 0), B (c x y 0)])) w) (a0 a1 a2 a3 b0 b1 b2 b3 : Nat) (g0 : a0 < M) (j0 : b0 < M) (g1 : a1 < M) (j1 : b1 < M) (g2 : a2 < M) (j2 : b2 < M) (g3 : a3 < M) (j3 : b3 < M) (w : World) : Calls Try.prog 19 #[U4 a0 a1 a2 a3, U4 b0 b1 b2 b3] w fun e w' => e = .returned (.tuple #[U4 (s a0 b0 0) (s a1 b1 (c a0 b0 0)) (s a2 b2 (c a1 b1 (c a0 b0 0))) (s a3 b3 (c a2 b2 (c a1 b1 (c a0 b0 0)))), .bool (((c a3 b3 (c a2 b2 (c a1 b1 (c a0 b0 0)))) : Int) != 0)]) ∧ Below w.heap.size w w' := by
  go_enter Try.func19, Try.ntmps19
  go_wp2
  refine wp_loop_rounds 5 ?_
  iterate 4 (rw [rounds_succ]; go_wp2; go_region; go_wp2)
  rw [rounds_succ]; go_wp2
  exact bodyPost_ret (v := .tuple #[U4 (s a0 b0 0) (s a1 b1 (c a0 b0 0)) (s a2 b2 (c a1 b1 (c a0 b0 0))) (s a3 b3 (c a2 b2 (c a1 b1 (c a0 b0 0)))), .bool (((c a3 b3 (c a2 b2 (c a1 b1 (c a0 b0 0)))) : Int) != 0)]) (by simp [results, Try.results19, go_sem]) rfl ⟨rfl, (by repeat (first | exact Below.refl _ _ | apply Below.drew | refine Below.alloc ?_ (by simp; try omega) _))⟩

set_option maxHeartbeats 400000 in
theorem radd_raw (s c : Nat → Nat → Nat → Nat) (hc : ∀ x y k : Nat, c x y k ≤ 1) (hr : ∀ x y k : Nat, x < M → y < M → k ≤ 1 → ∀ w, (callFunc 27 #[.int .u64 x, .int .u64 y, .int .u64 k]).run Try.prog w = .ok (.value (.tuple #[B (s x y k), B (c x y k)])) w) (hr0 : ∀ x y : Nat, x < M → y < M → ∀ w, (callFunc 27 #[.int .u64 x, .int .u64 y, .int .u64 0]).run Try.prog w = .ok (.value (.tuple #[B (s x y 0), B (c x y 0)])) w) (a0 a1 a2 a3 b0 b1 b2 b3 : Nat) (g0 : a0 < M) (j0 : b0 < M) (g1 : a1 < M) (j1 : b1 < M) (g2 : a2 < M) (j2 : b2 < M) (g3 : a3 < M) (j3 : b3 < M) (w : World) : Calls Try.prog 24 #[U4 a0 a1 a2 a3, U4 b0 b1 b2 b3] w fun e w' => e = .returned (.tuple #[U4 (s a0 b0 0) (s a1 b1 (c a0 b0 0)) (s a2 b2 (c a1 b1 (c a0 b0 0))) (s a3 b3 (c a2 b2 (c a1 b1 (c a0 b0 0)))), .bool (decide (0 < (c a3 b3 (c a2 b2 (c a1 b1 (c a0 b0 0))))))]) ∧ Below w.heap.size w w' := by
  go_enter Try.func24, Try.ntmps24
  go_wp2
  refine wp_loop_rounds 5 ?_
  iterate 4 (rw [rounds_succ]; go_wp2; go_region; go_wp2)
  rw [rounds_succ]; go_wp2
  exact bodyPost_ret (v := .tuple #[U4 (s a0 b0 0) (s a1 b1 (c a0 b0 0)) (s a2 b2 (c a1 b1 (c a0 b0 0))) (s a3 b3 (c a2 b2 (c a1 b1 (c a0 b0 0)))), .bool (decide (0 < (c a3 b3 (c a2 b2 (c a1 b1 (c a0 b0 0))))))]) (by simp [results, Try.results24, go_sem]) rfl ⟨rfl, (by repeat (first | exact Below.refl _ _ | apply Below.drew | refine Below.alloc ?_ (by simp; try omega) _))⟩

theorem run_add (x y c : Nat) (hx : x < M) (hy : y < M) (hc : c ≤ 1) (w : World) :
    (callFunc 27 #[.int .u64 x, .int .u64 y, .int .u64 c]).run Try.prog w = .ok (.value (.tuple #[B (sm x y c), B (cy x y c)])) w := by
  rw [run_callFunc_extern Try.func27 (by kernel_rfl) (by kernel_rfl) (by kernel_rfl) (e := add64Entry) (by kernel_rfl), run_add64 x y c (by omega) (by omega) (by omega) (by omega)]
  simp only [Result.andThen, B, sm, ← cy_eq x y c hx hy hc, M_eq]
  congr 5
theorem run_add0 (x y : Nat) (hx : x < M) (hy : y < M) (w : World) :
    (callFunc 27 #[.int .u64 x, .int .u64 y, .int .u64 0]).run Try.prog w = .ok (.value (.tuple #[B (sm x y 0), B (cy x y 0)])) w := run_add x y 0 hx hy (by omega) w
theorem add_any (n m : Nat) (hn : n < W) (hm : m < W) (w : World) : Calls Try.prog 19 #[U n, U m] w fun e w' => e = .returned (.tuple #[U (addW n m), .bool (ovW n m)]) ∧ Below w.heap.size w w' := by
  refine (add_raw sm cy cy_le run_add run_add0 (l0 n) (l1 n) (l2 n) (l3 n) (l0 m) (l1 m) (l2 m) (l3 m) (l0_lt n) (l0_lt m) (l1_lt n) (l1_lt m) (l2_lt n) (l2_lt m) (l3_lt n) (l3_lt m) w).mono ?_
  rintro e w' ⟨rfl, hb⟩
  obtain ⟨⟨e0, e1, e2, e3⟩, ec⟩ := add_parts n m hn hm
  exact ⟨by rw [bne_pos, decide_eq_decide.2 ec]; unfold U addW ovW; rw [e0, e1, e2, e3], hb⟩

theorem radd_any (n m : Nat) (hn : n < W) (hm : m < W) (w : World) : Calls Try.prog 24 #[U n, U m] w fun e w' => e = .returned (.tuple #[U (addW n m), .bool (ovW n m)]) ∧ Below w.heap.size w w' := by
  refine (radd_raw sm cy cy_le run_add run_add0 (l0 n) (l1 n) (l2 n) (l3 n) (l0 m) (l1 m) (l2 m) (l3 m) (l0_lt n) (l0_lt m) (l1_lt n) (l1_lt m) (l2_lt n) (l2_lt m) (l3_lt n) (l3_lt m) w).mono ?_
  rintro e w' ⟨rfl, hb⟩
  obtain ⟨⟨e0, e1, e2, e3⟩, ec⟩ := add_parts n m hn hm
  exact ⟨by rw [decide_eq_decide.2 ec]; unfold U addW ovW; rw [e0, e1, e2, e3], hb⟩

end Go.Proofs.Ytdbilbcpnhkbaaa
