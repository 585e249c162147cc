/- The comparison of two points. -/
import Derived.Test.YtpdoonofipcbeaaDoorXsEq
import Derived.Test.YtpdoonofipcbeaaDoorXsAu
namespace Go.Proofs.YtpdoonofipcbeaaDoor
open Go.RowKit
theorem run_eq4d (d : Nat) (a0 a1 a2 a3 b0 b1 b2 b3 : Int) (w : World) :
    (Op.equalIn (d + 2) 24 (I4 a0 a1 a2 a3) (I4 b0 b1 b2 b3)).run Tryd.prog w = .ok (a0 == b0 && (a1 == b1 && (a2 == b2 && a3 == b3))) w := by
  rw [run_equalIn_array w (d + 1) _ _ Tryd.underlying24 info22, cells22, show List.range 4 = [0, 1, 2, 3] from rfl]
  simp [Op.eqItems, part, isAgg, run_underlying Tryd.underlying22, run_equalIn_int w d 22 .u64 .u64 _ _ Tryd.underlying22]
  by_cases h0 : a0 = b0 <;> by_cases h1 : a1 = b1 <;> by_cases h2 : a2 = b2 <;> by_cases h3 : a3 = b3 <;> simp [*]
theorem run_eqUd (d n m : Nat) (hn : n < W) (hm : m < W) (w : World) :
    (Op.equalIn (d + 2) 24 (U n) (U m)).run Tryd.prog w = .ok (decide (n = m)) w := by
  refine (run_eq4d d (l0 n) (l1 n) (l2 n) (l3 n) (l0 m) (l1 m) (l2 m) (l3 m) w).trans ?_
  congr 1
  rw [Bool.eq_iff_iff]
  simp only [Bool.and_eq_true, beq_iff_eq, decide_eq_true_eq]
  constructor
  · rintro ⟨h0, h1, h2, h3⟩
    exact parts_inj n m hn hm (by omega) (by omega) (by omega) (by omega)
  · rintro rfl; exact ⟨rfl, rfl, rfl, rfl⟩
theorem run_eqB (d : Nat) (n m : Bool) (w : World) : (Op.equalIn (d + 1) 4 (.bool n) (.bool m)).run Tryd.prog w = .ok (n == m) w := by simp [Op.equalIn, run_underlying Tryd.underlying4]
theorem info24 : Tryd.prog.info? 24 = some ((Tryd.prog.info? 24).getD default) := by kernel_rfl
theorem size24 : Tryd.prog.cellsOf 24 = 4 := by kernel_rfl
theorem run_eq9 (x y u v : Nat) (n m : Bool) (hx : x < W) (hy : y < W) (hu : u < W) (hv : v < W) (w : World) : (Op.equalIn 10000 26 (A9 x y n) (A9 u v m)).run Tryd.prog w = .ok (decide (x = u) && (decide (y = v) && (n == m))) w := by
  have e1 : ∀ w, (Op.equalIn 9999 24 (U x) (U u)).run Tryd.prog w = .ok (decide (x = u)) w := fun w => run_eqUd 9997 x u hx hu w
  have e2 : ∀ w, (Op.equalIn 9999 24 (U y) (U v)).run Tryd.prog w = .ok (decide (y = v)) w := fun w => run_eqUd 9997 y v hy hv w
  have e3 : ∀ w, (Op.equalIn 9999 4 (.bool n) (.bool m)).run Tryd.prog w = .ok (n == m) w := fun w => run_eqB 9998 n m w
  have hs : ∀ w, (sizeOf 24).run Tryd.prog w = .ok 4 w := fun w => by rw [run_sizeOf w info24, size24]
  have p1 : ∀ w, (part 24 (P9 x y n) 0).run Tryd.prog w = .ok (U x) w := fun w => by simp [part, isAgg, run_underlying Tryd.underlying24, hs]
  have p2 : ∀ w, (part 24 (P9 x y n) 4).run Tryd.prog w = .ok (U y) w := fun w => by simp [part, isAgg, run_underlying Tryd.underlying24, hs]
  have p3 : ∀ w, (part 24 (P9 u v m) 0).run Tryd.prog w = .ok (U u) w := fun w => by simp [part, isAgg, run_underlying Tryd.underlying24, hs]
  have p4 : ∀ w, (part 24 (P9 u v m) 4).run Tryd.prog w = .ok (U v) w := fun w => by simp [part, isAgg, run_underlying Tryd.underlying24, hs]
  have p5 : ∀ w, (part 4 (P9 x y n) 8).run Tryd.prog w = .ok (.bool n) w := fun w => by simp [part, isAgg, run_underlying Tryd.underlying4]
  have p6 : ∀ w, (part 4 (P9 u v m) 8).run Tryd.prog w = .ok (.bool m) w := fun w => by simp [part, isAgg, run_underlying Tryd.underlying4]
  rw [show (10000 : Nat) = 9999 + 1 from rfl, Op.equalIn]
  simp [run_underlying Tryd.underlying26, e1, e2, e3, p1, p2, p3, p4, p5, p6]
  by_cases h0 : x = u <;> by_cases h1 : y = v <;> cases n <;> cases m <;> simp [*]
end Go.Proofs.YtpdoonofipcbeaaDoor
