/- The comparison of two numbers of four parts. -/
import Derived.Test.YtdiblfgnnliifaaWt
import Derived.ChangeKeysEq
namespace Go.Proofs.Ytdiblfgnnliifaa
open Go.RowKit

theorem info22 : Try.prog.info? 23 = some ((Try.prog.info? 23).getD default) := by kernel_rfl
theorem cells22 : Try.prog.cellsOf 23 = 1 := by kernel_rfl
theorem run_eq4 (a0 a1 a2 a3 b0 b1 b2 b3 : Int) (w : World) :
    (Op.equalIn 10000 25 (I4 a0 a1 a2 a3) (I4 b0 b1 b2 b3)).run Try.prog w = .ok (a0 == b0 && (a1 == b1 && (a2 == b2 && a3 == b3))) w := by
  rw [run_equalIn_array w 9999 _ _ Try.underlying25 info22, cells22, show List.range 4 = [0, 1, 2, 3] from rfl]
  simp [Op.eqItems, part, isAgg, run_underlying Try.underlying23, run_equalIn_int w 9998 23 .u64 .u64 _ _ Try.underlying23]
  by_cases h0 : a0 = b0 <;> by_cases h1 : a1 = b1 <;> by_cases h2 : a2 = b2 <;> by_cases h3 : a3 = b3 <;> simp [*]
theorem parts_inj (n m : Nat) (hn : n < W) (hm : m < W) (h0 : l0 n = l0 m) (h1 : l1 n = l1 m) (h2 : l2 n = l2 m) (h3 : l3 n = l3 m) : n = m := by
  rw [← mk_parts n hn, ← mk_parts m hm, h0, h1, h2, h3]
theorem run_eqU (n m : Nat) (hn : n < W) (hm : m < W) (w : World) :
    (Op.equalIn 10000 25 (U n) (U m)).run Try.prog w = .ok (decide (n = m)) w := by
  refine (run_eq4 (l0 n) (l1 n) (l2 n) (l3 n) (l0 m) (l1 m) (l2 m) (l3 m) w).trans ?_
  congr 1
  rw [Bool.eq_iff_iff]
  simp only [Bool.and_eq_true, beq_iff_eq, decide_eq_true_eq]
  constructor
  · rintro ⟨h0, h1, h2, h3⟩
    exact parts_inj n m hn hm (by omega) (by omega) (by omega) (by omega)
  · rintro rfl; exact ⟨rfl, rfl, rfl, rfl⟩
theorem run_eqU_same (n : Nat) (w : World) : (Op.equalIn 10000 25 (U n) (U n)).run Try.prog w = .ok true w := by
  refine (run_eq4 (l0 n) (l1 n) (l2 n) (l3 n) (l0 n) (l1 n) (l2 n) (l3 n) w).trans ?_
  simp
end Go.Proofs.Ytdiblfgnnliifaa
