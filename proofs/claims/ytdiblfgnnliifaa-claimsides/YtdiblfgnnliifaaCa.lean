/- Contracts of the functions of layer 1, told by numbers: what each hands back, and that nothing that was there is changed. -/
import Derived.Test.YtdiblfgnnliifaaWt
import Derived.Test.YtdiblfgnnliifaaNv
import Derived.Test.YtdiblfgnnliifaaCm
namespace Go.Proofs.Ytdiblfgnnliifaa
open Go.RowKit

theorem run_add (x y c : Nat) (hx : x < M) (hy : y < M) (hc : c ≤ 1) (w : World) :
    (callFunc 35 #[.int .u64 x, .int .u64 y, .int .u64 c]).run Try.prog w = .ok (.value (.tuple #[B (sm x y c), B (cy x y c)])) w := by
  rw [run_callFunc_extern Try.func35 (by kernel_rfl) (by kernel_rfl) (by kernel_rfl) (e := add64Entry) (by kernel_rfl), run_add64 x y c (by omega) (by omega) (by omega) (by omega)]
  simp only [Result.andThen, B, sm, ← cy_eq x y c hx hy hc, M_eq]
  congr 5
theorem run_add0 (x y : Nat) (hx : x < M) (hy : y < M) (w : World) :
    (callFunc 35 #[.int .u64 x, .int .u64 y, .int .u64 0]).run Try.prog w = .ok (.value (.tuple #[B (sm x y 0), B (cy x y 0)])) w := run_add x y 0 hx hy (by omega) w
theorem run_sub (x y c : Nat) (hc : c ≤ 1) (w : World) :
    (callFunc 34 #[.int .u64 x, .int .u64 y, .int .u64 c]).run Try.prog w = .ok (.value (.tuple #[B (df x y c), B (bo x y c)])) w := by
  rw [run_callFunc_extern Try.func34 (by kernel_rfl) (by kernel_rfl) (by kernel_rfl) (e := (Extern.MathBitsCarry.rows.getLast (by decide)).2) (by kernel_rfl)]
  have : c = 0 ∨ c = 1 := by omega
  rcases this with rfl | rfl <;> rfl
theorem run_sub0 (x y : Nat) (w : World) :
    (callFunc 34 #[.int .u64 x, .int .u64 y, .int .u64 0]).run Try.prog w = .ok (.value (.tuple #[B (df x y 0), B (bo x y 0)])) w := run_sub x y 0 (by omega) w

def addW (n m : Nat) : Nat := (n + m) % W
def ovW (n m : Nat) : Bool := decide (W ≤ n + m)
def subW (n m : Nat) : Nat := (n + W - m) % W
def unW (n m : Nat) : Bool := decide (n < m)
def notW (n : Nat) : Nat := W - 1 - n
theorem W_pos : 0 < W := by decide
theorem addW_lt (n m : Nat) : addW n m < W := Nat.mod_lt _ W_pos
theorem subW_lt (n m : Nat) : subW n m < W := Nat.mod_lt _ W_pos
theorem notW_lt (n : Nat) : notW n < W := by have := W_pos; unfold notW; omega

theorem bne_pos (k : Nat) : ((k : Int) != 0) = decide (0 < k) := by
  rw [Bool.eq_iff_iff]; simp; omega

theorem cmp4_eq (n m : Nat) (hn : n < W) (hm : m < W) : cmp4 (l0 n) (l1 n) (l2 n) (l3 n) (l0 m) (l1 m) (l2 m) (l3 m) = cmpN n m := by
  have a0 := l0_lt n; have a1 := l1_lt n; have a2 := l2_lt n; have a3 := l3_lt n
  have b0 := l0_lt m; have b1 := l1_lt m; have b2 := l2_lt m; have b3 := l3_lt m
  have en := mk_parts n hn
  have em := mk_parts m hm
  generalize l0 n = x0 at *; generalize l1 n = x1 at *; generalize l2 n = x2 at *; generalize l3 n = x3 at *
  generalize l0 m = y0 at *; generalize l1 m = y1 at *; generalize l2 m = y2 at *; generalize l3 m = y3 at *
  have hlt : n < m ↔ (x3 < y3 ∨ x3 = y3 ∧ (x2 < y2 ∨ x2 = y2 ∧ (x1 < y1 ∨ x1 = y1 ∧ x0 < y0))) := by
    rw [← en, ← em]; unfold mk M at *; omega
  have hgt : m < n ↔ (y3 < x3 ∨ y3 = x3 ∧ (y2 < x2 ∨ y2 = x2 ∧ (y1 < x1 ∨ y1 = x1 ∧ y0 < x0))) := by
    rw [← en, ← em]; unfold mk M at *; omega
  unfold cmp4 cmpN
  simp only [hlt, hgt]
  clear hlt hgt en em
  by_cases h3 : x3 < y3
  · rw [if_pos h3, if_pos (by omega)]
  by_cases k3 : y3 < x3
  · rw [if_neg h3, if_pos k3, if_neg (by omega), if_pos (by omega)]
  by_cases h2 : x2 < y2
  · rw [if_neg h3, if_neg k3, if_pos h2, if_pos (by omega)]
  by_cases k2 : y2 < x2
  · rw [if_neg h3, if_neg k3, if_neg h2, if_pos k2, if_neg (by omega), if_pos (by omega)]
  by_cases h1 : x1 < y1
  · rw [if_neg h3, if_neg k3, if_neg h2, if_neg k2, if_pos h1, if_pos (by omega)]
  by_cases k1 : y1 < x1
  · rw [if_neg h3, if_neg k3, if_neg h2, if_neg k2, if_neg h1, if_pos k1, if_neg (by omega), if_pos (by omega)]
  by_cases h0 : x0 < y0
  · rw [if_neg h3, if_neg k3, if_neg h2, if_neg k2, if_neg h1, if_neg k1, if_pos h0, if_pos (by omega)]
  by_cases k0 : y0 < x0
  · rw [if_neg h3, if_neg k3, if_neg h2, if_neg k2, if_neg h1, if_neg k1, if_neg h0, if_pos k0, if_neg (by omega), if_pos (by omega)]
  rw [if_neg h3, if_neg k3, if_neg h2, if_neg k2, if_neg h1, if_neg k1, if_neg h0, if_neg k0, if_neg (by omega), if_neg (by omega)]

theorem of_parts (a : Nat) (h : a < M) : l0 a = a ∧ l1 a = 0 ∧ l2 a = 0 ∧ l3 a = 0 := by
  unfold l0 l1 l2 l3 M at *; omega

theorem add_any (n m : Nat) (hn : n < W) (hm : m < W) (w : World) : Calls Try.prog 23 #[U n, U m] w fun e w' => e = .returned (.tuple #[U (addW n m), .bool (ovW n m)]) ∧ Below w.heap.size w w' := by
  refine (add_raw sm cy cy_le run_add run_add0 (l0 n) (l1 n) (l2 n) (l3 n) (l0 m) (l1 m) (l2 m) (l3 m) (l0_lt n) (l0_lt m) (l1_lt n) (l1_lt m) (l2_lt n) (l2_lt m) (l3_lt n) (l3_lt m) w).mono ?_
  rintro e w' ⟨rfl, hb⟩
  obtain ⟨⟨e0, e1, e2, e3⟩, ec⟩ := add_parts n m hn hm
  exact ⟨by rw [bne_pos, decide_eq_decide.2 ec]; unfold U addW ovW; rw [e0, e1, e2, e3], hb⟩

theorem radd_any (n m : Nat) (hn : n < W) (hm : m < W) (w : World) : Calls Try.prog 16 #[U n, U m] w fun e w' => e = .returned (.tuple #[U (addW n m), .bool (ovW n m)]) ∧ Below w.heap.size w w' := by
  refine (radd_raw sm cy cy_le run_add run_add0 (l0 n) (l1 n) (l2 n) (l3 n) (l0 m) (l1 m) (l2 m) (l3 m) (l0_lt n) (l0_lt m) (l1_lt n) (l1_lt m) (l2_lt n) (l2_lt m) (l3_lt n) (l3_lt m) w).mono ?_
  rintro e w' ⟨rfl, hb⟩
  obtain ⟨⟨e0, e1, e2, e3⟩, ec⟩ := add_parts n m hn hm
  exact ⟨by rw [decide_eq_decide.2 ec]; unfold U addW ovW; rw [e0, e1, e2, e3], hb⟩

theorem sub_any (n m : Nat) (hn : n < W) (hm : m < W) (w : World) : Calls Try.prog 33 #[U n, U m] w fun e w' => e = .returned (.tuple #[U (subW n m), .bool (unW n m)]) ∧ Below w.heap.size w w' := by
  refine (sub_raw df bo bo_le run_sub run_sub0 (l0 n) (l1 n) (l2 n) (l3 n) (l0 m) (l1 m) (l2 m) (l3 m) w).mono ?_
  rintro e w' ⟨rfl, hb⟩
  obtain ⟨⟨e0, e1, e2, e3⟩, ec⟩ := sub_parts n m hn hm
  exact ⟨by rw [bne_pos, decide_eq_decide.2 ec]; unfold U subW unW; rw [e0, e1, e2, e3], hb⟩

theorem rsub_any (n m : Nat) (hn : n < W) (hm : m < W) (w : World) : Calls Try.prog 15 #[U n, U m] w fun e w' => e = .returned (.tuple #[U (subW n m), .bool (unW n m)]) ∧ Below w.heap.size w w' := by
  refine (rsub_raw df bo bo_le run_sub run_sub0 (l0 n) (l1 n) (l2 n) (l3 n) (l0 m) (l1 m) (l2 m) (l3 m) w).mono ?_
  rintro e w' ⟨rfl, hb⟩
  obtain ⟨⟨e0, e1, e2, e3⟩, ec⟩ := sub_parts n m hn hm
  exact ⟨by rw [decide_eq_decide.2 ec]; unfold U subW unW; rw [e0, e1, e2, e3], hb⟩

end Go.Proofs.Ytdiblfgnnliifaa
