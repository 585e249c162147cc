/- Contracts of the functions of layer 1, told by numbers: what each hands back, and that nothing that was there is changed. -/
import Derived.Test.YtdbilbcpnhkbaaaWt
import Derived.Test.YtdbilbcpnhkbaaaNv
import Derived.Test.YtdbilbcpnhkbaaaCm
namespace Go.Proofs.Ytdbilbcpnhkbaaa
open Go.RowKit

def addW (n m : Nat) : Nat := (n + m) % W
def ovW (n m : Nat) : Bool := decide (W ≤ n + m)
def subW (n m : Nat) : Nat := (n + W - m) % W
def unW (n m : Nat) : Bool := decide (n < m)
def notW (n : Nat) : Nat := W - 1 - n
theorem W_pos : 0 < W := by decide
theorem addW_lt (n m : Nat) : addW n m < W := Nat.mod_lt _ W_pos
theorem subW_lt (n m : Nat) : subW n m < W := Nat.mod_lt _ W_pos
theorem notW_lt (n : Nat) : notW n < W := by have := W_pos; unfold notW; omega

theorem bne_pos (k : Nat) : ((k : Int) != 0) = decide (0 < k) := by
  rw [Bool.eq_iff_iff]; simp; omega

theorem cmp4_eq (n m : Nat) (hn : n < W) (hm : m < W) : cmp4 (l0 n) (l1 n) (l2 n) (l3 n) (l0 m) (l1 m) (l2 m) (l3 m) = cmpN n m := by
  have a0 := l0_lt n; have a1 := l1_lt n; have a2 := l2_lt n; have a3 := l3_lt n
  have b0 := l0_lt m; have b1 := l1_lt m; have b2 := l2_lt m; have b3 := l3_lt m
  have en := mk_parts n hn
  have em := mk_parts m hm
  generalize l0 n = x0 at *; generalize l1 n = x1 at *; generalize l2 n = x2 at *; generalize l3 n = x3 at *
  generalize l0 m = y0 at *; generalize l1 m = y1 at *; generalize l2 m = y2 at *; generalize l3 m = y3 at *
  have hlt : n < m ↔ (x3 < y3 ∨ x3 = y3 ∧ (x2 < y2 ∨ x2 = y2 ∧ (x1 < y1 ∨ x1 = y1 ∧ x0 < y0))) := by
    rw [← en, ← em]; unfold mk M at *; omega
  have hgt : m < n ↔ (y3 < x3 ∨ y3 = x3 ∧ (y2 < x2 ∨ y2 = x2 ∧ (y1 < x1 ∨ y1 = x1 ∧ y0 < x0))) := by
    rw [← en, ← em]; unfold mk M at *; omega
  unfold cmp4 cmpN
  simp only [hlt, hgt]
  clear hlt hgt en em
  by_cases h3 : x3 < y3
  · rw [if_pos h3, if_pos (by omega)]
  by_cases k3 : y3 < x3
  · rw [if_neg h3, if_pos k3, if_neg (by omega), if_pos (by omega)]
  by_cases h2 : x2 < y2
  · rw [if_neg h3, if_neg k3, if_pos h2, if_pos (by omega)]
  by_cases k2 : y2 < x2
  · rw [if_neg h3, if_neg k3, if_neg h2, if_pos k2, if_neg (by omega), if_pos (by omega)]
  by_cases h1 : x1 < y1
  · rw [if_neg h3, if_neg k3, if_neg h2, if_neg k2, if_pos h1, if_pos (by omega)]
  by_cases k1 : y1 < x1
  · rw [if_neg h3, if_neg k3, if_neg h2, if_neg k2, if_neg h1, if_pos k1, if_neg (by omega), if_pos (by omega)]
  by_cases h0 : x0 < y0
  · rw [if_neg h3, if_neg k3, if_neg h2, if_neg k2, if_neg h1, if_neg k1, if_pos h0, if_pos (by omega)]
  by_cases k0 : y0 < x0
  · rw [if_neg h3, if_neg k3, if_neg h2, if_neg k2, if_neg h1, if_neg k1, if_neg h0, if_pos k0, if_neg (by omega), if_pos (by omega)]
  rw [if_neg h3, if_neg k3, if_neg h2, if_neg k2, if_neg h1, if_neg k1, if_neg h0, if_neg k0, if_neg (by omega), if_neg (by omega)]

theorem of_parts (a : Nat) (h : a < M) : l0 a = a ∧ l1 a = 0 ∧ l2 a = 0 ∧ l3 a = 0 := by
  unfold l0 l1 l2 l3 M at *; omega

theorem cmp_any (n m : Nat) (hn : n < W) (hm : m < W) (w : World) : Calls Try.prog 20 #[U n, U m] w fun e w' => e = .returned (.int .i64 (cmpN n m)) ∧ Below w.heap.size w w' := by
  refine (cmp_raw (l0 n) (l1 n) (l2 n) (l3 n) (l0 m) (l1 m) (l2 m) (l3 m) w).mono ?_
  rintro e w' ⟨rfl, hb⟩
  exact ⟨by rw [cmp4_eq n m hn hm], hb⟩

theorem rcmp_any (n m : Nat) (hn : n < W) (hm : m < W) (w : World) : Calls Try.prog 25 #[U n, U m] w fun e w' => e = .returned (.int .i64 (cmpN n m)) ∧ Below w.heap.size w w' := by
  refine (rcmp_raw (l0 n) (l1 n) (l2 n) (l3 n) (l0 m) (l1 m) (l2 m) (l3 m) w).mono ?_
  rintro e w' ⟨rfl, hb⟩
  exact ⟨by rw [cmp4_eq n m hn hm], hb⟩

end Go.Proofs.Ytdbilbcpnhkbaaa
