/- Laid one behind the other: Nv, Nx, Cm, Ca, Bi, Cs. -/
import Derived.Test.YthkpgfbjdabflaaGreatDoorKrNum
import Derived.Laws.Bits64b
import Derived.Laws.Bits64
import Derived.Lib.BitFns
import Derived.Test.YthkpgfbjdabflaaGreatDoorKrLn
namespace Go.Proofs.YthkpgfbjdabflaaGreatDoor

theorem of_mk (n a b c d : Nat) (h : n = mk a b c d) (ha : a < M) (hb : b < M) (hc : c < M) (hd : d < M) : l0 n = a ∧ l1 n = b ∧ l2 n = c ∧ l3 n = d := by
  subst h; exact ⟨l0_mk _ _ _ _ ha, l1_mk _ _ _ _ ha hb, l2_mk _ _ _ _ ha hb hc, l3_mk _ _ _ _ ha hb hc hd⟩
theorem add_parts (n m : Nat) (hn : n < W) (hm : m < W) :
    (l0 ((n + m) % W) = sm (l0 n) (l0 m) 0 ∧ l1 ((n + m) % W) = sm (l1 n) (l1 m) (cy (l0 n) (l0 m) 0) ∧
    l2 ((n + m) % W) = sm (l2 n) (l2 m) (cy (l1 n) (l1 m) (cy (l0 n) (l0 m) 0)) ∧
    l3 ((n + m) % W) = sm (l3 n) (l3 m) (cy (l2 n) (l2 m) (cy (l1 n) (l1 m) (cy (l0 n) (l0 m) 0)))) ∧
    ((0 < cy (l3 n) (l3 m) (cy (l2 n) (l2 m) (cy (l1 n) (l1 m) (cy (l0 n) (l0 m) 0)))) ↔ W ≤ n + m) := by
  have a0 := l0_lt n; have a1 := l1_lt n; have a2 := l2_lt n; have a3 := l3_lt n
  have b0 := l0_lt m; have b1 := l1_lt m; have b2 := l2_lt m; have b3 := l3_lt m
  have en := mk_parts n hn
  have em := mk_parts m hm
  generalize l0 n = x0 at *; generalize l1 n = x1 at *; generalize l2 n = x2 at *; generalize l3 n = x3 at *
  generalize l0 m = y0 at *; generalize l1 m = y1 at *; generalize l2 m = y2 at *; generalize l3 m = y3 at *
  have e0 := sm_cy x0 y0 0 a0 b0 (by omega)
  have c0 := cy_le x0 y0 0
  have s0 := sm_lt x0 y0 0
  generalize cy x0 y0 0 = k0 at *; generalize sm x0 y0 0 = t0 at *
  have e1 := sm_cy x1 y1 k0 a1 b1 c0
  have c1 := cy_le x1 y1 k0
  have s1 := sm_lt x1 y1 k0
  generalize cy x1 y1 k0 = k1 at *; generalize sm x1 y1 k0 = t1 at *
  have e2 := sm_cy x2 y2 k1 a2 b2 c1
  have c2 := cy_le x2 y2 k1
  have s2 := sm_lt x2 y2 k1
  generalize cy x2 y2 k1 = k2 at *; generalize sm x2 y2 k1 = t2 at *
  have e3 := sm_cy x3 y3 k2 a3 b3 c2
  have c3 := cy_le x3 y3 k2
  have s3 := sm_lt x3 y3 k2
  generalize cy x3 y3 k2 = k3 at *; generalize sm x3 y3 k2 = t3 at *
  have hlt := mk_lt t0 t1 t2 t3 s0 s1 s2 s3
  have key : n + m = mk t0 t1 t2 t3 + W * k3 := by
    rw [← en, ← em, W_eq]; unfold mk M at *; omega
  refine ⟨of_mk _ t0 t1 t2 t3 ?_ s0 s1 s2 s3, ?_⟩
  · rw [key, Nat.add_mul_mod_self_left, Nat.mod_eq_of_lt hlt]
  · rw [key]
    have hW : 0 < W := by decide
    constructor
    · intro h
      have : k3 = 1 := by omega
      subst this; omega
    · intro h
      rcases Nat.eq_zero_or_pos k3 with h0 | h0
      · subst h0; omega
      · exact h0
def cmpN (n m : Nat) : Int := if n < m then -1 else if m < n then 1 else 0
theorem M_pow : M = 2 ^ 64 := by decide
theorem MM_pow : M * M = 2 ^ 128 := by decide
theorem MMM_pow : M * M * M = 2 ^ 192 := by decide
theorem W_pow : W = 2 ^ 256 := by decide +kernel
theorem bits_or (a b : Nat) (ha : a < M) (hb : b < M) : bits .or .u64 (a : Int) (b : Int) = ((a ||| b : Nat) : Int) := bits_or_u64_nat a b ha hb
end Go.Proofs.YthkpgfbjdabflaaGreatDoor
namespace Go.Proofs.YthkpgfbjdabflaaGreatDoor
set_option linter.unusedVariables false

theorem wrap_mul (x r : Nat) : IntKind.u64.wrap ((x : Int) * 2 ^ r) = ((x * 2 ^ r % M : Nat) : Int) := by
  rw [IntKind.wrap_u64]; simp [M]
end Go.Proofs.YthkpgfbjdabflaaGreatDoor
namespace Go.Proofs.YthkpgfbjdabflaaGreatDoor
open Go.RowKit
def cmp4 (a0 a1 a2 a3 b0 b1 b2 b3 : Nat) : Int :=
  if a3 < b3 then -1 else if b3 < a3 then 1 else if a2 < b2 then -1 else if b2 < a2 then 1 else if a1 < b1 then -1 else if b1 < a1 then 1 else if a0 < b0 then -1 else if b0 < a0 then 1 else 0
set_option maxHeartbeats 1000000 in
theorem cmp_raw (a0 a1 a2 a3 b0 b1 b2 b3 : Nat) (w : World) : Calls Tryz.prog 148 #[U4 a0 a1 a2 a3, U4 b0 b1 b2 b3] w fun e w' => e = .returned (.int .i64 (cmp4 a0 a1 a2 a3 b0 b1 b2 b3)) ∧ Below w.heap.size w w' := by
  go_enter Tryz.func148, Tryz.ntmps148
  go_wp2
  refine wp_loop_rounds 5 ?_
  by_cases h3 : a3 < b3
  · rw [rounds_succ]; go_wp2; go_region; go_wp2; go_ret; exact ⟨by rw [cmp4, if_pos h3]; rfl, (by repeat (first | exact Below.refl _ _ | apply Below.drew | refine Below.alloc ?_ (by simp; try omega) _))⟩
  by_cases k3 : b3 < a3
  · rw [rounds_succ]; go_wp2; go_region; go_wp2; go_region; go_wp2; go_ret; exact ⟨by rw [cmp4, if_neg h3, if_pos k3]; rfl, (by repeat (first | exact Below.refl _ _ | apply Below.drew | refine Below.alloc ?_ (by simp; try omega) _))⟩
  rw [rounds_succ]; go_wp2; go_region; go_wp2; go_region; go_wp2
  by_cases h2 : a2 < b2
  · rw [rounds_succ]; go_wp2; go_region; go_wp2; go_ret; exact ⟨by rw [cmp4, if_neg h3, if_neg k3, if_pos h2]; rfl, (by repeat (first | exact Below.refl _ _ | apply Below.drew | refine Below.alloc ?_ (by simp; try omega) _))⟩
  by_cases k2 : b2 < a2
  · rw [rounds_succ]; go_wp2; go_region; go_wp2; go_region; go_wp2; go_ret; exact ⟨by rw [cmp4, if_neg h3, if_neg k3, if_neg h2, if_pos k2]; rfl, (by repeat (first | exact Below.refl _ _ | apply Below.drew | refine Below.alloc ?_ (by simp; try omega) _))⟩
  rw [rounds_succ]; go_wp2; go_region; go_wp2; go_region; go_wp2
  by_cases h1 : a1 < b1
  · rw [rounds_succ]; go_wp2; go_region; go_wp2; go_ret; exact ⟨by rw [cmp4, if_neg h3, if_neg k3, if_neg h2, if_neg k2, if_pos h1]; rfl, (by repeat (first | exact Below.refl _ _ | apply Below.drew | refine Below.alloc ?_ (by simp; try omega) _))⟩
  by_cases k1 : b1 < a1
  · rw [rounds_succ]; go_wp2; go_region; go_wp2; go_region; go_wp2; go_ret; exact ⟨by rw [cmp4, if_neg h3, if_neg k3, if_neg h2, if_neg k2, if_neg h1, if_pos k1]; rfl, (by repeat (first | exact Below.refl _ _ | apply Below.drew | refine Below.alloc ?_ (by simp; try omega) _))⟩
  rw [rounds_succ]; go_wp2; go_region; go_wp2; go_region; go_wp2
  by_cases h0 : a0 < b0
  · rw [rounds_succ]; go_wp2; go_region; go_wp2; go_ret; exact ⟨by rw [cmp4, if_neg h3, if_neg k3, if_neg h2, if_neg k2, if_neg h1, if_neg k1, if_pos h0]; rfl, (by repeat (first | exact Below.refl _ _ | apply Below.drew | refine Below.alloc ?_ (by simp; try omega) _))⟩
  by_cases k0 : b0 < a0
  · rw [rounds_succ]; go_wp2; go_region; go_wp2; go_region; go_wp2; go_ret; exact ⟨by rw [cmp4, if_neg h3, if_neg k3, if_neg h2, if_neg k2, if_neg h1, if_neg k1, if_neg h0, if_pos k0]; rfl, (by repeat (first | exact Below.refl _ _ | apply Below.drew | refine Below.alloc ?_ (by simp; try omega) _))⟩
  rw [rounds_succ]; go_wp2; go_region; go_wp2; go_region; go_wp2
  rw [rounds_succ]; go_wp2; go_ret; exact ⟨by rw [cmp4, if_neg h3, if_neg k3, if_neg h2, if_neg k2, if_neg h1, if_neg k1, if_neg h0, if_neg k0]; rfl, (by repeat (first | exact Below.refl _ _ | apply Below.drew | refine Below.alloc ?_ (by simp; try omega) _))⟩
end Go.Proofs.YthkpgfbjdabflaaGreatDoor
namespace Go.Proofs.YthkpgfbjdabflaaGreatDoor
open Go.RowKit

theorem run_add (x y c : Nat) (hx : x < M) (hy : y < M) (hc : c ≤ 1) (w : World) :
    (callFunc 57 #[.int .u64 x, .int .u64 y, .int .u64 c]).run Tryz.prog w = .ok (.value (.tuple #[B (sm x y c), B (cy x y c)])) w := by
  rw [run_callFunc_extern Tryz.func57 (by kernel_rfl) (by kernel_rfl) (by kernel_rfl) (e := add64Entry) (by kernel_rfl), run_add64 x y c (by omega) (by omega) (by omega) (by omega)]
  simp only [Result.andThen, B, sm, ← cy_eq x y c hx hy hc, M_eq]
  congr 5
theorem run_add0 (x y : Nat) (hx : x < M) (hy : y < M) (w : World) :
    (callFunc 57 #[.int .u64 x, .int .u64 y, .int .u64 0]).run Tryz.prog w = .ok (.value (.tuple #[B (sm x y 0), B (cy x y 0)])) w := run_add x y 0 hx hy (by omega) w
def addW (n m : Nat) : Nat := (n + m) % W
def ovW (n m : Nat) : Bool := decide (W ≤ n + m)
def subW (n m : Nat) : Nat := (n + W - m) % W
def notW (n : Nat) : Nat := W - 1 - n
theorem W_pos : 0 < W := by decide
theorem addW_lt (n m : Nat) : addW n m < W := Nat.mod_lt _ W_pos
theorem bne_pos (k : Nat) : ((k : Int) != 0) = decide (0 < k) := by
  rw [Bool.eq_iff_iff]; simp; omega
theorem cmp4_eq (n m : Nat) (hn : n < W) (hm : m < W) : cmp4 (l0 n) (l1 n) (l2 n) (l3 n) (l0 m) (l1 m) (l2 m) (l3 m) = cmpN n m := by
  have a0 := l0_lt n; have a1 := l1_lt n; have a2 := l2_lt n; have a3 := l3_lt n
  have b0 := l0_lt m; have b1 := l1_lt m; have b2 := l2_lt m; have b3 := l3_lt m
  have en := mk_parts n hn
  have em := mk_parts m hm
  generalize l0 n = x0 at *; generalize l1 n = x1 at *; generalize l2 n = x2 at *; generalize l3 n = x3 at *
  generalize l0 m = y0 at *; generalize l1 m = y1 at *; generalize l2 m = y2 at *; generalize l3 m = y3 at *
  have hlt : n < m ↔ (x3 < y3 ∨ x3 = y3 ∧ (x2 < y2 ∨ x2 = y2 ∧ (x1 < y1 ∨ x1 = y1 ∧ x0 < y0))) := by
    rw [← en, ← em]; unfold mk M at *; omega
  have hgt : m < n ↔ (y3 < x3 ∨ y3 = x3 ∧ (y2 < x2 ∨ y2 = x2 ∧ (y1 < x1 ∨ y1 = x1 ∧ y0 < x0))) := by
    rw [← en, ← em]; unfold mk M at *; omega
  unfold cmp4 cmpN
  simp only [hlt, hgt]
  clear hlt hgt en em
  by_cases h3 : x3 < y3
  · rw [if_pos h3, if_pos (by omega)]
  by_cases k3 : y3 < x3
  · rw [if_neg h3, if_pos k3, if_neg (by omega), if_pos (by omega)]
  by_cases h2 : x2 < y2
  · rw [if_neg h3, if_neg k3, if_pos h2, if_pos (by omega)]
  by_cases k2 : y2 < x2
  · rw [if_neg h3, if_neg k3, if_neg h2, if_pos k2, if_neg (by omega), if_pos (by omega)]
  by_cases h1 : x1 < y1
  · rw [if_neg h3, if_neg k3, if_neg h2, if_neg k2, if_pos h1, if_pos (by omega)]
  by_cases k1 : y1 < x1
  · rw [if_neg h3, if_neg k3, if_neg h2, if_neg k2, if_neg h1, if_pos k1, if_neg (by omega), if_pos (by omega)]
  by_cases h0 : x0 < y0
  · rw [if_neg h3, if_neg k3, if_neg h2, if_neg k2, if_neg h1, if_neg k1, if_pos h0, if_pos (by omega)]
  by_cases k0 : y0 < x0
  · rw [if_neg h3, if_neg k3, if_neg h2, if_neg k2, if_neg h1, if_neg k1, if_neg h0, if_pos k0, if_neg (by omega), if_pos (by omega)]
  rw [if_neg h3, if_neg k3, if_neg h2, if_neg k2, if_neg h1, if_neg k1, if_neg h0, if_neg k0, if_neg (by omega), if_neg (by omega)]
theorem of_parts (a : Nat) (h : a < M) : l0 a = a ∧ l1 a = 0 ∧ l2 a = 0 ∧ l3 a = 0 := by
  unfold l0 l1 l2 l3 M at *; omega
theorem add_any (n m : Nat) (hn : n < W) (hm : m < W) (w : World) : Calls Tryz.prog 91 #[U n, U m] w fun e w' => e = .returned (.tuple #[U (addW n m), .bool (ovW n m)]) ∧ Below w.heap.size w w' := by
  refine (add_raw sm cy cy_le run_add run_add0 (l0 n) (l1 n) (l2 n) (l3 n) (l0 m) (l1 m) (l2 m) (l3 m) (l0_lt n) (l0_lt m) (l1_lt n) (l1_lt m) (l2_lt n) (l2_lt m) (l3_lt n) (l3_lt m) w).mono ?_
  rintro e w' ⟨rfl, hb⟩
  obtain ⟨⟨e0, e1, e2, e3⟩, ec⟩ := add_parts n m hn hm
  exact ⟨by rw [bne_pos, decide_eq_decide.2 ec]; unfold U addW ovW; rw [e0, e1, e2, e3], hb⟩
theorem radd_any (n m : Nat) (hn : n < W) (hm : m < W) (w : World) : Calls Tryz.prog 40 #[U n, U m] w fun e w' => e = .returned (.tuple #[U (addW n m), .bool (ovW n m)]) ∧ Below w.heap.size w w' := by
  refine (radd_raw sm cy cy_le run_add run_add0 (l0 n) (l1 n) (l2 n) (l3 n) (l0 m) (l1 m) (l2 m) (l3 m) (l0_lt n) (l0_lt m) (l1_lt n) (l1_lt m) (l2_lt n) (l2_lt m) (l3_lt n) (l3_lt m) w).mono ?_
  rintro e w' ⟨rfl, hb⟩
  obtain ⟨⟨e0, e1, e2, e3⟩, ec⟩ := add_parts n m hn hm
  exact ⟨by rw [decide_eq_decide.2 ec]; unfold U addW ovW; rw [e0, e1, e2, e3], hb⟩
theorem cmp_any (n m : Nat) (hn : n < W) (hm : m < W) (w : World) : Calls Tryz.prog 148 #[U n, U m] w fun e w' => e = .returned (.int .i64 (cmpN n m)) ∧ Below w.heap.size w w' := by
  refine (cmp_raw (l0 n) (l1 n) (l2 n) (l3 n) (l0 m) (l1 m) (l2 m) (l3 m) w).mono ?_
  rintro e w' ⟨rfl, hb⟩
  exact ⟨by rw [cmp4_eq n m hn hm], hb⟩
theorem of_any (a : Nat) (h : a < M) (w : World) : Calls Tryz.prog 48 #[B a] w fun e w' => e = .returned (U a) ∧ Below w.heap.size w w' := by
  refine (of_raw a w).mono ?_
  rintro e w' ⟨rfl, hb⟩
  obtain ⟨e0, e1, e2, e3⟩ := of_parts a h
  exact ⟨by unfold U; rw [e0, e1, e2, e3]; rfl, hb⟩
end Go.Proofs.YthkpgfbjdabflaaGreatDoor
namespace Go.Proofs.YthkpgfbjdabflaaGreatDoor
open Go.RowKit
def bits4 (a0 a1 a2 a3 : Nat) : Nat :=
  if a3 = 0 then if a2 = 0 then if a1 = 0 then if a0 = 0 then 0 else Lib.bitLen a0 else 64 + Lib.bitLen a1 else 128 + Lib.bitLen a2 else 192 + Lib.bitLen a3
theorem bitLen_le64 (x : Nat) (h : x < 18446744073709551616) : Lib.bitLen x ≤ 64 := Lib.bitLenAux_le 64 x 64 h
set_option maxHeartbeats 1000000 in
theorem bits_raw (a0 a1 a2 a3 : Nat) (g0 : a0 < 18446744073709551616) (g1 : a1 < 18446744073709551616) (g2 : a2 < 18446744073709551616) (g3 : a3 < 18446744073709551616) (w : World) : Calls Tryz.prog 214 #[U4 a0 a1 a2 a3] w fun e w' => e = .returned (.int .i64 (bits4 a0 a1 a2 a3 : Nat)) ∧ Below w.heap.size w w' := by
  have b0 := bitLen_le64 a0 g0
  have b1 := bitLen_le64 a1 g1
  have b2 := bitLen_le64 a2 g2
  have b3 := bitLen_le64 a3 g3
  go_enter Tryz.func214, Tryz.ntmps214
  go_wp2
  refine wp_loop_rounds 5 ?_
  by_cases h3 : a3 = 0
  case neg =>
    have k3 : ((a3 : Int) != 0) = true := by rw [bne_iff_ne]; omega
    rw [rounds_succ]; go_wp2_with (go_at_call 151; refine (len64_any a3 g3 _).mono ?_; rintro e w1 ⟨rfl, rfl⟩)
    go_ret
    exact ⟨by rw [bits4, if_neg h3]; simp; done, (by repeat (first | exact Below.refl _ _ | apply Below.drew | refine Below.alloc ?_ (by simp; try omega) _))⟩
  have k3 : ((a3 : Int) != 0) = false := by rw [h3]; rfl
  rw [rounds_succ]; go_wp2
  by_cases h2 : a2 = 0
  case neg =>
    have k2 : ((a2 : Int) != 0) = true := by rw [bne_iff_ne]; omega
    rw [rounds_succ]; go_wp2_with (go_at_call 151; refine (len64_any a2 g2 _).mono ?_; rintro e w1 ⟨rfl, rfl⟩)
    go_ret
    exact ⟨by rw [bits4, if_pos h3, if_neg h2]; simp; done, (by repeat (first | exact Below.refl _ _ | apply Below.drew | refine Below.alloc ?_ (by simp; try omega) _))⟩
  have k2 : ((a2 : Int) != 0) = false := by rw [h2]; rfl
  rw [rounds_succ]; go_wp2
  by_cases h1 : a1 = 0
  case neg =>
    have k1 : ((a1 : Int) != 0) = true := by rw [bne_iff_ne]; omega
    rw [rounds_succ]; go_wp2_with (go_at_call 151; refine (len64_any a1 g1 _).mono ?_; rintro e w1 ⟨rfl, rfl⟩)
    go_ret
    exact ⟨by rw [bits4, if_pos h3, if_pos h2, if_neg h1]; simp; done, (by repeat (first | exact Below.refl _ _ | apply Below.drew | refine Below.alloc ?_ (by simp; try omega) _))⟩
  have k1 : ((a1 : Int) != 0) = false := by rw [h1]; rfl
  rw [rounds_succ]; go_wp2
  by_cases h0 : a0 = 0
  case neg =>
    have k0 : ((a0 : Int) != 0) = true := by rw [bne_iff_ne]; omega
    rw [rounds_succ]; go_wp2_with (go_at_call 151; refine (len64_any a0 g0 _).mono ?_; rintro e w1 ⟨rfl, rfl⟩)
    go_ret
    exact ⟨by rw [bits4, if_pos h3, if_pos h2, if_pos h1, if_neg h0]; simp; done, (by repeat (first | exact Below.refl _ _ | apply Below.drew | refine Below.alloc ?_ (by simp; try omega) _))⟩
  have k0 : ((a0 : Int) != 0) = false := by rw [h0]; rfl
  rw [rounds_succ]; go_wp2
  rw [rounds_succ]; go_wp2; go_ret; exact ⟨by rw [bits4, if_pos h3, if_pos h2, if_pos h1, if_pos h0]; rfl, (by repeat (first | exact Below.refl _ _ | apply Below.drew | refine Below.alloc ?_ (by simp; try omega) _))⟩
end Go.Proofs.YthkpgfbjdabflaaGreatDoor
namespace Go.Proofs.YthkpgfbjdabflaaGreatDoor
open Go.RowKit
set_option linter.unusedVariables false

def shlW (n k : Nat) : Nat := n * 2 ^ k % W
def shrW (n k : Nat) : Nat := n / 2 ^ k
def bitsN (n : Nat) : Nat := bits4 (l0 n) (l1 n) (l2 n) (l3 n)
theorem bits_any (n : Nat) (w : World) : Calls Tryz.prog 214 #[U n] w fun e w' => e = .returned (.int .i64 (bitsN n : Nat)) ∧ Below w.heap.size w w' :=
  bits_raw (l0 n) (l1 n) (l2 n) (l3 n) (l0_lt n) (l1_lt n) (l2_lt n) (l3_lt n) w
theorem bitsN_le (n j : Nat) (h : n < 2 ^ j) : bitsN n ≤ j := by
  have key : ∀ x i : Nat, x = n / 2 ^ (64 * i) % M → x ≠ 0 → 64 * i + Lib.bitLen x ≤ j := by
    intro x i hx h0
    have hle : x ≤ n / 2 ^ (64 * i) := by rw [hx]; exact Nat.mod_le _ _
    have hij : 64 * i ≤ j := by
      rcases Nat.lt_or_ge j (64 * i) with h' | h'
      · have : n / 2 ^ (64 * i) = 0 := Nat.div_eq_of_lt (Nat.lt_of_lt_of_le h (Nat.pow_le_pow_right (by decide) (by omega)))
        omega
      · exact h'
    have hlt : x < 2 ^ (j - 64 * i) := by
      refine Nat.lt_of_le_of_lt hle (Nat.div_lt_of_lt_mul ?_)
      rw [← Nat.pow_add, show 64 * i + (j - 64 * i) = j by omega]; exact h
    have := Lib.bitLenAux_le 64 x (j - 64 * i) hlt
    unfold Lib.bitLen; omega
  have k0 := key (l0 n) 0 (by unfold l0; simp)
  have k1 := key (l1 n) 1 (by unfold l1; rw [M_pow])
  have k2 := key (l2 n) 2 (by unfold l2; rw [MM_pow])
  have k3 := key (l3 n) 3 (by unfold l3; rw [MMM_pow])
  unfold bitsN bits4
  split
  · split
    · split
      · split
        · omega
        · rename_i h; have := k0 h; omega
      · rename_i h; have := k1 h; omega
    · rename_i h; have := k2 h; omega
  · rename_i h; have := k3 h; omega
end Go.Proofs.YthkpgfbjdabflaaGreatDoor
