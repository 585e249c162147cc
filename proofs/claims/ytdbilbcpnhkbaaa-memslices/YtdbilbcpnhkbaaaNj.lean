/- MemCosts and MemSlices. -/
import Derived.Test.YtdbilbcpnhkbaaaNi
namespace Go.Proofs.Ytdbilbcpnhkbaaa
open Go.RowKit Go.Sort Go.Shelf
set_option linter.unusedVariables false
set_option maxRecDepth 100000
theorem wds32 (p : Nat) : wds ((32 * p : Nat) : Int) = p := by unfold wds; split <;> omega
theorem fil_zr (a b : Nat) : fil (zr a) b = zr (max a b) := by
  unfold fil
  rw [List.length_replicate, List.replicate_append_replicate]
  congr 1
  omega
theorem grow_zr (p n : Nat) (h0 : 0 < n) (h1 : n ≤ 4096) : growV (zr (32 * p)) 0 n = (zr (32 * max p (wds (n : Int)).toNat), cst ((max p (wds (n : Int)).toNat : Nat) : Int) - cst (p : Int), 0) := by
  unfold growV
  rw [if_neg (by omega), if_neg (by omega), Nat.zero_add, fil_zr, List.length_replicate, List.length_replicate, wds32]
  have e : max (32 * p) (32 * (wds (n : Int)).toNat) = 32 * max p (wds (n : Int)).toNat := by omega
  rw [e, wds32]
theorem cst_mono {p q : Nat} (h : p ≤ q) (hq : q ≤ 65536) : cst (p : Int) ≤ cst (q : Int) := by
  rw [cst_in (by omega) (by omega), cst_in (by omega) (by omega)]
  have := Int.mul_le_mul (show (p : Int) ≤ q by omega) (show (p : Int) ≤ q by omega) (by omega) (by omega)
  omega
theorem cnv35u (n : Nat) (h : n < 65536) (w : World) : (convert 35 22 (.int .u16 n)).run Try.prog w = .ok (B n) w := by
  have : IntKind.u64.wrap (n : Int) = n := by unfold IntKind.wrap; simp [IntKind.signed, IntKind.bits]; omega
  simp [go_sem, this]
theorem run_remB {x y z : Int} (hy : y ≠ 0) (h : x.tmod y = z) (o1 o2 : Operand) (w : World) : (do eqGuard .rem 22 o1 o2 (.int .u64 x) (.int .u64 y); binOp .rem 22 (.int .u64 x) (.int .u64 y) : Sem Value).run Try.prog w = .ok (.int .u64 z) w := by
  simp [go_sem, h, hy]
theorem run_addB {x y z : Int} (h : IntKind.u64.wrap (x + y) = z) (o1 o2 : Operand) (w : World) : (do eqGuard .add 22 o1 o2 (.int .u64 x) (.int .u64 y); binOp .add 22 (.int .u64 x) (.int .u64 y) : Sem Value).run Try.prog w = .ok (.int .u64 z) w := by simp [go_sem, h]
theorem run_geqB {x y : Int} {b : Bool} (h : decide (y ≤ x) = b) (o1 o2 : Operand) (w : World) : (do eqGuard .geq 22 o1 o2 (.int .u64 x) (.int .u64 y); binOp .geq 22 (.int .u64 x) (.int .u64 y) : Sem Value).run Try.prog w = .ok (.bool b) w := by simp [go_sem, h]
theorem run_gtrB {x y : Int} {b : Bool} (h : decide (y < x) = b) (o1 o2 : Operand) (w : World) : (do eqGuard .gtr 22 o1 o2 (.int .u64 x) (.int .u64 y); binOp .gtr 22 (.int .u64 x) (.int .u64 y) : Sem Value).run Try.prog w = .ok (.bool b) w := by simp [go_sem, h]
theorem run_neqB {x y : Int} {b : Bool} (h : decide (x ≠ y) = b) (o1 o2 : Operand) (w : World) : (do eqGuard .neq 22 o1 o2 (.int .u64 x) (.int .u64 y); binOp .neq 22 (.int .u64 x) (.int .u64 y) : Sem Value).run Try.prog w = .ok (.bool b) w := by
  subst h
  by_cases hx : x = y
  · simp [go_sem, hx]
  · simp [go_sem, hx]
theorem wu {n : Int} (h0 : 0 ≤ n) (h : n < 18446744073709551616) : IntKind.u64.wrap n = n := by unfold IntKind.wrap; simp [IntKind.signed, IntKind.bits]; omega
theorem remB {a : Nat} : (a : Int).tmod 4096 = ((a % 4096 : Nat) : Int) := by rw [Int.tmod_eq_emod_of_nonneg (by omega)]; omega
set_option maxHeartbeats 4000000 in
theorem costs_walk (a b : Nat) (ha : a < 65536) (hb : b < 65536) (w : World) : Calls Try.prog 5 #[.int .u16 a, .int .u16 b] w fun e w' => e = .returned (.bool true) ∧ Below w.heap.size w w' := by
  have hM := M_big
  have hW := M_W
  obtain ⟨n, en⟩ : ∃ n, a % 4096 + 1 = n := ⟨_, rfl⟩
  obtain ⟨k, ek⟩ : ∃ k, b % 4096 + 1 = k := ⟨_, rfl⟩
  have c1 := fun w => cnv35u a ha w
  have c2 := fun w => cnv35u b hb w
  have r1 := run_remB (x := a) (y := 4096) (z := (a % 4096 : Nat)) (by decide) remB
  have r2 := run_remB (x := b) (y := 4096) (z := (b % 4096 : Nat)) (by decide) remB
  have d1 := run_addB (x := (a % 4096 : Nat)) (y := 1) (z := n) (by rw [wu (by omega) (by omega)]; omega)
  have d2 := run_addB (x := (b % 4096 : Nat)) (y := 1) (z := k) (by rw [wu (by omega) (by omega)]; omega)
  have hn0 : 0 < n := by omega
  have hn1 : n ≤ 4096 := by omega
  have hk0 : 0 < k := by omega
  have hk1 : k ≤ 4096 := by omega
  generalize a % 4096 = ra at *
  generalize b % 4096 = rb at *
  have hx := wds_bd (n := (n : Int)) (by omega) (by omega)
  have hy := wds_bd (n := (k : Int)) (by omega) (by omega)
  have hz := wds_bd (n := ((max n k : Nat) : Int)) (by omega) (by omega)
  have g1 := grow_any (zr (32 * 0)) (by simp) 0 n (by omega) (by omega)
  have g2 := fun p h => grow_any (zr (32 * p)) h 0 k (by omega) (by omega)
  have g3 := grow_any (zr (32 * 0)) (by simp) 0 (max n k) (by omega) (by omega)
  rw [grow_zr 0 n hn0 hn1, U0, U_small n (by omega)] at g1
  rw [grow_zr 0 (max n k) (by omega) (by omega), U0, U_small (max n k) (by omega)] at g3
  obtain ⟨p, hp⟩ : ∃ p : Nat, wds (n : Int) = p := ⟨_, (Int.toNat_of_nonneg hx.1).symm⟩
  obtain ⟨q, hq⟩ : ∃ p : Nat, wds (k : Int) = p := ⟨_, (Int.toNat_of_nonneg hy.1).symm⟩
  obtain ⟨r, hr⟩ : ∃ p : Nat, wds ((max n k : Nat) : Int) = p := ⟨_, (Int.toNat_of_nonneg hz.1).symm⟩
  have g2 := g2 p (by rw [List.length_replicate]; omega)
  rw [grow_zr p k hk0 hk1, U0, U_small k (by omega), hq] at g2
  rw [hp] at hx g1
  rw [hq] at hy
  rw [hr] at hz g3
  simp only [Int.toNat_natCast, Nat.zero_max] at g1 g2 g3
  have er : r = max p q := by omega
  subst er
  have hmx : (if (n : Int) < (k : Int) then (k : Int) else (n : Int)) = ((max n k : Nat) : Int) := by split <;> omega
  have cc : cst ((0 : Nat) : Int) = 0 := by decide
  have z0 : zr (32 * 0) = [] := rfl
  rw [cc, Int.sub_zero, z0] at g1 g3
  have hcm := cst_mono (p := p) (q := max p q) (by omega) (by omega)
  have hcp := cst_bd p
  have hcq := cst_bd ((max p q : Nat) : Int)
  generalize cst ((max p q : Nat) : Int) = cq at *
  generalize cst (p : Int) = cp at *
  have hl : (zr (32 * max p q)).length = 32 * max p q := by rw [List.length_replicate]
  generalize zr (32 * max p q) = Y at *
  generalize zr (32 * p) = X at *
  obtain ⟨mx, emx⟩ : ∃ mx, max n k = mx := ⟨_, rfl⟩
  rw [emx] at g3 hz hmx
  have hcv := fun w => cnv64 Y.length (by omega) w
  refine inQ (J := Below w.heap.size w) (F := (· < w.heap.size)) Try.func5 (Below.refl _ _) fun a I => ?_
  refine goQ [vO 35 22 c1, bO .rem 22 r1, bO .add 22 d1, vO 35 22 c2, bO .rem 22 r2, bO .add 22 d2, dO 24 [] bd24_0, dO 24 [0] (bd24_1 n), kC Try.func9 g1, dO 24 [] bd24_0, dO 24 [0] (bd24_1 k), kC Try.func9 g2, dO 24 [] bd24_0, mxO (k := .u64) (x := n) (y := k) (z := mx) hmx, dO 24 [0] (bd24_1 mx), kC Try.func9 g3,
    bO .eql 26 (run_eql26 (x := 0) (y := 0) (b := true) rfl), bO .eql 26 (run_eql26 (x := 0) (y := 0) (b := true) rfl), bO .eql 26 (run_eql26 (x := 0) (y := 0) (b := true) rfl), bO .eql 9 (eqS_run (a := Y) (b := Y) (q := true) (decide_eq_true rfl)), bO .add 3 (run_addZ (x := cp) (y := cq - cp) (z := cq) (by rw [wzf (by omega) (by omega)]; omega)), bO .eql 3 (run_eqlZ (x := cq) (y := cq) (b := true) (decide_eq_true rfl)), bO .geq 3 (run_geqZ (x := cq - cp) (y := 0) (b := true) (decide_eq_true (by omega))), lnO Y, bO .rem 3 (run_remZ (x := Y.length) (y := 32) (z := 0) (by decide) (by rw [Int.tmod_eq_emod_of_nonneg (by omega)]; omega)), bO .eql 3 (run_eqlZ (x := 0) (y := 0) (b := true) (decide_eq_true rfl)), lnO Y, vO 3 22 hcv, mxO (k := .u64) (x := n) (y := k) (z := mx) hmx, bO .geq 22 (run_geqB (x := Y.length) (y := mx) (b := true) (decide_eq_true (by omega))), kC Try.func8 awake_any] (nonR w) I fun β a w1 I1 hb => ?_
  exact outQ (v := .bool true) I1 ⟨rfl, I1.hJ⟩
end Go.Proofs.Ytdbilbcpnhkbaaa
