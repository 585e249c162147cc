/- MemTells and MemWords. -/
import Derived.Test.YtdbilbcpnhkbaaaNh
namespace Go.Proofs.Ytdbilbcpnhkbaaa
open Go.RowKit Go.Sort Go.Shelf
set_option linter.unusedVariables false
set_option maxRecDepth 100000
set_option maxHeartbeats 4000000 in
theorem tells_walk (m : List UInt8) (x n : Nat) (hx : x < W) (hn : n < W) (i : Int) (hi0 : -9223372036854775808 ≤ i) (hi1 : i < 9223372036854775808) (s : List UInt8) (w : World) : Calls Try.prog 3 #[str m, U x, U n, Z i, str s] w fun e w' => e = .returned (.bool true) ∧ Below w.heap.size w w' := by
  by_cases hm : 10000 < m.length
  · unfold U
    generalize l0 n = n0 at *
    generalize l1 n = n1 at *
    generalize l2 n = n2 at *
    generalize l3 n = n3 at *
    generalize l0 x = x0 at *
    generalize l1 x = x1 at *
    generalize l2 x = x2 at *
    generalize l3 x = x3 at *
    refine inQ (J := Below w.heap.size w) (F := (· < w.heap.size)) Try.func3 (Below.refl _ _) fun a I => ?_
    refine goQ [lnO m, bO .gtr 3 (run_gtrZ (x := m.length) (y := 10000) (b := true) (decide_eq_true (by omega))), kC Try.func8 awake_any] (nonR w) I fun β a w1 I1 hb => ?_
    exact outQ (v := .bool true) I1 ⟨rfl, I1.hJ⟩
  by_cases hs : 10000 < s.length
  · unfold U
    generalize l0 n = n0 at *
    generalize l1 n = n1 at *
    generalize l2 n = n2 at *
    generalize l3 n = n3 at *
    generalize l0 x = x0 at *
    generalize l1 x = x1 at *
    generalize l2 x = x2 at *
    generalize l3 x = x3 at *
    refine inQ (J := Below w.heap.size w) (F := (· < w.heap.size)) Try.func3 (Below.refl _ _) fun a I => ?_
    refine goQ [lnO m, bO .gtr 3 (run_gtrZ (x := m.length) (y := 10000) (b := false) (decide_eq_false (by omega))), lnO s, bO .gtr 3 (run_gtrZ (x := s.length) (y := 10000) (b := true) (decide_eq_true (by omega))), kC Try.func8 awake_any] (nonR w) I fun β a w1 I1 hb => ?_
    exact outQ (v := .bool true) I1 ⟨rfl, I1.hJ⟩
  have hg := grow_any m (by omega) x n hx hn
  have hrg := rgrow_any m (by omega) x n hx hn
  have hw := words_any i hi0 hi1
  have hrw := rwords_any i hi0 hi1
  have hc := cost_any i
  have hrc := rcost_any i
  have hp := put_any m s (by omega) (by omega) i
  have hrp := rput_any m s (by omega) (by omega) i
  have hsl := slice_any s (by omega) x hx i
  have hrsl := rslice_any s (by omega) x hx i
  generalize growV m x n = gv at *
  obtain ⟨g1, g2, g3⟩ := gv
  simp only [] at hg hrg
  generalize wds i = wi at *
  generalize cst i = ci at *
  generalize putV m i s = pv at *
  generalize slV s x i = sv at *
  unfold U at hg hrg hsl hrsl ⊢
  generalize l0 n = n0 at *
  generalize l1 n = n1 at *
  generalize l2 n = n2 at *
  generalize l3 n = n3 at *
  generalize l0 x = x0 at *
  generalize l1 x = x1 at *
  generalize l2 x = x2 at *
  generalize l3 x = x3 at *
  refine inQ (J := Below w.heap.size w) (F := (· < w.heap.size)) Try.func3 (Below.refl _ _) fun a I => ?_
  refine goQ [lnO m, bO .gtr 3 (run_gtrZ (x := m.length) (y := 10000) (b := false) (decide_eq_false (by omega))), lnO s, bO .gtr 3 (run_gtrZ (x := s.length) (y := 10000) (b := false) (decide_eq_false (by omega))), kC Try.func9 hg, kC Try.func10 hrg] (nonR w) I fun β a w1 I1 hb => ?_
  refine dwQ 52 [kC Try.func11 hw, kC Try.func12 hrw, bO .eql 3 (run_eqlZ (x := wi) (y := wi) (b := true) (decide_eq_true rfl)), kC Try.func13 hc, kC Try.func14 hrc, bO .eql 3 (run_eqlZ (x := ci) (y := ci) (b := true) (decide_eq_true rfl)), bO .eql 9 (eqS_run (a := g1) (b := g1) (q := true) (decide_eq_true rfl)), bO .eql 3 (run_eqlZ (x := g2) (y := g2) (b := true) (decide_eq_true rfl)), bO .eql 3 (run_eqlZ (x := g3) (y := g3) (b := true) (decide_eq_true rfl)), kC Try.func15 hp, kC Try.func16 hrp, bO .eql 9 (eqS_run (a := pv) (b := pv) (q := true) (decide_eq_true rfl)), kC Try.func17 hsl, kC Try.func18 hrsl, bO .eql 9 (eqS_run (a := sv) (b := sv) (q := true) (decide_eq_true rfl)), kC Try.func8 awake_any] (nonR w) PanOk.post I1 fun a2 w2 I2 => ?_
  refine goQ [] (nonR w) I2 fun β a w3 I3 hb => ?_
  exact outQ (v := .bool true) I3 ⟨rfl, I3.hJ⟩
theorem cnv39 (n : Nat) (h : n < 4294967296) (w : World) : (convert 39 3 (.int .u32 n)).run Try.prog w = .ok (Z n) w := by
  have : IntKind.i64.wrap (n : Int) = n := wz (by omega) (by omega)
  simp [go_sem, this]
theorem cnv35 (n : Nat) (h : n < 65536) (w : World) : (convert 35 3 (.int .u16 n)).run Try.prog w = .ok (Z n) w := by
  have : IntKind.i64.wrap (n : Int) = n := wz (by omega) (by omega)
  simp [go_sem, this]
theorem run_gtr39 {x y : Int} {b : Bool} (h : decide (y < x) = b) (o1 o2 : Operand) (w : World) : (do eqGuard .gtr 39 o1 o2 (.int .u32 x) (.int .u32 y); binOp .gtr 39 (.int .u32 x) (.int .u32 y) : Sem Value).run Try.prog w = .ok (.bool b) w := by simp [go_sem, h]
theorem run_eql39 {x y : Int} {b : Bool} (h : decide (x = y) = b) (o1 o2 : Operand) (w : World) : (do eqGuard .eql 39 o1 o2 (.int .u32 x) (.int .u32 y); binOp .eql 39 (.int .u32 x) (.int .u32 y) : Sem Value).run Try.prog w = .ok (.bool b) w := by
  subst h
  by_cases hx : x = y
  · simp [go_sem, hx]
  · simp [go_sem, hx]
theorem cst_in {n : Int} (h0 : 0 ≤ n) (h1 : n ≤ 65536) : cst n = 3 * n + n * n / 512 := by unfold cst; rw [lim_in h0 h1]
theorem cst_up {n : Int} (h0 : 0 ≤ n) (h1 : n ≤ 65535) : 3 * n ≤ cst n ∧ cst n < cst (n + 1) := by
  rw [cst_in h0 (by omega), cst_in (by omega) (by omega)]
  have h2 : (n + 1) * (n + 1) = n * n + 2 * n + 1 := by rw [Int.add_mul, Int.mul_add]; omega
  have h3 := Int.mul_nonneg h0 h0
  rw [h2]
  generalize n * n = q at *
  omega
set_option maxHeartbeats 4000000 in
theorem words_walk (n k : Nat) (hn : n < 4294967296) (hk : k < 65536) (w : World) : Calls Try.prog 7 #[.int .u32 n, .int .u16 k] w fun e w' => e = .returned (.bool true) ∧ Below w.heap.size w w' := by
  have hw := words_any n (by omega) (by omega)
  have hb : (n = 0 → wds (n : Int) = 0) ∧ (n : Int) ≤ 32 * wds n ∧ 32 * wds n < (n : Int) + 32 ∧ 0 ≤ wds (n : Int) := by unfold wds; split <;> omega
  generalize wds (n : Int) = q at *
  have hc := cost_any k
  have hc1 := cost_any ((k + 1 : Nat) : Int)
  have hu := cst_up (n := k) (by omega) (by omega)
  have hb1 := cst_bd k
  have e1 : ((k : Int) + 1) = ((k + 1 : Nat) : Int) := by omega
  rw [e1] at hu
  generalize cst ((k + 1 : Nat) : Int) = c1 at *
  generalize cst (k : Int) = c0 at *
  have cn := fun w => cnv39 n hn w
  have ck := fun w => cnv35 k hk w
  refine inQ (J := Below w.heap.size w) (F := (· < w.heap.size)) Try.func7 (Below.refl _ _) fun a I => ?_
  have hmul := run_mulZ (x := 32) (y := q) (z := 32 * q) (by rw [wzf (by omega) (by omega)])
  have hm3 := run_mulZ (x := 3) (y := k) (z := 3 * (k : Int)) (by rw [wzf (by omega) (by omega)])
  have hsub := run_subZ (x := 32 * q) (y := 31) (z := 32 * q - 31) (by rw [wzf (by omega) (by omega)])
  have hadd := run_addZ (x := k) (y := 1) (z := (k + 1 : Nat)) (by rw [wzf (by omega) (by omega)]; omega)
  have f1 := run_lssZ (x := 32 * q) (y := n) (b := false) (decide_eq_false (by omega))
  have f2 := run_gtrZ (x := 32 * q - 31) (y := n) (b := false) (decide_eq_false (by omega))
  have g1 := run_geqZ (x := c0) (y := 3 * (k : Int)) (b := true) (decide_eq_true (by omega))
  have g2 := run_gtrZ (x := c1) (y := c0) (b := true) (decide_eq_true (by omega))
  by_cases h0 : n = 0
  · have f3 := run_eql39 (x := (n : Int)) (y := 0) (b := true) (decide_eq_true (by omega))
    have f4 := run_neqZ (x := q) (y := 0) (b := false) (decide_eq_false (by omega))
    refine goQ [vO 39 3 cn, kC Try.func11 hw, bO .mul 3 hmul, vO 39 3 cn, bO .lss 3 f1, bO .mul 3 hmul, bO .sub 3 hsub, vO 39 3 cn, bO .gtr 3 f2, bO .eql 39 f3, bO .neq 3 f4, vO 35 3 ck, kC Try.func13 hc, vO 35 3 ck, bO .mul 3 hm3, bO .geq 3 g1, vO 35 3 ck, bO .add 3 hadd, kC Try.func13 hc1, vO 35 3 ck, kC Try.func13 hc, bO .gtr 3 g2, kC Try.func8 awake_any] (nonR w) I fun β a w1 I1 hb => ?_
    exact outQ (v := .bool true) I1 ⟨rfl, I1.hJ⟩
  · have f3 := run_eql39 (x := (n : Int)) (y := 0) (b := false) (decide_eq_false (by omega))
    refine goQ [vO 39 3 cn, kC Try.func11 hw, bO .mul 3 hmul, vO 39 3 cn, bO .lss 3 f1, bO .mul 3 hmul, bO .sub 3 hsub, vO 39 3 cn, bO .gtr 3 f2, bO .eql 39 f3, vO 35 3 ck, kC Try.func13 hc, vO 35 3 ck, bO .mul 3 hm3, bO .geq 3 g1, vO 35 3 ck, bO .add 3 hadd, kC Try.func13 hc1, vO 35 3 ck, kC Try.func13 hc, bO .gtr 3 g2, kC Try.func8 awake_any] (nonR w) I fun β a w1 I1 hb => ?_
    exact outQ (v := .bool true) I1 ⟨rfl, I1.hJ⟩
end Go.Proofs.Ytdbilbcpnhkbaaa
