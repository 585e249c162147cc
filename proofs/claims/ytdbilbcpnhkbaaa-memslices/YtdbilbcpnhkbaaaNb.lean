/- Words and what they cost, of the program and of the document. -/
import Derived.Test.YtdbilbcpnhkbaaaNa
namespace Go.Proofs.Ytdbilbcpnhkbaaa
open Go.RowKit Go.Sort
set_option linter.unusedVariables false
set_option maxRecDepth 100000
theorem wzf {n : Int} (h0 : -9223372036854775808 ≤ n) (h : n < 9223372036854775808) : IntKind.i64.wrap n = n := by
  rw [IntKind.wrap_i64 n]; omega
def wds (n : Int) : Int := if n ≤ 0 then 0 else (n - 1) / 32 + 1
theorem wds_lo {n : Int} (h : n ≤ 0) : wds n = 0 := by unfold wds; rw [if_pos h]
theorem wds_hi {n : Int} (h : 0 < n) : wds n = (n - 1) / 32 + 1 := by unfold wds; rw [if_neg (by omega)]
theorem words_any (n : Int) (h0 : -9223372036854775808 ≤ n) (h1 : n < 9223372036854775808) (w : World) : Calls Try.prog 11 #[Z n] w fun e w' => e = .returned (Z (wds n)) ∧ Below w.heap.size w w' := by
  refine inQ (J := Below w.heap.size w) (F := (· < w.heap.size)) Try.func11 (Below.refl _ _) fun a I => ?_
  by_cases hn : n < 0
  · refine goQ [bO .lss 3 (run_lssZ (x := n) (y := 0) (b := true) (by simp; omega))] (nonR w) I fun β a w1 I1 hb => ?_
    exact outQ (v := Z 0) I1 ⟨by rw [wds_lo (by omega)], I1.hJ⟩
  have hq : IntKind.i64.wrap (n.tdiv 32) = n / 32 := by rw [Int.tdiv_eq_ediv_of_nonneg (by omega), wzf (by omega) (by omega)]
  have hr : n.tmod 32 = n % 32 := by rw [Int.tmod_eq_emod_of_nonneg (by omega)]
  obtain ⟨q, eq⟩ : ∃ q, n / 32 = q := ⟨_, rfl⟩
  obtain ⟨r, er⟩ : ∃ r, n % 32 = r := ⟨_, rfl⟩
  rw [eq] at hq
  rw [er] at hr
  by_cases hz : 0 < r
  · refine goQ [bO .lss 3 (run_lssZ (x := n) (y := 0) (b := false) (by simp; omega)), bO .quo 3 (run_quoZ (x := n) (y := 32) (z := q) (by decide) hq), bO .rem 3 (run_remZ (x := n) (y := 32) (z := r) (by decide) hr), bO .gtr 3 (run_gtrZ (x := r) (y := 0) (b := true) (by simp; omega)), bO .add 3 (run_addZ (x := q) (y := 1) (z := q + 1) (by rw [wzf (by omega) (by omega)]))] (nonR w) I fun β a w1 I1 hb => ?_
    exact outQ (v := Z (q + 1)) I1 ⟨by rw [wds_hi (by omega)]; congr 2; omega, I1.hJ⟩
  · refine goQ [bO .lss 3 (run_lssZ (x := n) (y := 0) (b := false) (by simp; omega)), bO .quo 3 (run_quoZ (x := n) (y := 32) (z := q) (by decide) hq), bO .rem 3 (run_remZ (x := n) (y := 32) (z := r) (by decide) hr), bO .gtr 3 (run_gtrZ (x := r) (y := 0) (b := false) (by simp; omega))] (nonR w) I fun β a w1 I1 hb => ?_
    refine outQ (v := Z q) I1 ⟨?_, I1.hJ⟩
    by_cases h : n = 0
    · rw [wds_lo (by omega)]; congr 2; omega
    · rw [wds_hi (by omega)]; congr 2; omega
theorem rwords_any (n : Int) (h0 : -9223372036854775808 ≤ n) (h1 : n < 9223372036854775808) (w : World) : Calls Try.prog 12 #[Z n] w fun e w' => e = .returned (Z (wds n)) ∧ Below w.heap.size w w' := by
  refine inQ (J := Below w.heap.size w) (F := (· < w.heap.size)) Try.func12 (Below.refl _ _) fun a I => ?_
  by_cases hn : n ≤ 0
  · refine goQ [bO .leq 3 (run_leqZ (x := n) (y := 0) (b := true) (by simp; omega))] (nonR w) I fun β a w1 I1 hb => ?_
    exact outQ (v := Z 0) I1 ⟨by rw [wds_lo (by omega)], I1.hJ⟩
  have hq : IntKind.i64.wrap ((n - 1).tdiv 32) = (n - 1) / 32 := by rw [Int.tdiv_eq_ediv_of_nonneg (by omega), wzf (by omega) (by omega)]
  obtain ⟨m, em⟩ : ∃ m, n - 1 = m := ⟨_, rfl⟩
  rw [em] at hq
  obtain ⟨q, eq⟩ : ∃ q, m / 32 = q := ⟨_, rfl⟩
  rw [eq] at hq
  refine goQ [bO .leq 3 (run_leqZ (x := n) (y := 0) (b := false) (by simp; omega)), bO .sub 3 (run_subZ (x := n) (y := 1) (z := m) (by rw [wzf (by omega) (by omega)]; omega)), bO .quo 3 (run_quoZ (x := m) (y := 32) (z := q) (by decide) hq), bO .add 3 (run_addZ (x := q) (y := 1) (z := q + 1) (by rw [wzf (by omega) (by omega)]))] (nonR w) I fun β a w1 I1 hb => ?_
  exact outQ (v := Z (q + 1)) I1 ⟨by rw [wds_hi (by omega), em, eq], I1.hJ⟩
/-- What so many words cost. -/
def lim (n : Int) : Int := if 65536 < (if n < 0 then 0 else n) then 65536 else (if n < 0 then 0 else n)
def cst (n : Int) : Int := 3 * lim n + lim n * lim n / 512
theorem lim_bd (n : Int) : 0 ≤ lim n ∧ lim n ≤ 65536 := by unfold lim; split <;> split <;> omega
theorem lim_in {n : Int} (h0 : 0 ≤ n) (h1 : n ≤ 65536) : lim n = n := by unfold lim; rw [if_neg (by omega : ¬ n < 0)]; split <;> omega
theorem sq_bd {p : Int} (h0 : 0 ≤ p) (h1 : p ≤ 65536) : 0 ≤ p * p ∧ p * p ≤ 4294967296 := by
  refine ⟨Int.mul_nonneg h0 h0, ?_⟩
  have := Int.mul_le_mul h1 h1 h0 (by omega)
  omega
theorem cst_bd (n : Int) : 0 ≤ cst n ∧ cst n ≤ 8585216 := by
  have h := lim_bd n
  have h2 := sq_bd h.1 h.2
  unfold cst
  generalize lim n * lim n = s at *
  omega
theorem price_any (n : Int) (w : World) : Calls Try.prog 28 #[Z n] w fun e w' => e = .returned (Z (cst n)) ∧ Below w.heap.size w w' := by
  have hl := lim_bd n
  have hs := sq_bd hl.1 hl.2
  unfold cst
  have e1 : (if 65536 < (if n < 0 then 0 else n) then (65536 : Int) else (if n < 0 then 0 else n)) = lim n := rfl
  generalize lim n = p at *
  obtain ⟨s, es⟩ : ∃ s, p * p = s := ⟨_, rfl⟩
  rw [es] at hs ⊢
  obtain ⟨m, em⟩ : ∃ m, (if n < 0 then (0 : Int) else n) = m := ⟨_, rfl⟩
  rw [em] at e1
  refine inQ (J := Below w.heap.size w) (F := (· < w.heap.size)) Try.func28 (Below.refl _ _) fun a I => ?_
  refine goQ [mxO (k := .i64) (x := n) (y := 0) (z := m) em, mnO (x := m) (y := 65536) (z := p) e1, bO .mul 3 (run_mulZ (x := 3) (y := p) (z := 3 * p) (by rw [wzf (by omega) (by omega)])), bO .mul 3 (run_mulZ (x := p) (y := p) (z := s) (by rw [es, wzf (by omega) (by omega)])), bO .quo 3 (run_quoZ (x := s) (y := 512) (z := s / 512) (by decide) (by rw [Int.tdiv_eq_ediv_of_nonneg (by omega), wzf (by omega) (by omega)])), bO .add 3 (run_addZ (x := 3 * p) (y := s / 512) (z := 3 * p + s / 512) (by rw [wzf (by omega) (by omega)]))] (nonR w) I fun β a w1 I1 hb => ?_
  exact outQ (v := Z (3 * p + s / 512)) I1 ⟨rfl, I1.hJ⟩
theorem rcost_any (n : Int) (w : World) : Calls Try.prog 14 #[Z n] w fun e w' => e = .returned (Z (cst n)) ∧ Below w.heap.size w w' := by
  have hl := lim_bd n
  have hs := sq_bd hl.1 hl.2
  unfold cst
  have e1 : (if 65536 < (if n < 0 then 0 else n) then (65536 : Int) else (if n < 0 then 0 else n)) = lim n := rfl
  generalize lim n = p at *
  obtain ⟨s, es⟩ : ∃ s, p * p = s := ⟨_, rfl⟩
  rw [es] at hs ⊢
  obtain ⟨m, em⟩ : ∃ m, (if n < 0 then (0 : Int) else n) = m := ⟨_, rfl⟩
  rw [em] at e1
  refine inQ (J := Below w.heap.size w) (F := (· < w.heap.size)) Try.func14 (Below.refl _ _) fun a I => ?_
  refine goQ [mxO (k := .i64) (x := n) (y := 0) (z := m) em, mnO (x := m) (y := 65536) (z := p) e1, bO .mul 3 (run_mulZ (x := 3) (y := p) (z := 3 * p) (by rw [wzf (by omega) (by omega)])), bO .mul 3 (run_mulZ (x := p) (y := p) (z := s) (by rw [es, wzf (by omega) (by omega)])), bO .quo 3 (run_quoZ (x := s) (y := 512) (z := s / 512) (by decide) (by rw [Int.tdiv_eq_ediv_of_nonneg (by omega), wzf (by omega) (by omega)])), bO .add 3 (run_addZ (x := 3 * p) (y := s / 512) (z := 3 * p + s / 512) (by rw [wzf (by omega) (by omega)]))] (nonR w) I fun β a w1 I1 hb => ?_
  exact outQ (v := Z (3 * p + s / 512)) I1 ⟨rfl, I1.hJ⟩
/-- The closure that tells costs. -/
abbrev cloV (g : Nat) : Value := .func (.func 29) #[] #[ptr0 g]
theorem from_any (n : Int) (w : World) : Calls Try.prog 22 #[Z n] w fun e w' => ∃ g, e = .returned (cloV g) ∧ w.heap.size ≤ g ∧ HasRow w' g #[Z (cst n)] ∧ Below w.heap.size w w' := by
  refine inQ (J := Below w.heap.size w) (F := (· < w.heap.size)) Try.func22 (Below.refl _ _) fun a I => ?_
  have hp := price_any n
  generalize cst n = p at *
  refine goQ [kC Try.func28 hp] (nonR w) I fun β a w1 I1 hb => ?_
  refine mkfX (fn := .func 29) (ss := [Sum.inr (0, 0)]) I1 ?_
  have hr := I1.rowAt 0 (r := #[Z p])
  have hd : ¬ (β 0 < w.heap.size) := I1.dis (0, #[Z p]) (rowOf_mem (by kernel_rfl))
  refine goQ [] (nonR w) (I1.same (cloV (β 0))) fun β2 a2 w2 I2 hb2 => ?_
  have hβ : β2 0 = β 0 := agr hb2 0 rfl
  exact outQ (v := cloV (β 0)) I2 ⟨_, rfl, by omega, hβ ▸ I2.rowAt 0 (r := #[Z p]), I2.hJ⟩
theorem clo_any {g : Nat} {p : Int} {w : World} (hr : HasRow w g #[Z p]) (hp : 0 ≤ p ∧ p ≤ 8585216) (n : Int) : Calls Try.prog 29 #[Z n, ptr0 g] w fun e w' => e = .returned (Z (cst n - p)) ∧ Below w.heap.size w w' := by
  have hq := price_any n
  have hc := cst_bd n
  generalize cst n = q at *
  have hT : ∀ w', Below w.heap.size w w' → HasRow w' g #[Z p] := fun w' hb => hr.below hb
  have hld : ∀ w', HasRow w' g #[Z p] → (loadVar 3 ⟨g, 0, none⟩).run Try.prog w' = .ok (Z p) w' := fun w' h => load1 (cs := [Z p]) (fun j c hc => by rw [h.cell]; simpa using hc) 0 rfl 3 Try.underlying3 rfl
  refine inQ (J := Below w.heap.size w) (F := (· < w.heap.size)) Try.func29 (Below.refl _ _) fun a I => ?_
  refine goQ [] (nonR w) I fun β a w1 I1 hb => ?_
  refine dwT (T := fun w' => HasRow w' g #[Z p]) 4 [kC Try.func28 hq, ldA 3 hld, bO .sub 3 (run_subZ (x := q) (y := p) (z := q - p) (by rw [wzf (by omega) (by omega)]))] (nonR w) hT PanOk.post I1 fun a2 w2 I2 => ?_
  refine goQ [] (nonR w) I2 fun β a w3 I3 hb => ?_
  exact outQ (v := Z (q - p)) I3 ⟨rfl, I3.hJ⟩
end Go.Proofs.Ytdbilbcpnhkbaaa
