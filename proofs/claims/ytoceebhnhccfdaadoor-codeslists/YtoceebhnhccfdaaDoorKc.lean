/- Numbers of operations: number, owned, Itoa of small numbers. -/
import Derived.Test.YtoceebhnhccfdaaDoorKb
namespace Go.Proofs.YtoceebhnhccfdaaDoor
open Go.RowKit Go.Sort
set_option linter.unusedVariables false
set_option maxRecDepth 100000
def numN (n : Nat) : Nat := if 96 ≤ n ∧ n < 128 then n - 95 else if 128 ≤ n ∧ n < 144 then n - 127 else if 144 ≤ n ∧ n < 160 then n - 143 else 0
def ownN (n : Nat) : Nat := if 128 ≤ n then 0 else numN n
theorem numN_lt (n : Nat) : numN n < 33 := by unfold numN; split <;> (try split) <;> (try split) <;> omega
theorem ownN_lt (n : Nat) : ownN n < 33 := by
  unfold ownN
  split
  · omega
  · exact numN_lt n
theorem number_any (n : Nat) (hn : n < 256) (w : World) : Calls Tryd.prog 26 #[b8 n] w fun e w' => e = .returned (Z (numN n : Nat)) ∧ Below w.heap.size w w' := by
  refine inQ (J := Below w.heap.size w) (F := (· < w.heap.size)) Tryd.func26 (Below.refl _ _) fun a I => ?_
  by_cases h1 : 96 ≤ n
  · by_cases h2 : n < 128
    · refine goQ [bO .leq 5 (run_leq8 (x := 96) (y := n) (b := true) (by simp; omega)), bO .lss 5 (run_lss8 (x := n) (y := 128) (b := true) (by simp; omega)), bO .sub 5 (run_sub8 (x := n) (y := 96) (z := (n - 96 : Nat)) (by rw [wrap8 (by omega) (by omega)]; omega)), vO 5 3 (cnv8Z (n - 96) (by omega)), bO .add 3 (run_addZ (x := (n - 96 : Nat)) (y := 1) (z := (n - 95 : Nat)) (by rw [wz (by omega) (by omega)]; omega))] (nonR w) I fun β a w1 I hb => ?_
      have : numN n = n - 95 := by unfold numN; rw [if_pos ⟨h1, h2⟩]
      rw [this]
      exact outQ (v := Z (n - 95 : Nat)) I ⟨rfl, I.hJ⟩
    · by_cases h3 : n < 144
      · refine goQ [bO .leq 5 (run_leq8 (x := 96) (y := n) (b := true) (by simp; omega)), bO .lss 5 (run_lss8 (x := n) (y := 128) (b := false) (by simp; omega)), bO .leq 5 (run_leq8 (x := 128) (y := n) (b := true) (by simp; omega)), bO .lss 5 (run_lss8 (x := n) (y := 144) (b := true) (by simp; omega)), bO .sub 5 (run_sub8 (x := n) (y := 128) (z := (n - 128 : Nat)) (by rw [wrap8 (by omega) (by omega)]; omega)), vO 5 3 (cnv8Z (n - 128) (by omega)), bO .add 3 (run_addZ (x := (n - 128 : Nat)) (y := 1) (z := (n - 127 : Nat)) (by rw [wz (by omega) (by omega)]; omega))] (nonR w) I fun β a w1 I hb => ?_
        have : numN n = n - 127 := by unfold numN; rw [if_neg (by omega), if_pos (by omega)]
        rw [this]
        exact outQ (v := Z (n - 127 : Nat)) I ⟨rfl, I.hJ⟩
      · by_cases h4 : n < 160
        · refine goQ [bO .leq 5 (run_leq8 (x := 96) (y := n) (b := true) (by simp; omega)), bO .lss 5 (run_lss8 (x := n) (y := 128) (b := false) (by simp; omega)), bO .leq 5 (run_leq8 (x := 128) (y := n) (b := true) (by simp; omega)), bO .lss 5 (run_lss8 (x := n) (y := 144) (b := false) (by simp; omega)), bO .leq 5 (run_leq8 (x := 144) (y := n) (b := true) (by simp; omega)), bO .lss 5 (run_lss8 (x := n) (y := 160) (b := true) (by simp; omega)), bO .sub 5 (run_sub8 (x := n) (y := 144) (z := (n - 144 : Nat)) (by rw [wrap8 (by omega) (by omega)]; omega)), vO 5 3 (cnv8Z (n - 144) (by omega)), bO .add 3 (run_addZ (x := (n - 144 : Nat)) (y := 1) (z := (n - 143 : Nat)) (by rw [wz (by omega) (by omega)]; omega))] (nonR w) I fun β a w1 I hb => ?_
          have : numN n = n - 143 := by unfold numN; rw [if_neg (by omega), if_neg (by omega), if_pos (by omega)]
          rw [this]
          exact outQ (v := Z (n - 143 : Nat)) I ⟨rfl, I.hJ⟩
        · refine goQ [bO .leq 5 (run_leq8 (x := 96) (y := n) (b := true) (by simp; omega)), bO .lss 5 (run_lss8 (x := n) (y := 128) (b := false) (by simp; omega)), bO .leq 5 (run_leq8 (x := 128) (y := n) (b := true) (by simp; omega)), bO .lss 5 (run_lss8 (x := n) (y := 144) (b := false) (by simp; omega)), bO .leq 5 (run_leq8 (x := 144) (y := n) (b := true) (by simp; omega)), bO .lss 5 (run_lss8 (x := n) (y := 160) (b := false) (by simp; omega))] (nonR w) I fun β a w1 I hb => ?_
          have : numN n = 0 := by unfold numN; rw [if_neg (by omega), if_neg (by omega), if_neg (by omega)]
          rw [this]
          exact outQ (v := Z 0) I ⟨rfl, I.hJ⟩
  · refine goQ [bO .leq 5 (run_leq8 (x := 96) (y := n) (b := false) (by simp; omega)), bO .leq 5 (run_leq8 (x := 128) (y := n) (b := false) (by simp; omega)), bO .leq 5 (run_leq8 (x := 144) (y := n) (b := false) (by simp; omega))] (nonR w) I fun β a w1 I hb => ?_
    have : numN n = 0 := by unfold numN; rw [if_neg (by omega), if_neg (by omega), if_neg (by omega)]
    rw [this]
    exact outQ (v := Z 0) I ⟨rfl, I.hJ⟩
theorem owned_any (n : Nat) (hn : n < 256) (w : World) : Calls Tryd.prog 42 #[b8 n] w fun e w' => e = .returned (Z (ownN n : Nat)) ∧ Below w.heap.size w w' := by
  refine inQ (J := Below w.heap.size w) (F := (· < w.heap.size)) Tryd.func42 (Below.refl _ _) fun a I => ?_
  by_cases h1 : 128 ≤ n
  · refine goQ [bO .geq 5 (run_geq8 (x := n) (y := 128) (b := true) (by simp; omega))] (nonR w) I fun β a w1 I hb => ?_
    have : ownN n = 0 := by unfold ownN; rw [if_pos h1]
    rw [this]
    exact outQ (v := Z 0) I ⟨rfl, I.hJ⟩
  · refine goQ [bO .geq 5 (run_geq8 (x := n) (y := 128) (b := false) (by simp; omega)), kC Tryd.func26 (number_any n hn)] (nonR w) I fun β a w1 I hb => ?_
    have : ownN n = numN n := by unfold ownN; rw [if_neg h1]
    rw [this]
    exact outQ (v := Z (numN n : Nat)) I ⟨rfl, I.hJ⟩
/-- A small number's digits. -/
def decL (n : Nat) : List UInt8 := if n < 10 then [UInt8.ofNat (48 + n)] else [UInt8.ofNat (48 + n / 10), UInt8.ofNat (48 + n % 10)]
def dgs36 : List UInt8 := [48, 49, 50, 51, 52, 53, 54, 55, 56, 57, 97, 98, 99, 100, 101, 102, 103, 104, 105, 106, 107, 108, 109, 110, 111, 112, 113, 114, 115, 116, 117, 118, 119, 120, 121, 122]
def smalls : List UInt8 := (List.range 100).flatMap fun n => [UInt8.ofNat (48 + n / 10), UInt8.ofNat (48 + n % 10)]
theorem dg_cut : ∀ n, n < 10 → (dgs36.take (n + 1)).drop n = decL n := by decide
theorem sm_cut : ∀ n, n < 100 → 10 ≤ n → (smalls.take (2 * n + 2)).drop (2 * n) = decL n := by decide
theorem sm_len : smalls.length = 200 := by decide
theorem small_any (n : Nat) (hn : n < 100) (w : World) : Calls Tryd.prog 51 #[Z n] w fun e w' => e = .returned (str (decL n)) ∧ Below w.heap.size w w' := by
  refine inQ (J := Below w.heap.size w) (F := (· < w.heap.size)) Tryd.func51 (Below.refl _ _) fun a I => ?_
  by_cases h : n < 10
  · have hs : ∀ w, (Instr.sliceAt 9 (str dgs36) (some (Z n)) (some (Z (n + 1 : Nat))) none).run Tryd.prog w = .ok (str (decL n)) w := fun w => by rw [← dg_cut n h]; exact both_run (by omega) (by show n + 1 ≤ 36; omega) w
    refine goQ [bO .lss 3 (run_lssZ (x := n) (y := 10) (b := true) (by simp; omega)), bO .add 3 (run_addZ (x := n) (y := 1) (z := (n + 1 : Nat)) (by rw [wz (by omega) (by omega)]; omega)), sLH 9 hs] (nonR w) I fun β a w1 I hb => ?_
    exact outQ (v := str (decL n)) I ⟨rfl, I.hJ⟩
  · have hs : ∀ w, (Instr.sliceAt 9 (str smalls) (some (Z (2 * n : Nat))) (some (Z (2 * n + 2 : Nat))) none).run Tryd.prog w = .ok (str (decL n)) w := fun w => by rw [← sm_cut n hn (by omega)]; exact both_run (by omega) (by rw [sm_len]; omega) w
    refine goQ [bO .lss 3 (run_lssZ (x := n) (y := 10) (b := false) (by simp; omega)), bO .mul 3 (run_mulZ (x := n) (y := 2) (z := (2 * n : Nat)) (by rw [wz (by omega) (by omega)]; omega)), bO .mul 3 (run_mulZ (x := n) (y := 2) (z := (2 * n : Nat)) (by rw [wz (by omega) (by omega)]; omega)), bO .add 3 (run_addZ (x := (2 * n : Nat)) (y := 2) (z := (2 * n + 2 : Nat)) (by rw [wz (by omega) (by omega)]; omega)), sLH 9 hs] (nonR w) I fun β a w1 I hb => ?_
    exact outQ (v := str (decL n)) I ⟨rfl, I.hJ⟩
theorem run_leq2 {x y : Int} {b : Bool} (h : decide (x ≤ y) = b) (o1 o2 : Operand) (w : World) : (do eqGuard .leq 2 o1 o2 (Z x) (Z y); binOp .leq 2 (Z x) (Z y) : Sem Value).run Tryd.prog w = .ok (.bool b) w := by simp [go_sem, h]
theorem run_lss2 {x y : Int} {b : Bool} (h : decide (x < y) = b) (o1 o2 : Operand) (w : World) : (do eqGuard .lss 2 o1 o2 (Z x) (Z y); binOp .lss 2 (Z x) (Z y) : Sem Value).run Tryd.prog w = .ok (.bool b) w := by simp [go_sem, h]
theorem fmt_any (n : Nat) (hn : n < 100) (w : World) : Calls Tryd.prog 48 #[Z n, Z 10] w fun e w' => e = .returned (str (decL n)) ∧ Below w.heap.size w w' := by
  refine inQ (J := Below w.heap.size w) (F := (· < w.heap.size)) Tryd.func48 (Below.refl _ _) fun a I => ?_
  refine goQ [bO .eql 3 (run_eqlZ (x := 10) (y := 10) (b := true) (by simp)), bO .leq 2 (run_leq2 (x := 0) (y := n) (b := true) (by simp)), bO .lss 2 (run_lss2 (x := n) (y := 100) (b := true) (by simp; omega)), kC Tryd.func51 (small_any n hn)] (nonR w) I fun β a w1 I hb => ?_
  exact outQ (v := str (decL n)) I ⟨rfl, I.hJ⟩
theorem itoa2_any (n : Nat) (hn : n < 100) (w : World) : Calls Tryd.prog 38 #[Z n] w fun e w' => e = .returned (str (decL n)) ∧ Below w.heap.size w w' := by
  refine inQ (J := Below w.heap.size w) (F := (· < w.heap.size)) Tryd.func38 (Below.refl _ _) fun a I => ?_
  refine goQ [kC Tryd.func48 (fmt_any n hn)] (nonR w) I fun β a w1 I hb => ?_
  exact outQ (v := str (decL n)) I ⟨rfl, I.hJ⟩
theorem itoa_any (n : Nat) (hn : n < 100) (w : World) : Calls Tryd.prog 27 #[Z n] w fun e w' => e = .returned (str (decL n)) ∧ Below w.heap.size w w' := by
  refine inQ (J := Below w.heap.size w) (F := (· < w.heap.size)) Tryd.func27 (Below.refl _ _) fun a I => ?_
  refine goQ [kC Tryd.func38 (itoa2_any n hn)] (nonR w) I fun β a w1 I hb => ?_
  exact outQ (v := str (decL n)) I ⟨rfl, I.hJ⟩
end Go.Proofs.YtoceebhnhccfdaaDoor
