/- Out of Vh. -/
import Derived.Test.YtceedgdbhlpjlaaGreatDoorKfVg
namespace Go.Proofs.YtceedgdbhlpjlaaGreatDoor
open Go.RowKit Go.Sort
set_option linter.unusedVariables false
set_option maxRecDepth 100000
set_option maxHeartbeats 4000000
def mF (n : Nat) : Nat := if n < 12 then 92 + n else if n < 30 then 104 + (n - 16) else if n = 32 then 118 else if n < 58 then 119 + (n - 53) else if n < 84 then 124 + (n - 80) else if n < 92 then 128 + (n - 86) else if n < 128 then 61 else if n < 144 then 62 else if n < 160 then 63 else if n = 243 then 64 else 65
def qF (i j : Nat) : Fa Tryz.prog (fun _ => True) := bO .eql 5 (run_eql8 (x := i) (y := j) (b := decide ((i : Int) = j)) rfl)
def lF (i j : Nat) : Fa Tryz.prog (fun _ => True) := bO .leq 5 (run_leq8 (x := i) (y := j) (b := decide ((i : Int) ≤ j)) rfl)
def nF (n j : Nat) (h : n ≠ j) : Fa Tryz.prog (fun _ => True) := bO .eql 5 (run_eql8 (x := n) (y := j) (b := false) (decide_eq_false (by omega)))
def gF (n j : Nat) (h : j < n) : Fa Tryz.prog (fun _ => True) := bO .leq 5 (run_leq8 (x := n) (y := j) (b := false) (decide_eq_false (by omega)))
def eF (n j : Nat) (h : n ≤ j) : Fa Tryz.prog (fun _ => True) := bO .leq 5 (run_leq8 (x := n) (y := j) (b := true) (decide_eq_true (by omega)))
theorem tab_0 (w : World) : Calls Tryz.prog 57 #[b8 0] w fun e w' => e = .returned (fnV 92) ∧ Below w.heap.size w w' := by
  refine inQ (J := Below w.heap.size w) (F := (· < w.heap.size)) Tryz.func57 (Below.refl _ _) fun a I => ?_
  refine goQ [qF 0 0] (nonR w) I fun β a w1 I1 hb => ?_
  refine mkfX (fn := .func 92) (ss := []) I1 ?_
  refine goQ [] (nonR w) (I1.same (fnV 92)) fun β2 a2 w2 I2 hb2 => ?_
  exact outQ (v := fnV 92) I2 ⟨rfl, I2.hJ⟩
theorem ope_0 (w : World) : Calls Tryz.prog 35 #[b8 0] w fun e w' => e = .returned (fnV 92) ∧ Below w.heap.size w w' := by
  refine inQ (J := Below w.heap.size w) (F := (· < w.heap.size)) Tryz.func35 (Below.refl _ _) fun a I => ?_
  refine goQ [lF 0 11, kC Tryz.func57 tab_0] (nonR w) I fun β a w1 I1 hb => ?_
  exact outQ (v := fnV 92) I1 ⟨rfl, I1.hJ⟩
theorem tab_1 (w : World) : Calls Tryz.prog 57 #[b8 1] w fun e w' => e = .returned (fnV 93) ∧ Below w.heap.size w w' := by
  refine inQ (J := Below w.heap.size w) (F := (· < w.heap.size)) Tryz.func57 (Below.refl _ _) fun a I => ?_
  refine goQ [qF 1 0, qF 1 1] (nonR w) I fun β a w1 I1 hb => ?_
  refine mkfX (fn := .func 93) (ss := []) I1 ?_
  refine goQ [] (nonR w) (I1.same (fnV 93)) fun β2 a2 w2 I2 hb2 => ?_
  exact outQ (v := fnV 93) I2 ⟨rfl, I2.hJ⟩
theorem ope_1 (w : World) : Calls Tryz.prog 35 #[b8 1] w fun e w' => e = .returned (fnV 93) ∧ Below w.heap.size w w' := by
  refine inQ (J := Below w.heap.size w) (F := (· < w.heap.size)) Tryz.func35 (Below.refl _ _) fun a I => ?_
  refine goQ [lF 1 11, kC Tryz.func57 tab_1] (nonR w) I fun β a w1 I1 hb => ?_
  exact outQ (v := fnV 93) I1 ⟨rfl, I1.hJ⟩
theorem tab_2 (w : World) : Calls Tryz.prog 57 #[b8 2] w fun e w' => e = .returned (fnV 94) ∧ Below w.heap.size w w' := by
  refine inQ (J := Below w.heap.size w) (F := (· < w.heap.size)) Tryz.func57 (Below.refl _ _) fun a I => ?_
  refine goQ [qF 2 0, qF 2 1, qF 2 2] (nonR w) I fun β a w1 I1 hb => ?_
  refine mkfX (fn := .func 94) (ss := []) I1 ?_
  refine goQ [] (nonR w) (I1.same (fnV 94)) fun β2 a2 w2 I2 hb2 => ?_
  exact outQ (v := fnV 94) I2 ⟨rfl, I2.hJ⟩
theorem ope_2 (w : World) : Calls Tryz.prog 35 #[b8 2] w fun e w' => e = .returned (fnV 94) ∧ Below w.heap.size w w' := by
  refine inQ (J := Below w.heap.size w) (F := (· < w.heap.size)) Tryz.func35 (Below.refl _ _) fun a I => ?_
  refine goQ [lF 2 11, kC Tryz.func57 tab_2] (nonR w) I fun β a w1 I1 hb => ?_
  exact outQ (v := fnV 94) I1 ⟨rfl, I1.hJ⟩
theorem tab_3 (w : World) : Calls Tryz.prog 57 #[b8 3] w fun e w' => e = .returned (fnV 95) ∧ Below w.heap.size w w' := by
  refine inQ (J := Below w.heap.size w) (F := (· < w.heap.size)) Tryz.func57 (Below.refl _ _) fun a I => ?_
  refine goQ [qF 3 0, qF 3 1, qF 3 2, qF 3 3] (nonR w) I fun β a w1 I1 hb => ?_
  refine mkfX (fn := .func 95) (ss := []) I1 ?_
  refine goQ [] (nonR w) (I1.same (fnV 95)) fun β2 a2 w2 I2 hb2 => ?_
  exact outQ (v := fnV 95) I2 ⟨rfl, I2.hJ⟩
theorem ope_3 (w : World) : Calls Tryz.prog 35 #[b8 3] w fun e w' => e = .returned (fnV 95) ∧ Below w.heap.size w w' := by
  refine inQ (J := Below w.heap.size w) (F := (· < w.heap.size)) Tryz.func35 (Below.refl _ _) fun a I => ?_
  refine goQ [lF 3 11, kC Tryz.func57 tab_3] (nonR w) I fun β a w1 I1 hb => ?_
  exact outQ (v := fnV 95) I1 ⟨rfl, I1.hJ⟩
theorem tab_4 (w : World) : Calls Tryz.prog 57 #[b8 4] w fun e w' => e = .returned (fnV 96) ∧ Below w.heap.size w w' := by
  refine inQ (J := Below w.heap.size w) (F := (· < w.heap.size)) Tryz.func57 (Below.refl _ _) fun a I => ?_
  refine goQ [qF 4 0, qF 4 1, qF 4 2, qF 4 3, qF 4 4] (nonR w) I fun β a w1 I1 hb => ?_
  refine mkfX (fn := .func 96) (ss := []) I1 ?_
  refine goQ [] (nonR w) (I1.same (fnV 96)) fun β2 a2 w2 I2 hb2 => ?_
  exact outQ (v := fnV 96) I2 ⟨rfl, I2.hJ⟩
theorem ope_4 (w : World) : Calls Tryz.prog 35 #[b8 4] w fun e w' => e = .returned (fnV 96) ∧ Below w.heap.size w w' := by
  refine inQ (J := Below w.heap.size w) (F := (· < w.heap.size)) Tryz.func35 (Below.refl _ _) fun a I => ?_
  refine goQ [lF 4 11, kC Tryz.func57 tab_4] (nonR w) I fun β a w1 I1 hb => ?_
  exact outQ (v := fnV 96) I1 ⟨rfl, I1.hJ⟩
theorem tab_5 (w : World) : Calls Tryz.prog 57 #[b8 5] w fun e w' => e = .returned (fnV 97) ∧ Below w.heap.size w w' := by
  refine inQ (J := Below w.heap.size w) (F := (· < w.heap.size)) Tryz.func57 (Below.refl _ _) fun a I => ?_
  refine goQ [qF 5 0, qF 5 1, qF 5 2, qF 5 3, qF 5 4, qF 5 5] (nonR w) I fun β a w1 I1 hb => ?_
  refine mkfX (fn := .func 97) (ss := []) I1 ?_
  refine goQ [] (nonR w) (I1.same (fnV 97)) fun β2 a2 w2 I2 hb2 => ?_
  exact outQ (v := fnV 97) I2 ⟨rfl, I2.hJ⟩
theorem ope_5 (w : World) : Calls Tryz.prog 35 #[b8 5] w fun e w' => e = .returned (fnV 97) ∧ Below w.heap.size w w' := by
  refine inQ (J := Below w.heap.size w) (F := (· < w.heap.size)) Tryz.func35 (Below.refl _ _) fun a I => ?_
  refine goQ [lF 5 11, kC Tryz.func57 tab_5] (nonR w) I fun β a w1 I1 hb => ?_
  exact outQ (v := fnV 97) I1 ⟨rfl, I1.hJ⟩
theorem tab_6 (w : World) : Calls Tryz.prog 57 #[b8 6] w fun e w' => e = .returned (fnV 98) ∧ Below w.heap.size w w' := by
  refine inQ (J := Below w.heap.size w) (F := (· < w.heap.size)) Tryz.func57 (Below.refl _ _) fun a I => ?_
  refine goQ [qF 6 0, qF 6 1, qF 6 2, qF 6 3, qF 6 4, qF 6 5, qF 6 6] (nonR w) I fun β a w1 I1 hb => ?_
  refine mkfX (fn := .func 98) (ss := []) I1 ?_
  refine goQ [] (nonR w) (I1.same (fnV 98)) fun β2 a2 w2 I2 hb2 => ?_
  exact outQ (v := fnV 98) I2 ⟨rfl, I2.hJ⟩
theorem ope_6 (w : World) : Calls Tryz.prog 35 #[b8 6] w fun e w' => e = .returned (fnV 98) ∧ Below w.heap.size w w' := by
  refine inQ (J := Below w.heap.size w) (F := (· < w.heap.size)) Tryz.func35 (Below.refl _ _) fun a I => ?_
  refine goQ [lF 6 11, kC Tryz.func57 tab_6] (nonR w) I fun β a w1 I1 hb => ?_
  exact outQ (v := fnV 98) I1 ⟨rfl, I1.hJ⟩
theorem tab_7 (w : World) : Calls Tryz.prog 57 #[b8 7] w fun e w' => e = .returned (fnV 99) ∧ Below w.heap.size w w' := by
  refine inQ (J := Below w.heap.size w) (F := (· < w.heap.size)) Tryz.func57 (Below.refl _ _) fun a I => ?_
  refine goQ [qF 7 0, qF 7 1, qF 7 2, qF 7 3, qF 7 4, qF 7 5, qF 7 6, qF 7 7] (nonR w) I fun β a w1 I1 hb => ?_
  refine mkfX (fn := .func 99) (ss := []) I1 ?_
  refine goQ [] (nonR w) (I1.same (fnV 99)) fun β2 a2 w2 I2 hb2 => ?_
  exact outQ (v := fnV 99) I2 ⟨rfl, I2.hJ⟩
theorem ope_7 (w : World) : Calls Tryz.prog 35 #[b8 7] w fun e w' => e = .returned (fnV 99) ∧ Below w.heap.size w w' := by
  refine inQ (J := Below w.heap.size w) (F := (· < w.heap.size)) Tryz.func35 (Below.refl _ _) fun a I => ?_
  refine goQ [lF 7 11, kC Tryz.func57 tab_7] (nonR w) I fun β a w1 I1 hb => ?_
  exact outQ (v := fnV 99) I1 ⟨rfl, I1.hJ⟩
theorem tab_8 (w : World) : Calls Tryz.prog 57 #[b8 8] w fun e w' => e = .returned (fnV 100) ∧ Below w.heap.size w w' := by
  refine inQ (J := Below w.heap.size w) (F := (· < w.heap.size)) Tryz.func57 (Below.refl _ _) fun a I => ?_
  refine goQ [qF 8 0, qF 8 1, qF 8 2, qF 8 3, qF 8 4, qF 8 5, qF 8 6, qF 8 7, qF 8 8] (nonR w) I fun β a w1 I1 hb => ?_
  refine mkfX (fn := .func 100) (ss := []) I1 ?_
  refine goQ [] (nonR w) (I1.same (fnV 100)) fun β2 a2 w2 I2 hb2 => ?_
  exact outQ (v := fnV 100) I2 ⟨rfl, I2.hJ⟩
theorem ope_8 (w : World) : Calls Tryz.prog 35 #[b8 8] w fun e w' => e = .returned (fnV 100) ∧ Below w.heap.size w w' := by
  refine inQ (J := Below w.heap.size w) (F := (· < w.heap.size)) Tryz.func35 (Below.refl _ _) fun a I => ?_
  refine goQ [lF 8 11, kC Tryz.func57 tab_8] (nonR w) I fun β a w1 I1 hb => ?_
  exact outQ (v := fnV 100) I1 ⟨rfl, I1.hJ⟩
theorem tab_9 (w : World) : Calls Tryz.prog 57 #[b8 9] w fun e w' => e = .returned (fnV 101) ∧ Below w.heap.size w w' := by
  refine inQ (J := Below w.heap.size w) (F := (· < w.heap.size)) Tryz.func57 (Below.refl _ _) fun a I => ?_
  refine goQ [qF 9 0, qF 9 1, qF 9 2, qF 9 3, qF 9 4, qF 9 5, qF 9 6, qF 9 7, qF 9 8, qF 9 9] (nonR w) I fun β a w1 I1 hb => ?_
  refine mkfX (fn := .func 101) (ss := []) I1 ?_
  refine goQ [] (nonR w) (I1.same (fnV 101)) fun β2 a2 w2 I2 hb2 => ?_
  exact outQ (v := fnV 101) I2 ⟨rfl, I2.hJ⟩
theorem ope_9 (w : World) : Calls Tryz.prog 35 #[b8 9] w fun e w' => e = .returned (fnV 101) ∧ Below w.heap.size w w' := by
  refine inQ (J := Below w.heap.size w) (F := (· < w.heap.size)) Tryz.func35 (Below.refl _ _) fun a I => ?_
  refine goQ [lF 9 11, kC Tryz.func57 tab_9] (nonR w) I fun β a w1 I1 hb => ?_
  exact outQ (v := fnV 101) I1 ⟨rfl, I1.hJ⟩
theorem tab_10 (w : World) : Calls Tryz.prog 57 #[b8 10] w fun e w' => e = .returned (fnV 102) ∧ Below w.heap.size w w' := by
  refine inQ (J := Below w.heap.size w) (F := (· < w.heap.size)) Tryz.func57 (Below.refl _ _) fun a I => ?_
  refine goQ [qF 10 0, qF 10 1, qF 10 2, qF 10 3, qF 10 4, qF 10 5, qF 10 6, qF 10 7, qF 10 8, qF 10 9, qF 10 10] (nonR w) I fun β a w1 I1 hb => ?_
  refine mkfX (fn := .func 102) (ss := []) I1 ?_
  refine goQ [] (nonR w) (I1.same (fnV 102)) fun β2 a2 w2 I2 hb2 => ?_
  exact outQ (v := fnV 102) I2 ⟨rfl, I2.hJ⟩
theorem ope_10 (w : World) : Calls Tryz.prog 35 #[b8 10] w fun e w' => e = .returned (fnV 102) ∧ Below w.heap.size w w' := by
  refine inQ (J := Below w.heap.size w) (F := (· < w.heap.size)) Tryz.func35 (Below.refl _ _) fun a I => ?_
  refine goQ [lF 10 11, kC Tryz.func57 tab_10] (nonR w) I fun β a w1 I1 hb => ?_
  exact outQ (v := fnV 102) I1 ⟨rfl, I1.hJ⟩
theorem tab_11 (w : World) : Calls Tryz.prog 57 #[b8 11] w fun e w' => e = .returned (fnV 103) ∧ Below w.heap.size w w' := by
  refine inQ (J := Below w.heap.size w) (F := (· < w.heap.size)) Tryz.func57 (Below.refl _ _) fun a I => ?_
  refine goQ [qF 11 0, qF 11 1, qF 11 2, qF 11 3, qF 11 4, qF 11 5, qF 11 6, qF 11 7, qF 11 8, qF 11 9, qF 11 10, qF 11 11] (nonR w) I fun β a w1 I1 hb => ?_
  refine mkfX (fn := .func 103) (ss := []) I1 ?_
  refine goQ [] (nonR w) (I1.same (fnV 103)) fun β2 a2 w2 I2 hb2 => ?_
  exact outQ (v := fnV 103) I2 ⟨rfl, I2.hJ⟩
theorem ope_11 (w : World) : Calls Tryz.prog 35 #[b8 11] w fun e w' => e = .returned (fnV 103) ∧ Below w.heap.size w w' := by
  refine inQ (J := Below w.heap.size w) (F := (· < w.heap.size)) Tryz.func35 (Below.refl _ _) fun a I => ?_
  refine goQ [lF 11 11, kC Tryz.func57 tab_11] (nonR w) I fun β a w1 I1 hb => ?_
  exact outQ (v := fnV 103) I1 ⟨rfl, I1.hJ⟩
theorem tab_16 (w : World) : Calls Tryz.prog 58 #[b8 16] w fun e w' => e = .returned (fnV 104) ∧ Below w.heap.size w w' := by
  refine inQ (J := Below w.heap.size w) (F := (· < w.heap.size)) Tryz.func58 (Below.refl _ _) fun a I => ?_
  refine goQ [qF 16 16] (nonR w) I fun β a w1 I1 hb => ?_
  refine mkfX (fn := .func 104) (ss := []) I1 ?_
  refine goQ [] (nonR w) (I1.same (fnV 104)) fun β2 a2 w2 I2 hb2 => ?_
  exact outQ (v := fnV 104) I2 ⟨rfl, I2.hJ⟩
theorem ope_16 (w : World) : Calls Tryz.prog 35 #[b8 16] w fun e w' => e = .returned (fnV 104) ∧ Below w.heap.size w w' := by
  refine inQ (J := Below w.heap.size w) (F := (· < w.heap.size)) Tryz.func35 (Below.refl _ _) fun a I => ?_
  refine goQ [lF 16 11, lF 16 29, kC Tryz.func58 tab_16] (nonR w) I fun β a w1 I1 hb => ?_
  exact outQ (v := fnV 104) I1 ⟨rfl, I1.hJ⟩
theorem tab_17 (w : World) : Calls Tryz.prog 58 #[b8 17] w fun e w' => e = .returned (fnV 105) ∧ Below w.heap.size w w' := by
  refine inQ (J := Below w.heap.size w) (F := (· < w.heap.size)) Tryz.func58 (Below.refl _ _) fun a I => ?_
  refine goQ [qF 17 16, qF 17 17] (nonR w) I fun β a w1 I1 hb => ?_
  refine mkfX (fn := .func 105) (ss := []) I1 ?_
  refine goQ [] (nonR w) (I1.same (fnV 105)) fun β2 a2 w2 I2 hb2 => ?_
  exact outQ (v := fnV 105) I2 ⟨rfl, I2.hJ⟩
theorem ope_17 (w : World) : Calls Tryz.prog 35 #[b8 17] w fun e w' => e = .returned (fnV 105) ∧ Below w.heap.size w w' := by
  refine inQ (J := Below w.heap.size w) (F := (· < w.heap.size)) Tryz.func35 (Below.refl _ _) fun a I => ?_
  refine goQ [lF 17 11, lF 17 29, kC Tryz.func58 tab_17] (nonR w) I fun β a w1 I1 hb => ?_
  exact outQ (v := fnV 105) I1 ⟨rfl, I1.hJ⟩
theorem tab_18 (w : World) : Calls Tryz.prog 58 #[b8 18] w fun e w' => e = .returned (fnV 106) ∧ Below w.heap.size w w' := by
  refine inQ (J := Below w.heap.size w) (F := (· < w.heap.size)) Tryz.func58 (Below.refl _ _) fun a I => ?_
  refine goQ [qF 18 16, qF 18 17, qF 18 18] (nonR w) I fun β a w1 I1 hb => ?_
  refine mkfX (fn := .func 106) (ss := []) I1 ?_
  refine goQ [] (nonR w) (I1.same (fnV 106)) fun β2 a2 w2 I2 hb2 => ?_
  exact outQ (v := fnV 106) I2 ⟨rfl, I2.hJ⟩
theorem ope_18 (w : World) : Calls Tryz.prog 35 #[b8 18] w fun e w' => e = .returned (fnV 106) ∧ Below w.heap.size w w' := by
  refine inQ (J := Below w.heap.size w) (F := (· < w.heap.size)) Tryz.func35 (Below.refl _ _) fun a I => ?_
  refine goQ [lF 18 11, lF 18 29, kC Tryz.func58 tab_18] (nonR w) I fun β a w1 I1 hb => ?_
  exact outQ (v := fnV 106) I1 ⟨rfl, I1.hJ⟩
theorem tab_19 (w : World) : Calls Tryz.prog 58 #[b8 19] w fun e w' => e = .returned (fnV 107) ∧ Below w.heap.size w w' := by
  refine inQ (J := Below w.heap.size w) (F := (· < w.heap.size)) Tryz.func58 (Below.refl _ _) fun a I => ?_
  refine goQ [qF 19 16, qF 19 17, qF 19 18, qF 19 19] (nonR w) I fun β a w1 I1 hb => ?_
  refine mkfX (fn := .func 107) (ss := []) I1 ?_
  refine goQ [] (nonR w) (I1.same (fnV 107)) fun β2 a2 w2 I2 hb2 => ?_
  exact outQ (v := fnV 107) I2 ⟨rfl, I2.hJ⟩
theorem ope_19 (w : World) : Calls Tryz.prog 35 #[b8 19] w fun e w' => e = .returned (fnV 107) ∧ Below w.heap.size w w' := by
  refine inQ (J := Below w.heap.size w) (F := (· < w.heap.size)) Tryz.func35 (Below.refl _ _) fun a I => ?_
  refine goQ [lF 19 11, lF 19 29, kC Tryz.func58 tab_19] (nonR w) I fun β a w1 I1 hb => ?_
  exact outQ (v := fnV 107) I1 ⟨rfl, I1.hJ⟩
theorem tab_20 (w : World) : Calls Tryz.prog 58 #[b8 20] w fun e w' => e = .returned (fnV 108) ∧ Below w.heap.size w w' := by
  refine inQ (J := Below w.heap.size w) (F := (· < w.heap.size)) Tryz.func58 (Below.refl _ _) fun a I => ?_
  refine goQ [qF 20 16, qF 20 17, qF 20 18, qF 20 19, qF 20 20] (nonR w) I fun β a w1 I1 hb => ?_
  refine mkfX (fn := .func 108) (ss := []) I1 ?_
  refine goQ [] (nonR w) (I1.same (fnV 108)) fun β2 a2 w2 I2 hb2 => ?_
  exact outQ (v := fnV 108) I2 ⟨rfl, I2.hJ⟩
theorem ope_20 (w : World) : Calls Tryz.prog 35 #[b8 20] w fun e w' => e = .returned (fnV 108) ∧ Below w.heap.size w w' := by
  refine inQ (J := Below w.heap.size w) (F := (· < w.heap.size)) Tryz.func35 (Below.refl _ _) fun a I => ?_
  refine goQ [lF 20 11, lF 20 29, kC Tryz.func58 tab_20] (nonR w) I fun β a w1 I1 hb => ?_
  exact outQ (v := fnV 108) I1 ⟨rfl, I1.hJ⟩
theorem tab_21 (w : World) : Calls Tryz.prog 58 #[b8 21] w fun e w' => e = .returned (fnV 109) ∧ Below w.heap.size w w' := by
  refine inQ (J := Below w.heap.size w) (F := (· < w.heap.size)) Tryz.func58 (Below.refl _ _) fun a I => ?_
  refine goQ [qF 21 16, qF 21 17, qF 21 18, qF 21 19, qF 21 20, qF 21 21] (nonR w) I fun β a w1 I1 hb => ?_
  refine mkfX (fn := .func 109) (ss := []) I1 ?_
  refine goQ [] (nonR w) (I1.same (fnV 109)) fun β2 a2 w2 I2 hb2 => ?_
  exact outQ (v := fnV 109) I2 ⟨rfl, I2.hJ⟩
theorem ope_21 (w : World) : Calls Tryz.prog 35 #[b8 21] w fun e w' => e = .returned (fnV 109) ∧ Below w.heap.size w w' := by
  refine inQ (J := Below w.heap.size w) (F := (· < w.heap.size)) Tryz.func35 (Below.refl _ _) fun a I => ?_
  refine goQ [lF 21 11, lF 21 29, kC Tryz.func58 tab_21] (nonR w) I fun β a w1 I1 hb => ?_
  exact outQ (v := fnV 109) I1 ⟨rfl, I1.hJ⟩
theorem tab_22 (w : World) : Calls Tryz.prog 58 #[b8 22] w fun e w' => e = .returned (fnV 110) ∧ Below w.heap.size w w' := by
  refine inQ (J := Below w.heap.size w) (F := (· < w.heap.size)) Tryz.func58 (Below.refl _ _) fun a I => ?_
  refine goQ [qF 22 16, qF 22 17, qF 22 18, qF 22 19, qF 22 20, qF 22 21, qF 22 22] (nonR w) I fun β a w1 I1 hb => ?_
  refine mkfX (fn := .func 110) (ss := []) I1 ?_
  refine goQ [] (nonR w) (I1.same (fnV 110)) fun β2 a2 w2 I2 hb2 => ?_
  exact outQ (v := fnV 110) I2 ⟨rfl, I2.hJ⟩
theorem ope_22 (w : World) : Calls Tryz.prog 35 #[b8 22] w fun e w' => e = .returned (fnV 110) ∧ Below w.heap.size w w' := by
  refine inQ (J := Below w.heap.size w) (F := (· < w.heap.size)) Tryz.func35 (Below.refl _ _) fun a I => ?_
  refine goQ [lF 22 11, lF 22 29, kC Tryz.func58 tab_22] (nonR w) I fun β a w1 I1 hb => ?_
  exact outQ (v := fnV 110) I1 ⟨rfl, I1.hJ⟩
theorem tab_23 (w : World) : Calls Tryz.prog 58 #[b8 23] w fun e w' => e = .returned (fnV 111) ∧ Below w.heap.size w w' := by
  refine inQ (J := Below w.heap.size w) (F := (· < w.heap.size)) Tryz.func58 (Below.refl _ _) fun a I => ?_
  refine goQ [qF 23 16, qF 23 17, qF 23 18, qF 23 19, qF 23 20, qF 23 21, qF 23 22, qF 23 23] (nonR w) I fun β a w1 I1 hb => ?_
  refine mkfX (fn := .func 111) (ss := []) I1 ?_
  refine goQ [] (nonR w) (I1.same (fnV 111)) fun β2 a2 w2 I2 hb2 => ?_
  exact outQ (v := fnV 111) I2 ⟨rfl, I2.hJ⟩
theorem ope_23 (w : World) : Calls Tryz.prog 35 #[b8 23] w fun e w' => e = .returned (fnV 111) ∧ Below w.heap.size w w' := by
  refine inQ (J := Below w.heap.size w) (F := (· < w.heap.size)) Tryz.func35 (Below.refl _ _) fun a I => ?_
  refine goQ [lF 23 11, lF 23 29, kC Tryz.func58 tab_23] (nonR w) I fun β a w1 I1 hb => ?_
  exact outQ (v := fnV 111) I1 ⟨rfl, I1.hJ⟩
theorem tab_24 (w : World) : Calls Tryz.prog 58 #[b8 24] w fun e w' => e = .returned (fnV 112) ∧ Below w.heap.size w w' := by
  refine inQ (J := Below w.heap.size w) (F := (· < w.heap.size)) Tryz.func58 (Below.refl _ _) fun a I => ?_
  refine goQ [qF 24 16, qF 24 17, qF 24 18, qF 24 19, qF 24 20, qF 24 21, qF 24 22, qF 24 23, qF 24 24] (nonR w) I fun β a w1 I1 hb => ?_
  refine mkfX (fn := .func 112) (ss := []) I1 ?_
  refine goQ [] (nonR w) (I1.same (fnV 112)) fun β2 a2 w2 I2 hb2 => ?_
  exact outQ (v := fnV 112) I2 ⟨rfl, I2.hJ⟩
theorem ope_24 (w : World) : Calls Tryz.prog 35 #[b8 24] w fun e w' => e = .returned (fnV 112) ∧ Below w.heap.size w w' := by
  refine inQ (J := Below w.heap.size w) (F := (· < w.heap.size)) Tryz.func35 (Below.refl _ _) fun a I => ?_
  refine goQ [lF 24 11, lF 24 29, kC Tryz.func58 tab_24] (nonR w) I fun β a w1 I1 hb => ?_
  exact outQ (v := fnV 112) I1 ⟨rfl, I1.hJ⟩
theorem tab_25 (w : World) : Calls Tryz.prog 58 #[b8 25] w fun e w' => e = .returned (fnV 113) ∧ Below w.heap.size w w' := by
  refine inQ (J := Below w.heap.size w) (F := (· < w.heap.size)) Tryz.func58 (Below.refl _ _) fun a I => ?_
  refine goQ [qF 25 16, qF 25 17, qF 25 18, qF 25 19, qF 25 20, qF 25 21, qF 25 22, qF 25 23, qF 25 24, qF 25 25] (nonR w) I fun β a w1 I1 hb => ?_
  refine mkfX (fn := .func 113) (ss := []) I1 ?_
  refine goQ [] (nonR w) (I1.same (fnV 113)) fun β2 a2 w2 I2 hb2 => ?_
  exact outQ (v := fnV 113) I2 ⟨rfl, I2.hJ⟩
theorem ope_25 (w : World) : Calls Tryz.prog 35 #[b8 25] w fun e w' => e = .returned (fnV 113) ∧ Below w.heap.size w w' := by
  refine inQ (J := Below w.heap.size w) (F := (· < w.heap.size)) Tryz.func35 (Below.refl _ _) fun a I => ?_
  refine goQ [lF 25 11, lF 25 29, kC Tryz.func58 tab_25] (nonR w) I fun β a w1 I1 hb => ?_
  exact outQ (v := fnV 113) I1 ⟨rfl, I1.hJ⟩
theorem tab_26 (w : World) : Calls Tryz.prog 58 #[b8 26] w fun e w' => e = .returned (fnV 114) ∧ Below w.heap.size w w' := by
  refine inQ (J := Below w.heap.size w) (F := (· < w.heap.size)) Tryz.func58 (Below.refl _ _) fun a I => ?_
  refine goQ [qF 26 16, qF 26 17, qF 26 18, qF 26 19, qF 26 20, qF 26 21, qF 26 22, qF 26 23, qF 26 24, qF 26 25, qF 26 26] (nonR w) I fun β a w1 I1 hb => ?_
  refine mkfX (fn := .func 114) (ss := []) I1 ?_
  refine goQ [] (nonR w) (I1.same (fnV 114)) fun β2 a2 w2 I2 hb2 => ?_
  exact outQ (v := fnV 114) I2 ⟨rfl, I2.hJ⟩
theorem ope_26 (w : World) : Calls Tryz.prog 35 #[b8 26] w fun e w' => e = .returned (fnV 114) ∧ Below w.heap.size w w' := by
  refine inQ (J := Below w.heap.size w) (F := (· < w.heap.size)) Tryz.func35 (Below.refl _ _) fun a I => ?_
  refine goQ [lF 26 11, lF 26 29, kC Tryz.func58 tab_26] (nonR w) I fun β a w1 I1 hb => ?_
  exact outQ (v := fnV 114) I1 ⟨rfl, I1.hJ⟩
theorem tab_27 (w : World) : Calls Tryz.prog 58 #[b8 27] w fun e w' => e = .returned (fnV 115) ∧ Below w.heap.size w w' := by
  refine inQ (J := Below w.heap.size w) (F := (· < w.heap.size)) Tryz.func58 (Below.refl _ _) fun a I => ?_
  refine goQ [qF 27 16, qF 27 17, qF 27 18, qF 27 19, qF 27 20, qF 27 21, qF 27 22, qF 27 23, qF 27 24, qF 27 25, qF 27 26, qF 27 27] (nonR w) I fun β a w1 I1 hb => ?_
  refine mkfX (fn := .func 115) (ss := []) I1 ?_
  refine goQ [] (nonR w) (I1.same (fnV 115)) fun β2 a2 w2 I2 hb2 => ?_
  exact outQ (v := fnV 115) I2 ⟨rfl, I2.hJ⟩
theorem ope_27 (w : World) : Calls Tryz.prog 35 #[b8 27] w fun e w' => e = .returned (fnV 115) ∧ Below w.heap.size w w' := by
  refine inQ (J := Below w.heap.size w) (F := (· < w.heap.size)) Tryz.func35 (Below.refl _ _) fun a I => ?_
  refine goQ [lF 27 11, lF 27 29, kC Tryz.func58 tab_27] (nonR w) I fun β a w1 I1 hb => ?_
  exact outQ (v := fnV 115) I1 ⟨rfl, I1.hJ⟩
theorem tab_28 (w : World) : Calls Tryz.prog 58 #[b8 28] w fun e w' => e = .returned (fnV 116) ∧ Below w.heap.size w w' := by
  refine inQ (J := Below w.heap.size w) (F := (· < w.heap.size)) Tryz.func58 (Below.refl _ _) fun a I => ?_
  refine goQ [qF 28 16, qF 28 17, qF 28 18, qF 28 19, qF 28 20, qF 28 21, qF 28 22, qF 28 23, qF 28 24, qF 28 25, qF 28 26, qF 28 27, qF 28 28] (nonR w) I fun β a w1 I1 hb => ?_
  refine mkfX (fn := .func 116) (ss := []) I1 ?_
  refine goQ [] (nonR w) (I1.same (fnV 116)) fun β2 a2 w2 I2 hb2 => ?_
  exact outQ (v := fnV 116) I2 ⟨rfl, I2.hJ⟩
theorem ope_28 (w : World) : Calls Tryz.prog 35 #[b8 28] w fun e w' => e = .returned (fnV 116) ∧ Below w.heap.size w w' := by
  refine inQ (J := Below w.heap.size w) (F := (· < w.heap.size)) Tryz.func35 (Below.refl _ _) fun a I => ?_
  refine goQ [lF 28 11, lF 28 29, kC Tryz.func58 tab_28] (nonR w) I fun β a w1 I1 hb => ?_
  exact outQ (v := fnV 116) I1 ⟨rfl, I1.hJ⟩
theorem tab_29 (w : World) : Calls Tryz.prog 58 #[b8 29] w fun e w' => e = .returned (fnV 117) ∧ Below w.heap.size w w' := by
  refine inQ (J := Below w.heap.size w) (F := (· < w.heap.size)) Tryz.func58 (Below.refl _ _) fun a I => ?_
  refine goQ [qF 29 16, qF 29 17, qF 29 18, qF 29 19, qF 29 20, qF 29 21, qF 29 22, qF 29 23, qF 29 24, qF 29 25, qF 29 26, qF 29 27, qF 29 28, qF 29 29] (nonR w) I fun β a w1 I1 hb => ?_
  refine mkfX (fn := .func 117) (ss := []) I1 ?_
  refine goQ [] (nonR w) (I1.same (fnV 117)) fun β2 a2 w2 I2 hb2 => ?_
  exact outQ (v := fnV 117) I2 ⟨rfl, I2.hJ⟩
theorem ope_29 (w : World) : Calls Tryz.prog 35 #[b8 29] w fun e w' => e = .returned (fnV 117) ∧ Below w.heap.size w w' := by
  refine inQ (J := Below w.heap.size w) (F := (· < w.heap.size)) Tryz.func35 (Below.refl _ _) fun a I => ?_
  refine goQ [lF 29 11, lF 29 29, kC Tryz.func58 tab_29] (nonR w) I fun β a w1 I1 hb => ?_
  exact outQ (v := fnV 117) I1 ⟨rfl, I1.hJ⟩
theorem tab_32 (w : World) : Calls Tryz.prog 59 #[b8 32] w fun e w' => e = .returned (fnV 118) ∧ Below w.heap.size w w' := by
  refine inQ (J := Below w.heap.size w) (F := (· < w.heap.size)) Tryz.func59 (Below.refl _ _) fun a I => ?_
  refine goQ [qF 32 32] (nonR w) I fun β a w1 I1 hb => ?_
  refine mkfX (fn := .func 118) (ss := []) I1 ?_
  refine goQ [] (nonR w) (I1.same (fnV 118)) fun β2 a2 w2 I2 hb2 => ?_
  exact outQ (v := fnV 118) I2 ⟨rfl, I2.hJ⟩
theorem ope_32 (w : World) : Calls Tryz.prog 35 #[b8 32] w fun e w' => e = .returned (fnV 118) ∧ Below w.heap.size w w' := by
  refine inQ (J := Below w.heap.size w) (F := (· < w.heap.size)) Tryz.func35 (Below.refl _ _) fun a I => ?_
  refine goQ [lF 32 11, lF 32 29, lF 32 57, kC Tryz.func59 tab_32] (nonR w) I fun β a w1 I1 hb => ?_
  exact outQ (v := fnV 118) I1 ⟨rfl, I1.hJ⟩
theorem tab_53 (w : World) : Calls Tryz.prog 59 #[b8 53] w fun e w' => e = .returned (fnV 119) ∧ Below w.heap.size w w' := by
  refine inQ (J := Below w.heap.size w) (F := (· < w.heap.size)) Tryz.func59 (Below.refl _ _) fun a I => ?_
  refine goQ [qF 53 32, qF 53 53] (nonR w) I fun β a w1 I1 hb => ?_
  refine mkfX (fn := .func 119) (ss := []) I1 ?_
  refine goQ [] (nonR w) (I1.same (fnV 119)) fun β2 a2 w2 I2 hb2 => ?_
  exact outQ (v := fnV 119) I2 ⟨rfl, I2.hJ⟩
theorem ope_53 (w : World) : Calls Tryz.prog 35 #[b8 53] w fun e w' => e = .returned (fnV 119) ∧ Below w.heap.size w w' := by
  refine inQ (J := Below w.heap.size w) (F := (· < w.heap.size)) Tryz.func35 (Below.refl _ _) fun a I => ?_
  refine goQ [lF 53 11, lF 53 29, lF 53 57, kC Tryz.func59 tab_53] (nonR w) I fun β a w1 I1 hb => ?_
  exact outQ (v := fnV 119) I1 ⟨rfl, I1.hJ⟩
theorem tab_54 (w : World) : Calls Tryz.prog 59 #[b8 54] w fun e w' => e = .returned (fnV 120) ∧ Below w.heap.size w w' := by
  refine inQ (J := Below w.heap.size w) (F := (· < w.heap.size)) Tryz.func59 (Below.refl _ _) fun a I => ?_
  refine goQ [qF 54 32, qF 54 53, qF 54 54] (nonR w) I fun β a w1 I1 hb => ?_
  refine mkfX (fn := .func 120) (ss := []) I1 ?_
  refine goQ [] (nonR w) (I1.same (fnV 120)) fun β2 a2 w2 I2 hb2 => ?_
  exact outQ (v := fnV 120) I2 ⟨rfl, I2.hJ⟩
theorem ope_54 (w : World) : Calls Tryz.prog 35 #[b8 54] w fun e w' => e = .returned (fnV 120) ∧ Below w.heap.size w w' := by
  refine inQ (J := Below w.heap.size w) (F := (· < w.heap.size)) Tryz.func35 (Below.refl _ _) fun a I => ?_
  refine goQ [lF 54 11, lF 54 29, lF 54 57, kC Tryz.func59 tab_54] (nonR w) I fun β a w1 I1 hb => ?_
  exact outQ (v := fnV 120) I1 ⟨rfl, I1.hJ⟩
theorem tab_55 (w : World) : Calls Tryz.prog 59 #[b8 55] w fun e w' => e = .returned (fnV 121) ∧ Below w.heap.size w w' := by
  refine inQ (J := Below w.heap.size w) (F := (· < w.heap.size)) Tryz.func59 (Below.refl _ _) fun a I => ?_
  refine goQ [qF 55 32, qF 55 53, qF 55 54, qF 55 55] (nonR w) I fun β a w1 I1 hb => ?_
  refine mkfX (fn := .func 121) (ss := []) I1 ?_
  refine goQ [] (nonR w) (I1.same (fnV 121)) fun β2 a2 w2 I2 hb2 => ?_
  exact outQ (v := fnV 121) I2 ⟨rfl, I2.hJ⟩
theorem ope_55 (w : World) : Calls Tryz.prog 35 #[b8 55] w fun e w' => e = .returned (fnV 121) ∧ Below w.heap.size w w' := by
  refine inQ (J := Below w.heap.size w) (F := (· < w.heap.size)) Tryz.func35 (Below.refl _ _) fun a I => ?_
  refine goQ [lF 55 11, lF 55 29, lF 55 57, kC Tryz.func59 tab_55] (nonR w) I fun β a w1 I1 hb => ?_
  exact outQ (v := fnV 121) I1 ⟨rfl, I1.hJ⟩
theorem tab_56 (w : World) : Calls Tryz.prog 59 #[b8 56] w fun e w' => e = .returned (fnV 122) ∧ Below w.heap.size w w' := by
  refine inQ (J := Below w.heap.size w) (F := (· < w.heap.size)) Tryz.func59 (Below.refl _ _) fun a I => ?_
  refine goQ [qF 56 32, qF 56 53, qF 56 54, qF 56 55, qF 56 56] (nonR w) I fun β a w1 I1 hb => ?_
  refine mkfX (fn := .func 122) (ss := []) I1 ?_
  refine goQ [] (nonR w) (I1.same (fnV 122)) fun β2 a2 w2 I2 hb2 => ?_
  exact outQ (v := fnV 122) I2 ⟨rfl, I2.hJ⟩
theorem ope_56 (w : World) : Calls Tryz.prog 35 #[b8 56] w fun e w' => e = .returned (fnV 122) ∧ Below w.heap.size w w' := by
  refine inQ (J := Below w.heap.size w) (F := (· < w.heap.size)) Tryz.func35 (Below.refl _ _) fun a I => ?_
  refine goQ [lF 56 11, lF 56 29, lF 56 57, kC Tryz.func59 tab_56] (nonR w) I fun β a w1 I1 hb => ?_
  exact outQ (v := fnV 122) I1 ⟨rfl, I1.hJ⟩
theorem tab_57 (w : World) : Calls Tryz.prog 59 #[b8 57] w fun e w' => e = .returned (fnV 123) ∧ Below w.heap.size w w' := by
  refine inQ (J := Below w.heap.size w) (F := (· < w.heap.size)) Tryz.func59 (Below.refl _ _) fun a I => ?_
  refine goQ [qF 57 32, qF 57 53, qF 57 54, qF 57 55, qF 57 56, qF 57 57] (nonR w) I fun β a w1 I1 hb => ?_
  refine mkfX (fn := .func 123) (ss := []) I1 ?_
  refine goQ [] (nonR w) (I1.same (fnV 123)) fun β2 a2 w2 I2 hb2 => ?_
  exact outQ (v := fnV 123) I2 ⟨rfl, I2.hJ⟩
theorem ope_57 (w : World) : Calls Tryz.prog 35 #[b8 57] w fun e w' => e = .returned (fnV 123) ∧ Below w.heap.size w w' := by
  refine inQ (J := Below w.heap.size w) (F := (· < w.heap.size)) Tryz.func35 (Below.refl _ _) fun a I => ?_
  refine goQ [lF 57 11, lF 57 29, lF 57 57, kC Tryz.func59 tab_57] (nonR w) I fun β a w1 I1 hb => ?_
  exact outQ (v := fnV 123) I1 ⟨rfl, I1.hJ⟩
theorem tab_80 (w : World) : Calls Tryz.prog 60 #[b8 80] w fun e w' => e = .returned (fnV 124) ∧ Below w.heap.size w w' := by
  refine inQ (J := Below w.heap.size w) (F := (· < w.heap.size)) Tryz.func60 (Below.refl _ _) fun a I => ?_
  refine goQ [qF 80 80] (nonR w) I fun β a w1 I1 hb => ?_
  refine mkfX (fn := .func 124) (ss := []) I1 ?_
  refine goQ [] (nonR w) (I1.same (fnV 124)) fun β2 a2 w2 I2 hb2 => ?_
  exact outQ (v := fnV 124) I2 ⟨rfl, I2.hJ⟩
theorem ope_80 (w : World) : Calls Tryz.prog 35 #[b8 80] w fun e w' => e = .returned (fnV 124) ∧ Below w.heap.size w w' := by
  refine inQ (J := Below w.heap.size w) (F := (· < w.heap.size)) Tryz.func35 (Below.refl _ _) fun a I => ?_
  refine goQ [lF 80 11, lF 80 29, lF 80 57, lF 80 91, kC Tryz.func60 tab_80] (nonR w) I fun β a w1 I1 hb => ?_
  exact outQ (v := fnV 124) I1 ⟨rfl, I1.hJ⟩
theorem tab_81 (w : World) : Calls Tryz.prog 60 #[b8 81] w fun e w' => e = .returned (fnV 125) ∧ Below w.heap.size w w' := by
  refine inQ (J := Below w.heap.size w) (F := (· < w.heap.size)) Tryz.func60 (Below.refl _ _) fun a I => ?_
  refine goQ [qF 81 80, qF 81 81] (nonR w) I fun β a w1 I1 hb => ?_
  refine mkfX (fn := .func 125) (ss := []) I1 ?_
  refine goQ [] (nonR w) (I1.same (fnV 125)) fun β2 a2 w2 I2 hb2 => ?_
  exact outQ (v := fnV 125) I2 ⟨rfl, I2.hJ⟩
theorem ope_81 (w : World) : Calls Tryz.prog 35 #[b8 81] w fun e w' => e = .returned (fnV 125) ∧ Below w.heap.size w w' := by
  refine inQ (J := Below w.heap.size w) (F := (· < w.heap.size)) Tryz.func35 (Below.refl _ _) fun a I => ?_
  refine goQ [lF 81 11, lF 81 29, lF 81 57, lF 81 91, kC Tryz.func60 tab_81] (nonR w) I fun β a w1 I1 hb => ?_
  exact outQ (v := fnV 125) I1 ⟨rfl, I1.hJ⟩
theorem tab_82 (w : World) : Calls Tryz.prog 60 #[b8 82] w fun e w' => e = .returned (fnV 126) ∧ Below w.heap.size w w' := by
  refine inQ (J := Below w.heap.size w) (F := (· < w.heap.size)) Tryz.func60 (Below.refl _ _) fun a I => ?_
  refine goQ [qF 82 80, qF 82 81, qF 82 82] (nonR w) I fun β a w1 I1 hb => ?_
  refine mkfX (fn := .func 126) (ss := []) I1 ?_
  refine goQ [] (nonR w) (I1.same (fnV 126)) fun β2 a2 w2 I2 hb2 => ?_
  exact outQ (v := fnV 126) I2 ⟨rfl, I2.hJ⟩
theorem ope_82 (w : World) : Calls Tryz.prog 35 #[b8 82] w fun e w' => e = .returned (fnV 126) ∧ Below w.heap.size w w' := by
  refine inQ (J := Below w.heap.size w) (F := (· < w.heap.size)) Tryz.func35 (Below.refl _ _) fun a I => ?_
  refine goQ [lF 82 11, lF 82 29, lF 82 57, lF 82 91, kC Tryz.func60 tab_82] (nonR w) I fun β a w1 I1 hb => ?_
  exact outQ (v := fnV 126) I1 ⟨rfl, I1.hJ⟩
theorem tab_83 (w : World) : Calls Tryz.prog 60 #[b8 83] w fun e w' => e = .returned (fnV 127) ∧ Below w.heap.size w w' := by
  refine inQ (J := Below w.heap.size w) (F := (· < w.heap.size)) Tryz.func60 (Below.refl _ _) fun a I => ?_
  refine goQ [qF 83 80, qF 83 81, qF 83 82, qF 83 83] (nonR w) I fun β a w1 I1 hb => ?_
  refine mkfX (fn := .func 127) (ss := []) I1 ?_
  refine goQ [] (nonR w) (I1.same (fnV 127)) fun β2 a2 w2 I2 hb2 => ?_
  exact outQ (v := fnV 127) I2 ⟨rfl, I2.hJ⟩
theorem ope_83 (w : World) : Calls Tryz.prog 35 #[b8 83] w fun e w' => e = .returned (fnV 127) ∧ Below w.heap.size w w' := by
  refine inQ (J := Below w.heap.size w) (F := (· < w.heap.size)) Tryz.func35 (Below.refl _ _) fun a I => ?_
  refine goQ [lF 83 11, lF 83 29, lF 83 57, lF 83 91, kC Tryz.func60 tab_83] (nonR w) I fun β a w1 I1 hb => ?_
  exact outQ (v := fnV 127) I1 ⟨rfl, I1.hJ⟩
theorem tab_86 (w : World) : Calls Tryz.prog 60 #[b8 86] w fun e w' => e = .returned (fnV 128) ∧ Below w.heap.size w w' := by
  refine inQ (J := Below w.heap.size w) (F := (· < w.heap.size)) Tryz.func60 (Below.refl _ _) fun a I => ?_
  refine goQ [qF 86 80, qF 86 81, qF 86 82, qF 86 83, qF 86 86] (nonR w) I fun β a w1 I1 hb => ?_
  refine mkfX (fn := .func 128) (ss := []) I1 ?_
  refine goQ [] (nonR w) (I1.same (fnV 128)) fun β2 a2 w2 I2 hb2 => ?_
  exact outQ (v := fnV 128) I2 ⟨rfl, I2.hJ⟩
theorem ope_86 (w : World) : Calls Tryz.prog 35 #[b8 86] w fun e w' => e = .returned (fnV 128) ∧ Below w.heap.size w w' := by
  refine inQ (J := Below w.heap.size w) (F := (· < w.heap.size)) Tryz.func35 (Below.refl _ _) fun a I => ?_
  refine goQ [lF 86 11, lF 86 29, lF 86 57, lF 86 91, kC Tryz.func60 tab_86] (nonR w) I fun β a w1 I1 hb => ?_
  exact outQ (v := fnV 128) I1 ⟨rfl, I1.hJ⟩
theorem tab_87 (w : World) : Calls Tryz.prog 60 #[b8 87] w fun e w' => e = .returned (fnV 129) ∧ Below w.heap.size w w' := by
  refine inQ (J := Below w.heap.size w) (F := (· < w.heap.size)) Tryz.func60 (Below.refl _ _) fun a I => ?_
  refine goQ [qF 87 80, qF 87 81, qF 87 82, qF 87 83, qF 87 86, qF 87 87] (nonR w) I fun β a w1 I1 hb => ?_
  refine mkfX (fn := .func 129) (ss := []) I1 ?_
  refine goQ [] (nonR w) (I1.same (fnV 129)) fun β2 a2 w2 I2 hb2 => ?_
  exact outQ (v := fnV 129) I2 ⟨rfl, I2.hJ⟩
theorem ope_87 (w : World) : Calls Tryz.prog 35 #[b8 87] w fun e w' => e = .returned (fnV 129) ∧ Below w.heap.size w w' := by
  refine inQ (J := Below w.heap.size w) (F := (· < w.heap.size)) Tryz.func35 (Below.refl _ _) fun a I => ?_
  refine goQ [lF 87 11, lF 87 29, lF 87 57, lF 87 91, kC Tryz.func60 tab_87] (nonR w) I fun β a w1 I1 hb => ?_
  exact outQ (v := fnV 129) I1 ⟨rfl, I1.hJ⟩
theorem tab_88 (w : World) : Calls Tryz.prog 60 #[b8 88] w fun e w' => e = .returned (fnV 130) ∧ Below w.heap.size w w' := by
  refine inQ (J := Below w.heap.size w) (F := (· < w.heap.size)) Tryz.func60 (Below.refl _ _) fun a I => ?_
  refine goQ [qF 88 80, qF 88 81, qF 88 82, qF 88 83, qF 88 86, qF 88 87, qF 88 88] (nonR w) I fun β a w1 I1 hb => ?_
  refine mkfX (fn := .func 130) (ss := []) I1 ?_
  refine goQ [] (nonR w) (I1.same (fnV 130)) fun β2 a2 w2 I2 hb2 => ?_
  exact outQ (v := fnV 130) I2 ⟨rfl, I2.hJ⟩
theorem ope_88 (w : World) : Calls Tryz.prog 35 #[b8 88] w fun e w' => e = .returned (fnV 130) ∧ Below w.heap.size w w' := by
  refine inQ (J := Below w.heap.size w) (F := (· < w.heap.size)) Tryz.func35 (Below.refl _ _) fun a I => ?_
  refine goQ [lF 88 11, lF 88 29, lF 88 57, lF 88 91, kC Tryz.func60 tab_88] (nonR w) I fun β a w1 I1 hb => ?_
  exact outQ (v := fnV 130) I1 ⟨rfl, I1.hJ⟩
theorem tab_89 (w : World) : Calls Tryz.prog 60 #[b8 89] w fun e w' => e = .returned (fnV 131) ∧ Below w.heap.size w w' := by
  refine inQ (J := Below w.heap.size w) (F := (· < w.heap.size)) Tryz.func60 (Below.refl _ _) fun a I => ?_
  refine goQ [qF 89 80, qF 89 81, qF 89 82, qF 89 83, qF 89 86, qF 89 87, qF 89 88, qF 89 89] (nonR w) I fun β a w1 I1 hb => ?_
  refine mkfX (fn := .func 131) (ss := []) I1 ?_
  refine goQ [] (nonR w) (I1.same (fnV 131)) fun β2 a2 w2 I2 hb2 => ?_
  exact outQ (v := fnV 131) I2 ⟨rfl, I2.hJ⟩
theorem ope_89 (w : World) : Calls Tryz.prog 35 #[b8 89] w fun e w' => e = .returned (fnV 131) ∧ Below w.heap.size w w' := by
  refine inQ (J := Below w.heap.size w) (F := (· < w.heap.size)) Tryz.func35 (Below.refl _ _) fun a I => ?_
  refine goQ [lF 89 11, lF 89 29, lF 89 57, lF 89 91, kC Tryz.func60 tab_89] (nonR w) I fun β a w1 I1 hb => ?_
  exact outQ (v := fnV 131) I1 ⟨rfl, I1.hJ⟩
theorem tab_90 (w : World) : Calls Tryz.prog 60 #[b8 90] w fun e w' => e = .returned (fnV 132) ∧ Below w.heap.size w w' := by
  refine inQ (J := Below w.heap.size w) (F := (· < w.heap.size)) Tryz.func60 (Below.refl _ _) fun a I => ?_
  refine goQ [qF 90 80, qF 90 81, qF 90 82, qF 90 83, qF 90 86, qF 90 87, qF 90 88, qF 90 89, qF 90 90] (nonR w) I fun β a w1 I1 hb => ?_
  refine mkfX (fn := .func 132) (ss := []) I1 ?_
  refine goQ [] (nonR w) (I1.same (fnV 132)) fun β2 a2 w2 I2 hb2 => ?_
  exact outQ (v := fnV 132) I2 ⟨rfl, I2.hJ⟩
theorem ope_90 (w : World) : Calls Tryz.prog 35 #[b8 90] w fun e w' => e = .returned (fnV 132) ∧ Below w.heap.size w w' := by
  refine inQ (J := Below w.heap.size w) (F := (· < w.heap.size)) Tryz.func35 (Below.refl _ _) fun a I => ?_
  refine goQ [lF 90 11, lF 90 29, lF 90 57, lF 90 91, kC Tryz.func60 tab_90] (nonR w) I fun β a w1 I1 hb => ?_
  exact outQ (v := fnV 132) I1 ⟨rfl, I1.hJ⟩
theorem tab_91 (w : World) : Calls Tryz.prog 60 #[b8 91] w fun e w' => e = .returned (fnV 133) ∧ Below w.heap.size w w' := by
  refine inQ (J := Below w.heap.size w) (F := (· < w.heap.size)) Tryz.func60 (Below.refl _ _) fun a I => ?_
  refine goQ [qF 91 80, qF 91 81, qF 91 82, qF 91 83, qF 91 86, qF 91 87, qF 91 88, qF 91 89, qF 91 90, qF 91 91] (nonR w) I fun β a w1 I1 hb => ?_
  refine mkfX (fn := .func 133) (ss := []) I1 ?_
  refine goQ [] (nonR w) (I1.same (fnV 133)) fun β2 a2 w2 I2 hb2 => ?_
  exact outQ (v := fnV 133) I2 ⟨rfl, I2.hJ⟩
theorem ope_91 (w : World) : Calls Tryz.prog 35 #[b8 91] w fun e w' => e = .returned (fnV 133) ∧ Below w.heap.size w w' := by
  refine inQ (J := Below w.heap.size w) (F := (· < w.heap.size)) Tryz.func35 (Below.refl _ _) fun a I => ?_
  refine goQ [lF 91 11, lF 91 29, lF 91 57, lF 91 91, kC Tryz.func60 tab_91] (nonR w) I fun β a w1 I1 hb => ?_
  exact outQ (v := fnV 133) I1 ⟨rfl, I1.hJ⟩
theorem non_58 (n : Nat) (h : n < 16 ∨ 29 < n) (w : World) : Calls Tryz.prog 58 #[b8 n] w fun e w' => e = .returned (.nilFunc) ∧ Below w.heap.size w w' := by
  refine inQ (J := Below w.heap.size w) (F := (· < w.heap.size)) Tryz.func58 (Below.refl _ _) fun a I => ?_
  refine goQ [nF n 16 (by omega), nF n 17 (by omega), nF n 18 (by omega), nF n 19 (by omega), nF n 20 (by omega), nF n 21 (by omega), nF n 22 (by omega), nF n 23 (by omega), nF n 24 (by omega), nF n 25 (by omega), nF n 26 (by omega), nF n 27 (by omega), nF n 28 (by omega), nF n 29 (by omega)] (nonR w) I fun β a w1 I1 hb => ?_
  exact outQ (v := .nilFunc) I1 ⟨rfl, I1.hJ⟩
theorem non_59 (n : Nat) (h : n ≠ 32 ∧ (n < 53 ∨ 57 < n)) (w : World) : Calls Tryz.prog 59 #[b8 n] w fun e w' => e = .returned (.nilFunc) ∧ Below w.heap.size w w' := by
  refine inQ (J := Below w.heap.size w) (F := (· < w.heap.size)) Tryz.func59 (Below.refl _ _) fun a I => ?_
  refine goQ [nF n 32 (by omega), nF n 53 (by omega), nF n 54 (by omega), nF n 55 (by omega), nF n 56 (by omega), nF n 57 (by omega)] (nonR w) I fun β a w1 I1 hb => ?_
  exact outQ (v := .nilFunc) I1 ⟨rfl, I1.hJ⟩
theorem non_60 (n : Nat) (h : n < 80 ∨ n = 84 ∨ n = 85 ∨ 91 < n) (w : World) : Calls Tryz.prog 60 #[b8 n] w fun e w' => e = .returned (.nilFunc) ∧ Below w.heap.size w w' := by
  refine inQ (J := Below w.heap.size w) (F := (· < w.heap.size)) Tryz.func60 (Below.refl _ _) fun a I => ?_
  refine goQ [nF n 80 (by omega), nF n 81 (by omega), nF n 82 (by omega), nF n 83 (by omega), nF n 86 (by omega), nF n 87 (by omega), nF n 88 (by omega), nF n 89 (by omega), nF n 90 (by omega), nF n 91 (by omega)] (nonR w) I fun β a w1 I1 hb => ?_
  exact outQ (v := .nilFunc) I1 ⟨rfl, I1.hJ⟩
theorem none_58 (n : Nat) (h : 11 < n ∧ n < 16) (w : World) : Calls Tryz.prog 35 #[b8 n] w fun e w' => e = .returned (.nilFunc) ∧ Below w.heap.size w w' := by
  refine inQ (J := Below w.heap.size w) (F := (· < w.heap.size)) Tryz.func35 (Below.refl _ _) fun a I => ?_
  refine goQ [gF n 11 (by omega), eF n 29 (by omega), kC Tryz.func58 (non_58 n (by omega))] (nonR w) I fun β a w1 I1 hb => ?_
  exact outQ (v := .nilFunc) I1 ⟨rfl, I1.hJ⟩
theorem none_59 (n : Nat) (h : 29 < n ∧ n < 53 ∧ n ≠ 32) (w : World) : Calls Tryz.prog 35 #[b8 n] w fun e w' => e = .returned (.nilFunc) ∧ Below w.heap.size w w' := by
  refine inQ (J := Below w.heap.size w) (F := (· < w.heap.size)) Tryz.func35 (Below.refl _ _) fun a I => ?_
  refine goQ [gF n 11 (by omega), gF n 29 (by omega), eF n 57 (by omega), kC Tryz.func59 (non_59 n (by omega))] (nonR w) I fun β a w1 I1 hb => ?_
  exact outQ (v := .nilFunc) I1 ⟨rfl, I1.hJ⟩
theorem none_60 (n : Nat) (h : (57 < n ∧ n < 80) ∨ n = 84 ∨ n = 85) (w : World) : Calls Tryz.prog 35 #[b8 n] w fun e w' => e = .returned (.nilFunc) ∧ Below w.heap.size w w' := by
  refine inQ (J := Below w.heap.size w) (F := (· < w.heap.size)) Tryz.func35 (Below.refl _ _) fun a I => ?_
  refine goQ [gF n 11 (by omega), gF n 29 (by omega), gF n 57 (by omega), eF n 91 (by omega), kC Tryz.func60 (non_60 n (by omega))] (nonR w) I fun β a w1 I1 hb => ?_
  exact outQ (v := .nilFunc) I1 ⟨rfl, I1.hJ⟩
theorem ope_r0 (n : Nat) (h1 : 95 ≤ n) (h2 : n ≤ 127) (w : World) : Calls Tryz.prog 35 #[b8 n] w fun e w' => e = .returned (fnV 61) ∧ Below w.heap.size w w' := by
  refine inQ (J := Below w.heap.size w) (F := (· < w.heap.size)) Tryz.func35 (Below.refl _ _) fun a I => ?_
  refine goQ [gF n 11 (by omega), gF n 29 (by omega), gF n 57 (by omega), gF n 91 (by omega), eF 95 n (by omega), eF n 127 (by omega)] (nonR w) I fun β a w1 I1 hb => ?_
  refine mkfX (fn := .func 61) (ss := []) I1 ?_
  refine goQ [] (nonR w) (I1.same (fnV 61)) fun β2 a2 w2 I2 hb2 => ?_
  exact outQ (v := fnV 61) I2 ⟨rfl, I2.hJ⟩
theorem ope_r1 (n : Nat) (h1 : 128 ≤ n) (h2 : n ≤ 143) (w : World) : Calls Tryz.prog 35 #[b8 n] w fun e w' => e = .returned (fnV 62) ∧ Below w.heap.size w w' := by
  refine inQ (J := Below w.heap.size w) (F := (· < w.heap.size)) Tryz.func35 (Below.refl _ _) fun a I => ?_
  refine goQ [gF n 11 (by omega), gF n 29 (by omega), gF n 57 (by omega), gF n 91 (by omega), eF 95 n (by omega), gF n 127 (by omega), eF 128 n (by omega), eF n 143 (by omega)] (nonR w) I fun β a w1 I1 hb => ?_
  refine mkfX (fn := .func 62) (ss := []) I1 ?_
  refine goQ [] (nonR w) (I1.same (fnV 62)) fun β2 a2 w2 I2 hb2 => ?_
  exact outQ (v := fnV 62) I2 ⟨rfl, I2.hJ⟩
theorem ope_r2 (n : Nat) (h1 : 144 ≤ n) (h2 : n ≤ 159) (w : World) : Calls Tryz.prog 35 #[b8 n] w fun e w' => e = .returned (fnV 63) ∧ Below w.heap.size w w' := by
  refine inQ (J := Below w.heap.size w) (F := (· < w.heap.size)) Tryz.func35 (Below.refl _ _) fun a I => ?_
  refine goQ [gF n 11 (by omega), gF n 29 (by omega), gF n 57 (by omega), gF n 91 (by omega), eF 95 n (by omega), gF n 127 (by omega), eF 128 n (by omega), gF n 143 (by omega), eF 144 n (by omega), eF n 159 (by omega)] (nonR w) I fun β a w1 I1 hb => ?_
  refine mkfX (fn := .func 63) (ss := []) I1 ?_
  refine goQ [] (nonR w) (I1.same (fnV 63)) fun β2 a2 w2 I2 hb2 => ?_
  exact outQ (v := fnV 63) I2 ⟨rfl, I2.hJ⟩
theorem ope_243 (w : World) : Calls Tryz.prog 35 #[b8 243] w fun e w' => e = .returned (fnV 64) ∧ Below w.heap.size w w' := by
  refine inQ (J := Below w.heap.size w) (F := (· < w.heap.size)) Tryz.func35 (Below.refl _ _) fun a I => ?_
  refine goQ [lF 243 11, lF 243 29, lF 243 57, lF 243 91, lF 95 243, lF 243 127, lF 128 243, lF 243 143, lF 144 243, lF 243 159, qF 243 243] (nonR w) I fun β a w1 I1 hb => ?_
  refine mkfX (fn := .func 64) (ss := []) I1 ?_
  refine goQ [] (nonR w) (I1.same (fnV 64)) fun β2 a2 w2 I2 hb2 => ?_
  exact outQ (v := fnV 64) I2 ⟨rfl, I2.hJ⟩
theorem ope_253 (w : World) : Calls Tryz.prog 35 #[b8 253] w fun e w' => e = .returned (fnV 65) ∧ Below w.heap.size w w' := by
  refine inQ (J := Below w.heap.size w) (F := (· < w.heap.size)) Tryz.func35 (Below.refl _ _) fun a I => ?_
  refine goQ [lF 253 11, lF 253 29, lF 253 57, lF 253 91, lF 95 253, lF 253 127, lF 128 253, lF 253 143, lF 144 253, lF 253 159, qF 253 243, qF 253 253] (nonR w) I fun β a w1 I1 hb => ?_
  refine mkfX (fn := .func 65) (ss := []) I1 ?_
  refine goQ [] (nonR w) (I1.same (fnV 65)) fun β2 a2 w2 I2 hb2 => ?_
  exact outQ (v := fnV 65) I2 ⟨rfl, I2.hJ⟩
theorem none_lo (n : Nat) (h : 91 < n ∧ n < 95) (w : World) : Calls Tryz.prog 35 #[b8 n] w fun e w' => e = .returned (.nilFunc) ∧ Below w.heap.size w w' := by
  refine inQ (J := Below w.heap.size w) (F := (· < w.heap.size)) Tryz.func35 (Below.refl _ _) fun a I => ?_
  refine goQ [gF n 11 (by omega), gF n 29 (by omega), gF n 57 (by omega), gF n 91 (by omega), gF 95 n (by omega), gF 128 n (by omega), gF 144 n (by omega), nF n 243 (by omega), nF n 253 (by omega)] (nonR w) I fun β a w1 I1 hb => ?_
  exact outQ (v := .nilFunc) I1 ⟨rfl, I1.hJ⟩
theorem none_hi (n : Nat) (h : 159 < n ∧ n ≠ 243 ∧ n ≠ 253) (w : World) : Calls Tryz.prog 35 #[b8 n] w fun e w' => e = .returned (.nilFunc) ∧ Below w.heap.size w w' := by
  refine inQ (J := Below w.heap.size w) (F := (· < w.heap.size)) Tryz.func35 (Below.refl _ _) fun a I => ?_
  refine goQ [gF n 11 (by omega), gF n 29 (by omega), gF n 57 (by omega), gF n 91 (by omega), eF 95 n (by omega), gF n 127 (by omega), eF 128 n (by omega), gF n 143 (by omega), eF 144 n (by omega), gF n 159 (by omega), nF n 243 (by omega), nF n 253 (by omega)] (nonR w) I fun β a w1 I1 hb => ?_
  exact outQ (v := .nilFunc) I1 ⟨rfl, I1.hJ⟩
theorem isOp_cases {n : Nat} (h : isOp n = true) : n = 0 ∨ n = 1 ∨ n = 2 ∨ n = 3 ∨ n = 4 ∨ n = 5 ∨ n = 6 ∨ n = 7 ∨ n = 8 ∨ n = 9 ∨ n = 10 ∨ n = 11 ∨ n = 16 ∨ n = 17 ∨ n = 18 ∨ n = 19 ∨ n = 20 ∨ n = 21 ∨ n = 22 ∨ n = 23 ∨ n = 24 ∨ n = 25 ∨ n = 26 ∨ n = 27 ∨ n = 28 ∨ n = 29 ∨ n = 32 ∨ n = 53 ∨ n = 54 ∨ n = 55 ∨ n = 56 ∨ n = 57 ∨ n = 80 ∨ n = 81 ∨ n = 82 ∨ n = 83 ∨ n = 86 ∨ n = 87 ∨ n = 88 ∨ n = 89 ∨ n = 90 ∨ n = 91 ∨ (95 ≤ n ∧ n ≤ 127) ∨ (128 ≤ n ∧ n ≤ 143) ∨ (144 ≤ n ∧ n ≤ 159) ∨ n = 243 ∨ n = 253 := by
  unfold isOp at h
  simp only [Bool.or_eq_true, Bool.and_eq_true, decide_eq_true_eq] at h
  omega
theorem notOp_cases {n : Nat} (h : isOp n = false) : (11 < n ∧ n < 16) ∨ (29 < n ∧ n < 53 ∧ n ≠ 32) ∨ ((57 < n ∧ n < 80) ∨ n = 84 ∨ n = 85) ∨ (91 < n ∧ n < 95) ∨ (159 < n ∧ n ≠ 243 ∧ n ≠ 253) := by
  unfold isOp at h
  simp only [Bool.or_eq_false_iff, Bool.and_eq_false_iff, decide_eq_false_iff_not] at h
  omega
theorem oper_none {n : Nat} (h : isOp n = false) (w : World) : Calls Tryz.prog 35 #[b8 n] w fun e w' => e = .returned .nilFunc ∧ Below w.heap.size w w' := by
  rcases notOp_cases h with h | h | h | h | h
  · exact none_58 n h w
  · exact none_59 n h w
  · exact none_60 n h w
  · exact none_lo n h w
  · exact none_hi n h w
theorem oper_some {n : Nat} (h : isOp n = true) (w : World) : Calls Tryz.prog 35 #[b8 n] w fun e w' => e = .returned (fnV (mF n)) ∧ Below w.heap.size w w' := by
  have hr : ∀ lo hi fn, lo ≤ n → n ≤ hi → ((lo = 95 ∧ hi = 127 ∧ fn = 61) ∨ (lo = 128 ∧ hi = 143 ∧ fn = 62) ∨ (lo = 144 ∧ hi = 159 ∧ fn = 63)) → mF n = fn := by
    intro lo hi fn h1 h2 h3
    unfold mF
    rcases h3 with ⟨rfl, rfl, rfl⟩ | ⟨rfl, rfl, rfl⟩ | ⟨rfl, rfl, rfl⟩ <;> (repeat rw [if_neg (by omega)]) <;> rw [if_pos (by omega)]
  rcases isOp_cases h with rfl | rfl | rfl | rfl | rfl | rfl | rfl | rfl | rfl | rfl | rfl | rfl | rfl | rfl | rfl | rfl | rfl | rfl | rfl | rfl | rfl | rfl | rfl | rfl | rfl | rfl | rfl | rfl | rfl | rfl | rfl | rfl | rfl | rfl | rfl | rfl | rfl | rfl | rfl | rfl | rfl | rfl | h | h | h | rfl | rfl
  · exact ope_0 w
  · exact ope_1 w
  · exact ope_2 w
  · exact ope_3 w
  · exact ope_4 w
  · exact ope_5 w
  · exact ope_6 w
  · exact ope_7 w
  · exact ope_8 w
  · exact ope_9 w
  · exact ope_10 w
  · exact ope_11 w
  · exact ope_16 w
  · exact ope_17 w
  · exact ope_18 w
  · exact ope_19 w
  · exact ope_20 w
  · exact ope_21 w
  · exact ope_22 w
  · exact ope_23 w
  · exact ope_24 w
  · exact ope_25 w
  · exact ope_26 w
  · exact ope_27 w
  · exact ope_28 w
  · exact ope_29 w
  · exact ope_32 w
  · exact ope_53 w
  · exact ope_54 w
  · exact ope_55 w
  · exact ope_56 w
  · exact ope_57 w
  · exact ope_80 w
  · exact ope_81 w
  · exact ope_82 w
  · exact ope_83 w
  · exact ope_86 w
  · exact ope_87 w
  · exact ope_88 w
  · exact ope_89 w
  · exact ope_90 w
  · exact ope_91 w
  · rw [hr 95 127 61 h.1 h.2 (by decide)]; exact ope_r0 n h.1 h.2 w
  · rw [hr 128 143 62 h.1 h.2 (by decide)]; exact ope_r1 n h.1 h.2 w
  · rw [hr 144 159 63 h.1 h.2 (by decide)]; exact ope_r2 n h.1 h.2 w
  · exact ope_243 w
  · exact ope_253 w
/-- What must hold of a run whose next operation is done. -/
structure Rdy (op : Nat) (f : Fr) : Prop where
  code : f.code.length ≤ 65536
  inp : f.inp.length ≤ 65536
  st : f.st.length ≤ 256
  num : ∀ u ∈ f.st, u < W
  mem : f.mem.length ≤ 1000000
  pc0 : 1 ≤ f.pc
  pc1 : f.pc ≤ 1000000
  gas0 : 0 ≤ f.gas
  gas1 : f.gas ≤ 100000
  tk : (opP op).2.1 ≤ f.st.length
  m1 : op = 32 ∨ op = 243 ∨ op = 253 → tp f.st 1 ≤ 65536
  m2 : op = 55 ∨ op = 57 → tp f.st 2 ≤ 65536 ∧ (tp f.st 2 ≠ 0 → tp f.st 0 ≤ 1000000)
  m3 : op = 82 ∨ op = 83 ∨ op = 86 → tp f.st 0 ≤ 1000000
  m4 : op = 87 → tp f.st 1 ≠ 0 → tp f.st 0 ≤ 1000000
theorem one_of {l : List Nat} (h : 1 ≤ l.length) : ∃ a s, l = a :: s := by
  rcases l with _ | ⟨a, s⟩
  · simp at h
  · exact ⟨a, s, rfl⟩
theorem two_of {l : List Nat} (h : 2 ≤ l.length) : ∃ a b s, l = a :: b :: s := by
  rcases l with _ | ⟨a, _ | ⟨b, s⟩⟩
  · simp at h
  · simp at h
  · exact ⟨a, b, s, rfl⟩
theorem three_of {l : List Nat} (h : 3 ≤ l.length) : ∃ a b c s, l = a :: b :: c :: s := by
  rcases l with _ | ⟨a, _ | ⟨b, _ | ⟨c, s⟩⟩⟩
  · simp at h
  · simp at h
  · simp at h
  · exact ⟨a, b, c, s, rfl⟩
theorem Mth.to {fn g : Nat} {xs : List Value} {f f1 f2 : Fr} {op op' : Nat} {pa pa' : Int} {x : Value} (h : Mth fn g xs f op pa x f1 op' pa') (e : f1 = f2) : Mth fn g xs f op pa x f2 op' pa' := e ▸ h
theorem to_reck {k g : Nat} {f : Fr} {op : Nat} {pa : Int} {r : Nat} {s : List Nat} (hm : Mth k g [] f op pa TU0 { f with st := r :: s } op pa) (h0 : op ≠ 0) (h : op < 32) (hr : reckV op (tp f.st 0) (tp f.st 1) (tp f.st 2) = r) (hs : f.st.drop (opP op).2.1 = s) : Mth k g [] f op pa TU0 (doV op f) op pa := by
  refine hm.to ?_
  unfold doV
  rw [if_neg h0, if_pos h, hr, hs]
theorem do_0 {g : Nat} {f : Fr} {pa : Int} (h : Rdy 0 f) (hpa : pa = f.pc - 1) : Mth 92 g [] f 0 pa TU0 (doV 0 f) 0 pa := by
  obtain ⟨code, inp, st, mem, pc, gas, sd, er, out⟩ := f
  have hst : st.length ≤ 256 := h.st
  exact m_stop.to (by kernel_rfl)
theorem do_1 {g : Nat} {f : Fr} {pa : Int} (h : Rdy 1 f) (hpa : pa = f.pc - 1) : Mth 93 g [] f 1 pa TU0 (doV 1 f) 1 pa := by
  obtain ⟨code, inp, st, mem, pc, gas, sd, er, out⟩ := f
  have hst : st.length ≤ 256 := h.st
  obtain ⟨a, b, s, rfl⟩ := two_of (show 2 ≤ st.length from h.tk)
  exact to_reck (m_add rfl (h.num a (by simp)) (h.num b (by simp)) (Nat.le_trans hst (by decide))) (by decide) (by decide) (by simp [reckV, tp]) (by rfl)
theorem do_2 {g : Nat} {f : Fr} {pa : Int} (h : Rdy 2 f) (hpa : pa = f.pc - 1) : Mth 94 g [] f 2 pa TU0 (doV 2 f) 2 pa := by
  obtain ⟨code, inp, st, mem, pc, gas, sd, er, out⟩ := f
  have hst : st.length ≤ 256 := h.st
  obtain ⟨a, b, s, rfl⟩ := two_of (show 2 ≤ st.length from h.tk)
  exact to_reck (m_mul rfl (h.num a (by simp)) (h.num b (by simp)) (Nat.le_trans hst (by decide))) (by decide) (by decide) (by simp [reckV, tp]) (by rfl)
theorem do_3 {g : Nat} {f : Fr} {pa : Int} (h : Rdy 3 f) (hpa : pa = f.pc - 1) : Mth 95 g [] f 3 pa TU0 (doV 3 f) 3 pa := by
  obtain ⟨code, inp, st, mem, pc, gas, sd, er, out⟩ := f
  have hst : st.length ≤ 256 := h.st
  obtain ⟨a, b, s, rfl⟩ := two_of (show 2 ≤ st.length from h.tk)
  exact to_reck (m_sub rfl (h.num a (by simp)) (h.num b (by simp)) (Nat.le_trans hst (by decide))) (by decide) (by decide) (by simp [reckV, tp]) (by rfl)
theorem do_4 {g : Nat} {f : Fr} {pa : Int} (h : Rdy 4 f) (hpa : pa = f.pc - 1) : Mth 96 g [] f 4 pa TU0 (doV 4 f) 4 pa := by
  obtain ⟨code, inp, st, mem, pc, gas, sd, er, out⟩ := f
  have hst : st.length ≤ 256 := h.st
  obtain ⟨a, b, s, rfl⟩ := two_of (show 2 ≤ st.length from h.tk)
  exact to_reck (m_div rfl (h.num a (by simp)) (h.num b (by simp)) (Nat.le_trans hst (by decide))) (by decide) (by decide) (by simp [reckV, tp]) (by rfl)
theorem do_5 {g : Nat} {f : Fr} {pa : Int} (h : Rdy 5 f) (hpa : pa = f.pc - 1) : Mth 97 g [] f 5 pa TU0 (doV 5 f) 5 pa := by
  obtain ⟨code, inp, st, mem, pc, gas, sd, er, out⟩ := f
  have hst : st.length ≤ 256 := h.st
  obtain ⟨a, b, s, rfl⟩ := two_of (show 2 ≤ st.length from h.tk)
  exact to_reck (m_sdiv rfl (h.num a (by simp)) (h.num b (by simp)) (Nat.le_trans hst (by decide))) (by decide) (by decide) (by simp [reckV, tp]) (by rfl)
theorem do_6 {g : Nat} {f : Fr} {pa : Int} (h : Rdy 6 f) (hpa : pa = f.pc - 1) : Mth 98 g [] f 6 pa TU0 (doV 6 f) 6 pa := by
  obtain ⟨code, inp, st, mem, pc, gas, sd, er, out⟩ := f
  have hst : st.length ≤ 256 := h.st
  obtain ⟨a, b, s, rfl⟩ := two_of (show 2 ≤ st.length from h.tk)
  exact to_reck (m_rest rfl (h.num a (by simp)) (h.num b (by simp)) (Nat.le_trans hst (by decide))) (by decide) (by decide) (by simp [reckV, tp]) (by rfl)
theorem do_7 {g : Nat} {f : Fr} {pa : Int} (h : Rdy 7 f) (hpa : pa = f.pc - 1) : Mth 99 g [] f 7 pa TU0 (doV 7 f) 7 pa := by
  obtain ⟨code, inp, st, mem, pc, gas, sd, er, out⟩ := f
  have hst : st.length ≤ 256 := h.st
  obtain ⟨a, b, s, rfl⟩ := two_of (show 2 ≤ st.length from h.tk)
  exact to_reck (m_srest rfl (h.num a (by simp)) (h.num b (by simp)) (Nat.le_trans hst (by decide))) (by decide) (by decide) (by simp [reckV, tp]) (by rfl)
theorem do_8 {g : Nat} {f : Fr} {pa : Int} (h : Rdy 8 f) (hpa : pa = f.pc - 1) : Mth 100 g [] f 8 pa TU0 (doV 8 f) 8 pa := by
  obtain ⟨code, inp, st, mem, pc, gas, sd, er, out⟩ := f
  have hst : st.length ≤ 256 := h.st
  obtain ⟨a, b, c, s, rfl⟩ := three_of (show 3 ≤ st.length from h.tk)
  exact to_reck (m_addm rfl (h.num a (by simp)) (h.num b (by simp)) (h.num c (by simp)) (Nat.le_trans hst (by decide))) (by decide) (by decide) (by simp [reckV, tp]) (by rfl)
theorem do_9 {g : Nat} {f : Fr} {pa : Int} (h : Rdy 9 f) (hpa : pa = f.pc - 1) : Mth 101 g [] f 9 pa TU0 (doV 9 f) 9 pa := by
  obtain ⟨code, inp, st, mem, pc, gas, sd, er, out⟩ := f
  have hst : st.length ≤ 256 := h.st
  obtain ⟨a, b, c, s, rfl⟩ := three_of (show 3 ≤ st.length from h.tk)
  exact to_reck (m_mulm rfl (h.num a (by simp)) (h.num b (by simp)) (h.num c (by simp)) (Nat.le_trans hst (by decide))) (by decide) (by decide) (by simp [reckV, tp]) (by rfl)
theorem do_10 {g : Nat} {f : Fr} {pa : Int} (h : Rdy 10 f) (hpa : pa = f.pc - 1) : Mth 102 g [] f 10 pa TU0 (doV 10 f) 10 pa := by
  obtain ⟨code, inp, st, mem, pc, gas, sd, er, out⟩ := f
  have hst : st.length ≤ 256 := h.st
  obtain ⟨a, b, s, rfl⟩ := two_of (show 2 ≤ st.length from h.tk)
  exact to_reck (m_pow rfl (h.num a (by simp)) (h.num b (by simp)) (Nat.le_trans hst (by decide))) (by decide) (by decide) (by simp [reckV, tp]) (by rfl)
theorem do_11 {g : Nat} {f : Fr} {pa : Int} (h : Rdy 11 f) (hpa : pa = f.pc - 1) : Mth 103 g [] f 11 pa TU0 (doV 11 f) 11 pa := by
  obtain ⟨code, inp, st, mem, pc, gas, sd, er, out⟩ := f
  have hst : st.length ≤ 256 := h.st
  obtain ⟨a, b, s, rfl⟩ := two_of (show 2 ≤ st.length from h.tk)
  exact to_reck (m_ext rfl (h.num a (by simp)) (h.num b (by simp)) (Nat.le_trans hst (by decide))) (by decide) (by decide) (by simp [reckV, tp]) (by rfl)
theorem do_16 {g : Nat} {f : Fr} {pa : Int} (h : Rdy 16 f) (hpa : pa = f.pc - 1) : Mth 104 g [] f 16 pa TU0 (doV 16 f) 16 pa := by
  obtain ⟨code, inp, st, mem, pc, gas, sd, er, out⟩ := f
  have hst : st.length ≤ 256 := h.st
  obtain ⟨a, b, s, rfl⟩ := two_of (show 2 ≤ st.length from h.tk)
  exact to_reck (m_less rfl (h.num a (by simp)) (h.num b (by simp)) (Nat.le_trans hst (by decide))) (by decide) (by decide) (by simp [reckV, tp]) (by rfl)
theorem do_17 {g : Nat} {f : Fr} {pa : Int} (h : Rdy 17 f) (hpa : pa = f.pc - 1) : Mth 105 g [] f 17 pa TU0 (doV 17 f) 17 pa := by
  obtain ⟨code, inp, st, mem, pc, gas, sd, er, out⟩ := f
  have hst : st.length ≤ 256 := h.st
  obtain ⟨a, b, s, rfl⟩ := two_of (show 2 ≤ st.length from h.tk)
  exact to_reck (m_more rfl (h.num a (by simp)) (h.num b (by simp)) (Nat.le_trans hst (by decide))) (by decide) (by decide) (by simp [reckV, tp]) (by rfl)
theorem do_18 {g : Nat} {f : Fr} {pa : Int} (h : Rdy 18 f) (hpa : pa = f.pc - 1) : Mth 106 g [] f 18 pa TU0 (doV 18 f) 18 pa := by
  obtain ⟨code, inp, st, mem, pc, gas, sd, er, out⟩ := f
  have hst : st.length ≤ 256 := h.st
  obtain ⟨a, b, s, rfl⟩ := two_of (show 2 ≤ st.length from h.tk)
  exact to_reck (m_sless rfl (h.num a (by simp)) (h.num b (by simp)) (Nat.le_trans hst (by decide))) (by decide) (by decide) (by simp [reckV, tp]) (by rfl)
theorem do_19 {g : Nat} {f : Fr} {pa : Int} (h : Rdy 19 f) (hpa : pa = f.pc - 1) : Mth 107 g [] f 19 pa TU0 (doV 19 f) 19 pa := by
  obtain ⟨code, inp, st, mem, pc, gas, sd, er, out⟩ := f
  have hst : st.length ≤ 256 := h.st
  obtain ⟨a, b, s, rfl⟩ := two_of (show 2 ≤ st.length from h.tk)
  exact to_reck (m_smore rfl (h.num a (by simp)) (h.num b (by simp)) (Nat.le_trans hst (by decide))) (by decide) (by decide) (by simp [reckV, tp]) (by rfl)
theorem do_20 {g : Nat} {f : Fr} {pa : Int} (h : Rdy 20 f) (hpa : pa = f.pc - 1) : Mth 108 g [] f 20 pa TU0 (doV 20 f) 20 pa := by
  obtain ⟨code, inp, st, mem, pc, gas, sd, er, out⟩ := f
  have hst : st.length ≤ 256 := h.st
  obtain ⟨a, b, s, rfl⟩ := two_of (show 2 ≤ st.length from h.tk)
  exact to_reck (m_same rfl (h.num a (by simp)) (h.num b (by simp)) (Nat.le_trans hst (by decide))) (by decide) (by decide) (by simp [reckV, tp]) (by rfl)
theorem do_21 {g : Nat} {f : Fr} {pa : Int} (h : Rdy 21 f) (hpa : pa = f.pc - 1) : Mth 109 g [] f 21 pa TU0 (doV 21 f) 21 pa := by
  obtain ⟨code, inp, st, mem, pc, gas, sd, er, out⟩ := f
  have hst : st.length ≤ 256 := h.st
  obtain ⟨a, s, rfl⟩ := one_of (show 1 ≤ st.length from h.tk)
  exact to_reck (m_zero rfl (h.num a (by simp)) (Nat.le_trans hst (by decide))) (by decide) (by decide) (by simp [reckV, tp]) (by rfl)
theorem do_22 {g : Nat} {f : Fr} {pa : Int} (h : Rdy 22 f) (hpa : pa = f.pc - 1) : Mth 110 g [] f 22 pa TU0 (doV 22 f) 22 pa := by
  obtain ⟨code, inp, st, mem, pc, gas, sd, er, out⟩ := f
  have hst : st.length ≤ 256 := h.st
  obtain ⟨a, b, s, rfl⟩ := two_of (show 2 ≤ st.length from h.tk)
  exact to_reck (m_and rfl (h.num a (by simp)) (h.num b (by simp)) (Nat.le_trans hst (by decide))) (by decide) (by decide) (by simp [reckV, tp]) (by rfl)
theorem do_23 {g : Nat} {f : Fr} {pa : Int} (h : Rdy 23 f) (hpa : pa = f.pc - 1) : Mth 111 g [] f 23 pa TU0 (doV 23 f) 23 pa := by
  obtain ⟨code, inp, st, mem, pc, gas, sd, er, out⟩ := f
  have hst : st.length ≤ 256 := h.st
  obtain ⟨a, b, s, rfl⟩ := two_of (show 2 ≤ st.length from h.tk)
  exact to_reck (m_or rfl (h.num a (by simp)) (h.num b (by simp)) (Nat.le_trans hst (by decide))) (by decide) (by decide) (by simp [reckV, tp]) (by rfl)
theorem do_24 {g : Nat} {f : Fr} {pa : Int} (h : Rdy 24 f) (hpa : pa = f.pc - 1) : Mth 112 g [] f 24 pa TU0 (doV 24 f) 24 pa := by
  obtain ⟨code, inp, st, mem, pc, gas, sd, er, out⟩ := f
  have hst : st.length ≤ 256 := h.st
  obtain ⟨a, b, s, rfl⟩ := two_of (show 2 ≤ st.length from h.tk)
  exact to_reck (m_xor rfl (h.num a (by simp)) (h.num b (by simp)) (Nat.le_trans hst (by decide))) (by decide) (by decide) (by simp [reckV, tp]) (by rfl)
theorem do_25 {g : Nat} {f : Fr} {pa : Int} (h : Rdy 25 f) (hpa : pa = f.pc - 1) : Mth 113 g [] f 25 pa TU0 (doV 25 f) 25 pa := by
  obtain ⟨code, inp, st, mem, pc, gas, sd, er, out⟩ := f
  have hst : st.length ≤ 256 := h.st
  obtain ⟨a, s, rfl⟩ := one_of (show 1 ≤ st.length from h.tk)
  exact to_reck (m_not rfl (h.num a (by simp)) (Nat.le_trans hst (by decide))) (by decide) (by decide) (by simp [reckV, tp]) (by rfl)
theorem do_26 {g : Nat} {f : Fr} {pa : Int} (h : Rdy 26 f) (hpa : pa = f.pc - 1) : Mth 114 g [] f 26 pa TU0 (doV 26 f) 26 pa := by
  obtain ⟨code, inp, st, mem, pc, gas, sd, er, out⟩ := f
  have hst : st.length ≤ 256 := h.st
  obtain ⟨a, b, s, rfl⟩ := two_of (show 2 ≤ st.length from h.tk)
  exact to_reck (m_byte rfl (h.num a (by simp)) (h.num b (by simp)) (Nat.le_trans hst (by decide))) (by decide) (by decide) (by simp [reckV, tp]) (by rfl)
theorem do_27 {g : Nat} {f : Fr} {pa : Int} (h : Rdy 27 f) (hpa : pa = f.pc - 1) : Mth 115 g [] f 27 pa TU0 (doV 27 f) 27 pa := by
  obtain ⟨code, inp, st, mem, pc, gas, sd, er, out⟩ := f
  have hst : st.length ≤ 256 := h.st
  obtain ⟨a, b, s, rfl⟩ := two_of (show 2 ≤ st.length from h.tk)
  exact to_reck (m_shl rfl (h.num a (by simp)) (h.num b (by simp)) (Nat.le_trans hst (by decide))) (by decide) (by decide) (by simp [reckV, tp]) (by rfl)
theorem do_28 {g : Nat} {f : Fr} {pa : Int} (h : Rdy 28 f) (hpa : pa = f.pc - 1) : Mth 116 g [] f 28 pa TU0 (doV 28 f) 28 pa := by
  obtain ⟨code, inp, st, mem, pc, gas, sd, er, out⟩ := f
  have hst : st.length ≤ 256 := h.st
  obtain ⟨a, b, s, rfl⟩ := two_of (show 2 ≤ st.length from h.tk)
  exact to_reck (m_shr rfl (h.num a (by simp)) (h.num b (by simp)) (Nat.le_trans hst (by decide))) (by decide) (by decide) (by simp [reckV, tp]) (by rfl)
theorem do_29 {g : Nat} {f : Fr} {pa : Int} (h : Rdy 29 f) (hpa : pa = f.pc - 1) : Mth 117 g [] f 29 pa TU0 (doV 29 f) 29 pa := by
  obtain ⟨code, inp, st, mem, pc, gas, sd, er, out⟩ := f
  have hst : st.length ≤ 256 := h.st
  obtain ⟨a, b, s, rfl⟩ := two_of (show 2 ≤ st.length from h.tk)
  exact to_reck (m_sar rfl (h.num a (by simp)) (h.num b (by simp)) (Nat.le_trans hst (by decide))) (by decide) (by decide) (by simp [reckV, tp]) (by rfl)
theorem do_32 {g : Nat} {f : Fr} {pa : Int} (h : Rdy 32 f) (hpa : pa = f.pc - 1) : Mth 118 g [] f 32 pa TU0 (doV 32 f) 32 pa := by
  obtain ⟨code, inp, st, mem, pc, gas, sd, er, out⟩ := f
  have hst : st.length ≤ 256 := h.st
  obtain ⟨a, b, s, rfl⟩ := two_of (show 2 ≤ st.length from h.tk)
  exact (m_kec rfl (h.num a (by simp)) (h.num b (by simp)) (Nat.le_trans hst (by decide)) h.mem (h.m1 (.inl rfl))).to (by kernel_rfl)
theorem do_53 {g : Nat} {f : Fr} {pa : Int} (h : Rdy 53 f) (hpa : pa = f.pc - 1) : Mth 119 g [] f 53 pa TU0 (doV 53 f) 53 pa := by
  obtain ⟨code, inp, st, mem, pc, gas, sd, er, out⟩ := f
  have hst : st.length ≤ 256 := h.st
  obtain ⟨a, s, rfl⟩ := one_of (show 1 ≤ st.length from h.tk)
  exact (m_iload rfl (h.num a (by simp)) (Nat.le_trans hst (by decide)) (Nat.le_trans h.inp (by decide))).to (by kernel_rfl)
theorem do_54 {g : Nat} {f : Fr} {pa : Int} (h : Rdy 54 f) (hpa : pa = f.pc - 1) : Mth 120 g [] f 54 pa TU0 (doV 54 f) 54 pa := by
  obtain ⟨code, inp, st, mem, pc, gas, sd, er, out⟩ := f
  have hst : st.length ≤ 256 := h.st
  exact (m_isize (Nat.le_trans h.inp (by decide)) (Nat.le_trans hst (by decide))).to (by kernel_rfl)
theorem do_55 {g : Nat} {f : Fr} {pa : Int} (h : Rdy 55 f) (hpa : pa = f.pc - 1) : Mth 121 g [] f 55 pa TU0 (doV 55 f) 55 pa := by
  obtain ⟨code, inp, st, mem, pc, gas, sd, er, out⟩ := f
  have hst : st.length ≤ 256 := h.st
  obtain ⟨a, b, c, s, rfl⟩ := three_of (show 3 ≤ st.length from h.tk)
  exact (m_icopy rfl (h.num a (by simp)) (h.num b (by simp)) (h.num c (by simp)) (Nat.le_trans hst (by decide)) (Nat.le_trans h.inp (by decide)) h.mem (h.m2 (.inl rfl)).1 (h.m2 (.inl rfl)).2).to (by kernel_rfl)
theorem do_56 {g : Nat} {f : Fr} {pa : Int} (h : Rdy 56 f) (hpa : pa = f.pc - 1) : Mth 122 g [] f 56 pa TU0 (doV 56 f) 56 pa := by
  obtain ⟨code, inp, st, mem, pc, gas, sd, er, out⟩ := f
  have hst : st.length ≤ 256 := h.st
  exact (m_csize (Nat.le_trans h.code (by decide)) (Nat.le_trans hst (by decide))).to (by kernel_rfl)
theorem do_57 {g : Nat} {f : Fr} {pa : Int} (h : Rdy 57 f) (hpa : pa = f.pc - 1) : Mth 123 g [] f 57 pa TU0 (doV 57 f) 57 pa := by
  obtain ⟨code, inp, st, mem, pc, gas, sd, er, out⟩ := f
  have hst : st.length ≤ 256 := h.st
  obtain ⟨a, b, c, s, rfl⟩ := three_of (show 3 ≤ st.length from h.tk)
  exact (m_ccopy rfl (h.num a (by simp)) (h.num b (by simp)) (h.num c (by simp)) (Nat.le_trans hst (by decide)) (Nat.le_trans h.code (by decide)) h.mem (h.m2 (.inr rfl)).1 (h.m2 (.inr rfl)).2).to (by kernel_rfl)
theorem do_80 {g : Nat} {f : Fr} {pa : Int} (h : Rdy 80 f) (hpa : pa = f.pc - 1) : Mth 124 g [] f 80 pa TU0 (doV 80 f) 80 pa := by
  obtain ⟨code, inp, st, mem, pc, gas, sd, er, out⟩ := f
  have hst : st.length ≤ 256 := h.st
  obtain ⟨a, s, rfl⟩ := one_of (show 1 ≤ st.length from h.tk)
  exact (m_pop rfl (h.num a (by simp)) (Nat.le_trans hst (by decide))).to (by kernel_rfl)
theorem do_81 {g : Nat} {f : Fr} {pa : Int} (h : Rdy 81 f) (hpa : pa = f.pc - 1) : Mth 125 g [] f 81 pa TU0 (doV 81 f) 81 pa := by
  obtain ⟨code, inp, st, mem, pc, gas, sd, er, out⟩ := f
  have hst : st.length ≤ 256 := h.st
  obtain ⟨a, s, rfl⟩ := one_of (show 1 ≤ st.length from h.tk)
  exact (m_load rfl (h.num a (by simp)) (Nat.le_trans hst (by decide)) h.mem).to (by kernel_rfl)
theorem do_82 {g : Nat} {f : Fr} {pa : Int} (h : Rdy 82 f) (hpa : pa = f.pc - 1) : Mth 126 g [] f 82 pa TU0 (doV 82 f) 82 pa := by
  obtain ⟨code, inp, st, mem, pc, gas, sd, er, out⟩ := f
  have hst : st.length ≤ 256 := h.st
  obtain ⟨a, b, s, rfl⟩ := two_of (show 2 ≤ st.length from h.tk)
  exact (m_store rfl (h.num a (by simp)) (h.num b (by simp)) (Nat.le_trans hst (by decide)) (h.m3 (.inl rfl)) h.mem).to (by kernel_rfl)
theorem do_83 {g : Nat} {f : Fr} {pa : Int} (h : Rdy 83 f) (hpa : pa = f.pc - 1) : Mth 127 g [] f 83 pa TU0 (doV 83 f) 83 pa := by
  obtain ⟨code, inp, st, mem, pc, gas, sd, er, out⟩ := f
  have hst : st.length ≤ 256 := h.st
  obtain ⟨a, b, s, rfl⟩ := two_of (show 2 ≤ st.length from h.tk)
  exact (m_store8 rfl (h.num a (by simp)) (h.num b (by simp)) (Nat.le_trans hst (by decide)) (h.m3 (.inr (.inl rfl))) h.mem).to (by kernel_rfl)
theorem do_86 {g : Nat} {f : Fr} {pa : Int} (h : Rdy 86 f) (hpa : pa = f.pc - 1) : Mth 128 g [] f 86 pa TU0 (doV 86 f) 86 pa := by
  obtain ⟨code, inp, st, mem, pc, gas, sd, er, out⟩ := f
  have hst : st.length ≤ 256 := h.st
  obtain ⟨a, s, rfl⟩ := one_of (show 1 ≤ st.length from h.tk)
  exact (m_jump rfl (h.num a (by simp)) (Nat.le_trans hst (by decide)) (h.m3 (.inr (.inr rfl)))).to (by kernel_rfl)
theorem do_87 {g : Nat} {f : Fr} {pa : Int} (h : Rdy 87 f) (hpa : pa = f.pc - 1) : Mth 129 g [] f 87 pa TU0 (doV 87 f) 87 pa := by
  obtain ⟨code, inp, st, mem, pc, gas, sd, er, out⟩ := f
  have hst : st.length ≤ 256 := h.st
  obtain ⟨a, b, s, rfl⟩ := two_of (show 2 ≤ st.length from h.tk)
  exact (m_jumpi rfl (h.num a (by simp)) (h.num b (by simp)) (Nat.le_trans hst (by decide)) (h.m4 rfl)).to (by kernel_rfl)
theorem do_88 {g : Nat} {f : Fr} {pa : Int} (h : Rdy 88 f) (hpa : pa = f.pc - 1) : Mth 130 g [] f 88 pa TU0 (doV 88 f) 88 pa := by
  obtain ⟨code, inp, st, mem, pc, gas, sd, er, out⟩ := f
  have hst : st.length ≤ 256 := h.st
  have p0 : 1 ≤ pc := h.pc0
  have p1 : pc ≤ 1000000 := h.pc1
  obtain ⟨p, hp⟩ : ∃ p : Nat, pc - 1 = p := ⟨(pc - 1).toNat, (Int.toNat_of_nonneg (by omega)).symm⟩
  have e : pa = (p : Int) := hpa.trans hp
  subst e
  refine (m_place (p := p) (by omega) (Nat.le_trans hst (by decide))).to ?_
  have e2 : (pc - 1).toNat = p := by rw [hp]; rfl
  show _ = (Fr.mk code inp ((pc - 1).toNat :: st) mem pc gas sd er out)
  rw [e2]
theorem do_89 {g : Nat} {f : Fr} {pa : Int} (h : Rdy 89 f) (hpa : pa = f.pc - 1) : Mth 131 g [] f 89 pa TU0 (doV 89 f) 89 pa := by
  obtain ⟨code, inp, st, mem, pc, gas, sd, er, out⟩ := f
  have hst : st.length ≤ 256 := h.st
  exact (m_msize h.mem (Nat.le_trans hst (by decide))).to (by kernel_rfl)
theorem do_90 {g : Nat} {f : Fr} {pa : Int} (h : Rdy 90 f) (hpa : pa = f.pc - 1) : Mth 132 g [] f 90 pa TU0 (doV 90 f) 90 pa := by
  obtain ⟨code, inp, st, mem, pc, gas, sd, er, out⟩ := f
  have hst : st.length ≤ 256 := h.st
  exact (m_gas h.gas0 (Int.le_trans h.gas1 (by decide)) (Nat.le_trans hst (by decide))).to (by kernel_rfl)
theorem do_91 {g : Nat} {f : Fr} {pa : Int} (h : Rdy 91 f) (hpa : pa = f.pc - 1) : Mth 133 g [] f 91 pa TU0 (doV 91 f) 91 pa := by
  obtain ⟨code, inp, st, mem, pc, gas, sd, er, out⟩ := f
  have hst : st.length ≤ 256 := h.st
  exact m_dest.to (by kernel_rfl)
theorem do_243 {g : Nat} {f : Fr} {pa : Int} (h : Rdy 243 f) (hpa : pa = f.pc - 1) : Mth 64 g [] f 243 pa TU0 (doV 243 f) 243 pa := by
  obtain ⟨code, inp, st, mem, pc, gas, sd, er, out⟩ := f
  have hst : st.length ≤ 256 := h.st
  obtain ⟨a, b, s, rfl⟩ := two_of (show 2 ≤ st.length from h.tk)
  exact (m_out rfl (h.num a (by simp)) (h.num b (by simp)) (Nat.le_trans hst (by decide)) h.mem (h.m1 (.inr (.inl rfl)))).to (by kernel_rfl)
theorem do_253 {g : Nat} {f : Fr} {pa : Int} (h : Rdy 253 f) (hpa : pa = f.pc - 1) : Mth 65 g [] f 253 pa TU0 (doV 253 f) 253 pa := by
  obtain ⟨code, inp, st, mem, pc, gas, sd, er, out⟩ := f
  have hst : st.length ≤ 256 := h.st
  obtain ⟨a, b, s, rfl⟩ := two_of (show 2 ≤ st.length from h.tk)
  exact (m_back rfl (h.num a (by simp)) (h.num b (by simp)) (Nat.le_trans hst (by decide)) h.mem (h.m1 (.inr (.inr rfl)))).to (by kernel_rfl)
theorem opP_push {n : Nat} (h1 : 95 ≤ n) (h2 : n ≤ 127) : (opP n).2.1 = 0 ∧ (opP n).2.2.1 = 1 := by
  have : ∀ k : Fin 33, (opP (95 + k.val)).2.1 = 0 ∧ (opP (95 + k.val)).2.2.1 = 1 := by decide +kernel
  have := this ⟨n - 95, by omega⟩
  simpa [show 95 + (n - 95) = n by omega] using this
theorem opP_dup {n : Nat} (h1 : 128 ≤ n) (h2 : n ≤ 143) : (opP n).2.1 = n - 127 ∧ (opP n).2.2.1 = n - 126 := by
  have : ∀ k : Fin 16, (opP (128 + k.val)).2.1 = k.val + 1 ∧ (opP (128 + k.val)).2.2.1 = k.val + 2 := by decide +kernel
  have := this ⟨n - 128, by omega⟩
  simp only [show 128 + (n - 128) = n by omega] at this
  omega
theorem opP_swap {n : Nat} (h1 : 144 ≤ n) (h2 : n ≤ 159) : (opP n).2.1 = n - 142 ∧ (opP n).2.2.1 = n - 142 := by
  have : ∀ k : Fin 16, (opP (144 + k.val)).2.1 = k.val + 2 ∧ (opP (144 + k.val)).2.2.1 = k.val + 2 := by decide +kernel
  have := this ⟨n - 144, by omega⟩
  simp only [show 144 + (n - 144) = n by omega] at this
  omega
theorem do_r0 {g : Nat} {f : Fr} {op : Nat} {pa : Int} (h1 : 95 ≤ op) (h2 : op ≤ 127) (h : Rdy op f) : Mth 61 g [] f op pa TU0 (doV op f) op pa := by
  refine (m_push h1 (by omega) (Nat.le_trans h.code (by decide)) (Int.le_trans (by decide) h.pc0) h.pc1 (Nat.le_trans h.st (by decide))).to ?_
  unfold doV
  repeat rw [if_neg (by omega)]
  rw [if_pos (by omega)]
theorem do_r1 {g : Nat} {f : Fr} {op : Nat} {pa : Int} (h1 : 128 ≤ op) (h2 : op ≤ 143) (h : Rdy op f) : Mth 62 g [] f op pa TU0 (doV op f) op pa := by
  have ht := h.tk
  rw [(opP_dup h1 h2).1] at ht
  refine (m_dup h1 (by omega) (by omega) (Nat.le_trans h.st (by decide))).to ?_
  unfold doV
  repeat rw [if_neg (by omega)]
  rw [if_pos (by omega)]
theorem do_r2 {g : Nat} {f : Fr} {op : Nat} {pa : Int} (h1 : 144 ≤ op) (h2 : op ≤ 159) (h : Rdy op f) : Mth 63 g [] f op pa TU0 (doV op f) op pa := by
  have ht := h.tk
  rw [(opP_swap h1 h2).1] at ht
  refine (m_swap h1 (by omega) (by omega) (Nat.le_trans h.st (by decide))).to ?_
  unfold doV
  repeat rw [if_neg (by omega)]
  rw [if_pos (by omega)]
theorem do_any {g : Nat} {f : Fr} {op : Nat} {pa : Int} (ho : isOp op = true) (h : Rdy op f) (hpa : pa = f.pc - 1) : ∃ F : Func, Tryz.prog.funcs[mF op]? = some F ∧ F.body.isNone = false ∧ (F.name == "runtime.NumGoroutine") = false ∧ Mth (mF op) g [] f op pa TU0 (doV op f) op pa := by
  have hr : ∀ lo hi fn, lo ≤ op → op ≤ hi → ((lo = 95 ∧ hi = 127 ∧ fn = 61) ∨ (lo = 128 ∧ hi = 143 ∧ fn = 62) ∨ (lo = 144 ∧ hi = 159 ∧ fn = 63)) → mF op = fn := by
    intro lo hi fn h1 h2 h3
    unfold mF
    rcases h3 with ⟨rfl, rfl, rfl⟩ | ⟨rfl, rfl, rfl⟩ | ⟨rfl, rfl, rfl⟩ <;> (repeat rw [if_neg (by omega)]) <;> rw [if_pos (by omega)]
  rcases isOp_cases ho with rfl | rfl | rfl | rfl | rfl | rfl | rfl | rfl | rfl | rfl | rfl | rfl | rfl | rfl | rfl | rfl | rfl | rfl | rfl | rfl | rfl | rfl | rfl | rfl | rfl | rfl | rfl | rfl | rfl | rfl | rfl | rfl | rfl | rfl | rfl | rfl | rfl | rfl | rfl | rfl | rfl | rfl | h1 | h1 | h1 | rfl | rfl
  · exact ⟨_, Tryz.func92, by kernel_rfl, by kernel_rfl, do_0 h hpa⟩
  · exact ⟨_, Tryz.func93, by kernel_rfl, by kernel_rfl, do_1 h hpa⟩
  · exact ⟨_, Tryz.func94, by kernel_rfl, by kernel_rfl, do_2 h hpa⟩
  · exact ⟨_, Tryz.func95, by kernel_rfl, by kernel_rfl, do_3 h hpa⟩
  · exact ⟨_, Tryz.func96, by kernel_rfl, by kernel_rfl, do_4 h hpa⟩
  · exact ⟨_, Tryz.func97, by kernel_rfl, by kernel_rfl, do_5 h hpa⟩
  · exact ⟨_, Tryz.func98, by kernel_rfl, by kernel_rfl, do_6 h hpa⟩
  · exact ⟨_, Tryz.func99, by kernel_rfl, by kernel_rfl, do_7 h hpa⟩
  · exact ⟨_, Tryz.func100, by kernel_rfl, by kernel_rfl, do_8 h hpa⟩
  · exact ⟨_, Tryz.func101, by kernel_rfl, by kernel_rfl, do_9 h hpa⟩
  · exact ⟨_, Tryz.func102, by kernel_rfl, by kernel_rfl, do_10 h hpa⟩
  · exact ⟨_, Tryz.func103, by kernel_rfl, by kernel_rfl, do_11 h hpa⟩
  · exact ⟨_, Tryz.func104, by kernel_rfl, by kernel_rfl, do_16 h hpa⟩
  · exact ⟨_, Tryz.func105, by kernel_rfl, by kernel_rfl, do_17 h hpa⟩
  · exact ⟨_, Tryz.func106, by kernel_rfl, by kernel_rfl, do_18 h hpa⟩
  · exact ⟨_, Tryz.func107, by kernel_rfl, by kernel_rfl, do_19 h hpa⟩
  · exact ⟨_, Tryz.func108, by kernel_rfl, by kernel_rfl, do_20 h hpa⟩
  · exact ⟨_, Tryz.func109, by kernel_rfl, by kernel_rfl, do_21 h hpa⟩
  · exact ⟨_, Tryz.func110, by kernel_rfl, by kernel_rfl, do_22 h hpa⟩
  · exact ⟨_, Tryz.func111, by kernel_rfl, by kernel_rfl, do_23 h hpa⟩
  · exact ⟨_, Tryz.func112, by kernel_rfl, by kernel_rfl, do_24 h hpa⟩
  · exact ⟨_, Tryz.func113, by kernel_rfl, by kernel_rfl, do_25 h hpa⟩
  · exact ⟨_, Tryz.func114, by kernel_rfl, by kernel_rfl, do_26 h hpa⟩
  · exact ⟨_, Tryz.func115, by kernel_rfl, by kernel_rfl, do_27 h hpa⟩
  · exact ⟨_, Tryz.func116, by kernel_rfl, by kernel_rfl, do_28 h hpa⟩
  · exact ⟨_, Tryz.func117, by kernel_rfl, by kernel_rfl, do_29 h hpa⟩
  · exact ⟨_, Tryz.func118, by kernel_rfl, by kernel_rfl, do_32 h hpa⟩
  · exact ⟨_, Tryz.func119, by kernel_rfl, by kernel_rfl, do_53 h hpa⟩
  · exact ⟨_, Tryz.func120, by kernel_rfl, by kernel_rfl, do_54 h hpa⟩
  · exact ⟨_, Tryz.func121, by kernel_rfl, by kernel_rfl, do_55 h hpa⟩
  · exact ⟨_, Tryz.func122, by kernel_rfl, by kernel_rfl, do_56 h hpa⟩
  · exact ⟨_, Tryz.func123, by kernel_rfl, by kernel_rfl, do_57 h hpa⟩
  · exact ⟨_, Tryz.func124, by kernel_rfl, by kernel_rfl, do_80 h hpa⟩
  · exact ⟨_, Tryz.func125, by kernel_rfl, by kernel_rfl, do_81 h hpa⟩
  · exact ⟨_, Tryz.func126, by kernel_rfl, by kernel_rfl, do_82 h hpa⟩
  · exact ⟨_, Tryz.func127, by kernel_rfl, by kernel_rfl, do_83 h hpa⟩
  · exact ⟨_, Tryz.func128, by kernel_rfl, by kernel_rfl, do_86 h hpa⟩
  · exact ⟨_, Tryz.func129, by kernel_rfl, by kernel_rfl, do_87 h hpa⟩
  · exact ⟨_, Tryz.func130, by kernel_rfl, by kernel_rfl, do_88 h hpa⟩
  · exact ⟨_, Tryz.func131, by kernel_rfl, by kernel_rfl, do_89 h hpa⟩
  · exact ⟨_, Tryz.func132, by kernel_rfl, by kernel_rfl, do_90 h hpa⟩
  · exact ⟨_, Tryz.func133, by kernel_rfl, by kernel_rfl, do_91 h hpa⟩
  · rw [hr 95 127 61 h1.1 h1.2 (by decide)]; exact ⟨_, Tryz.func61, by kernel_rfl, by kernel_rfl, do_r0 h1.1 h1.2 h⟩
  · rw [hr 128 143 62 h1.1 h1.2 (by decide)]; exact ⟨_, Tryz.func62, by kernel_rfl, by kernel_rfl, do_r1 h1.1 h1.2 h⟩
  · rw [hr 144 159 63 h1.1 h1.2 (by decide)]; exact ⟨_, Tryz.func63, by kernel_rfl, by kernel_rfl, do_r2 h1.1 h1.2 h⟩
  · exact ⟨_, Tryz.func64, by kernel_rfl, by kernel_rfl, do_243 h hpa⟩
  · exact ⟨_, Tryz.func65, by kernel_rfl, by kernel_rfl, do_253 h hpa⟩
end Go.Proofs.YtceedgdbhlpjlaaGreatDoor
