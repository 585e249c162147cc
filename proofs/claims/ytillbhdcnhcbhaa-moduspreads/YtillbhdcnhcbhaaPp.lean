/- Powers: the program's and the document's, by numbers. -/
import Derived.Lib.ItoaNum
import Derived.Test.YtillbhdcnhcbhaaPo
import Derived.Lib.QuietBelow
import Derived.BigQuiet
namespace Go.Proofs.Ytillbhdcnhcbhaa
open Go.RowKit Go.Sort
set_option linter.unusedVariables false
attribute [local go_sem] run_eq4 run_eqU_same

set_option maxRecDepth 100000 in
set_option maxHeartbeats 4000000 in
theorem trivial_raw (m nb : Nat)
    (c1 : Hid (∀ w, Calls Try.prog 48 #[U m] w fun e w' => e = .returned (.int .i64 (nb : Nat)) ∧ Below w.heap.size w w')) (w : World) :
    Calls Try.prog 34 #[U m] w fun e w' => e = .returned (.bool (decide ((nb : Int) ≤ 1))) ∧ Below w.heap.size w w' := by
  go_enter Try.func34, Try.ntmps34
  go_wp2_with fail
  refine (c1.out _).mono ?_
  rintro e w1 ⟨rfl, hb1⟩
  have B1 : Hid (Below w.heap.size w w1) := bel_call (by (repeat (first | exact Below.refl _ _ | refine bel_alloc ?_ _))) hb1
  clear hb1
  go_wp2
  go_ret
  exact ⟨rfl, B1.out⟩

set_option maxRecDepth 100000 in
set_option maxHeartbeats 4000000 in
theorem exp_raw (a n x : Nat)
    (cp : Hid (∀ w, Calls Try.prog 41 #[U a, U n, Value.func (Fn.func 42) #[] #[]] w fun e w' => e = .returned (U x) ∧ Below w.heap.size w w')) (w : World) :
    Calls Try.prog 20 #[U a, U n] w fun e w' => e = .returned (U x) ∧ Below w.heap.size w w' := by
  go_enter Try.func20, Try.ntmps20
  go_wp2_with fail
  refine (cp.out _).mono ?_
  rintro e w1 ⟨rfl, hb1⟩
  have R1 : Hid (HasRow w1 (w.heap.size + 1 + 1) #[.int .u64 0, .int .u64 0, .int .u64 0, .int .u64 0]) := (HasRow.last (by simp)).below hb1
  have B1 : Hid (Below w.heap.size w w1) := bel_call (by (repeat (first | exact Below.refl _ _ | refine bel_alloc ?_ _))) hb1
  clear hb1
  have g0 : w1.cell? ⟨w.heap.size + 1 + 1, 0, none⟩ = some (.int .u64 0) := R1.out.cell 0
  have g1 : w1.cell? ⟨w.heap.size + 1 + 1, 1, none⟩ = some (.int .u64 0) := R1.out.cell 1
  have g2 : w1.cell? ⟨w.heap.size + 1 + 1, 2, none⟩ = some (.int .u64 0) := R1.out.cell 2
  have g3 : w1.cell? ⟨w.heap.size + 1 + 1, 3, none⟩ = some (.int .u64 0) := R1.out.cell 3
  have gz0 := R1.out.frozen 0
  have gz1 := R1.out.frozen 1
  have gz2 := R1.out.frozen 2
  have gz3 := R1.out.frozen 3
  have gq := R1.out.lt
  go_wp2
  rw [set4 R1.out rfl]
  exact bodyPost_ret (v := U x) (results_cell1 (p := 4) (ty := 24) rfl (g := w.heap.size + 1 + 1) rfl (R1.out.set_same _) rfl Try.underlying24 (by kernel_rfl)) rfl ⟨rfl, below_setRow B1.out (by omega) _⟩

set_option maxRecDepth 100000 in
set_option maxHeartbeats 4000000 in
theorem clo_raw (x y m z bm : Nat) (c : Hid (∀ w, Calls Try.prog 18 #[U x, U y, U m] w fun e w' => e = .returned (U z) ∧ Below w.heap.size w w')) (w : World) (hR : HasRow w bm #[B (l0 m), B (l1 m), B (l2 m), B (l3 m)]) :
    Calls Try.prog 45 #[U x, U y, .pointer (some ⟨bm, 0, none⟩)] w fun e w' => e = .returned (U z) ∧ Below w.heap.size w w' := by
  have k0 : w.cell? ⟨bm, 0, none⟩ = some (B (l0 m)) := hR.cell 0
  have k1 : w.cell? ⟨bm, 1, none⟩ = some (B (l1 m)) := hR.cell 1
  have k2 : w.cell? ⟨bm, 2, none⟩ = some (B (l2 m)) := hR.cell 2
  have k3 : w.cell? ⟨bm, 3, none⟩ = some (B (l3 m)) := hR.cell 3
  have kq := hR.lt
  have kn0 : ¬ bm = w.heap.size := by omega
  have kn1 : ¬ bm = w.heap.size + 1 := by omega
  have kn2 : ¬ bm = w.heap.size + 1 + 1 := by omega
  have kq1 : bm < w.heap.size + 1 := by omega
  have kq2 : bm < w.heap.size + 1 + 1 := by omega
  clear hR
  go_enter Try.func45, Try.ntmps45
  go_wp2_with fail
  refine (c.out _).mono ?_
  rintro e w1 ⟨rfl, hb1⟩
  have R1 : Hid (HasRow w1 (w.heap.size + 1 + 1) #[.int .u64 0, .int .u64 0, .int .u64 0, .int .u64 0]) := (HasRow.last (by simp)).below hb1
  have B1 : Hid (Below w.heap.size w w1) := bel_call (by (repeat (first | exact Below.refl _ _ | refine bel_alloc ?_ _))) hb1
  clear hb1
  have g0 : w1.cell? ⟨w.heap.size + 1 + 1, 0, none⟩ = some (.int .u64 0) := R1.out.cell 0
  have g1 : w1.cell? ⟨w.heap.size + 1 + 1, 1, none⟩ = some (.int .u64 0) := R1.out.cell 1
  have g2 : w1.cell? ⟨w.heap.size + 1 + 1, 2, none⟩ = some (.int .u64 0) := R1.out.cell 2
  have g3 : w1.cell? ⟨w.heap.size + 1 + 1, 3, none⟩ = some (.int .u64 0) := R1.out.cell 3
  have gz0 := R1.out.frozen 0
  have gz1 := R1.out.frozen 1
  have gz2 := R1.out.frozen 2
  have gz3 := R1.out.frozen 3
  have gq := R1.out.lt
  go_wp2
  rw [set4 R1.out rfl]
  exact bodyPost_ret (v := U z) (results_cell1 (p := 5) (ty := 24) rfl (g := w.heap.size + 1 + 1) rfl (R1.out.set_same _) rfl Try.underlying24 (by kernel_rfl)) rfl ⟨rfl, below_setRow B1.out (by omega) _⟩

set_option maxRecDepth 100000 in
set_option maxHeartbeats 4000000 in
theorem pow_raw (a n m x : Nat) (c1 : Hid (∀ w, Calls Try.prog 34 #[U m] w fun e w' => e = .returned (.bool false) ∧ Below w.heap.size w w')) (w : World)
    (cp : Hid (∀ w', HasRow w' (w.heap.size + 1 + 1) #[B (l0 m), B (l1 m), B (l2 m), B (l3 m)] → Calls Try.prog 41 #[U a, U n, Value.func (Fn.func 45) #[] #[.pointer (some ⟨w.heap.size + 1 + 1, 0, none⟩)]] w' fun e w'' => e = .returned (U x) ∧ Below w'.heap.size w' w'')) :
    Calls Try.prog 22 #[U a, U n, U m] w fun e w' => e = .returned (U x) ∧ Below w.heap.size w w' := by
  go_enter Try.func22, Try.ntmps22
  go_wp2_with fail
  refine (c1.out _).mono ?_
  rintro e w1 ⟨rfl, hb1⟩
  have Ra : Hid (HasRow w1 (w.heap.size) #[B (l0 a), B (l1 a), B (l2 a), B (l3 a)]) := (HasRow.old (HasRow.old (HasRow.old (HasRow.last (by simp))))).below hb1
  have Rn : Hid (HasRow w1 (w.heap.size + 1) #[B (l0 n), B (l1 n), B (l2 n), B (l3 n)]) := (HasRow.old (HasRow.old (HasRow.last (by simp)))).below hb1
  have Rm : Hid (HasRow w1 (w.heap.size + 1 + 1) #[B (l0 m), B (l1 m), B (l2 m), B (l3 m)]) := (HasRow.old (HasRow.last (by simp))).below hb1
  have Rr : Hid (HasRow w1 (w.heap.size + 1 + 1 + 1) #[.int .u64 0, .int .u64 0, .int .u64 0, .int .u64 0]) := (HasRow.last (by simp)).below hb1
  have B1 : Hid (Below w.heap.size w w1) := bel_call (by (repeat (first | exact Below.refl _ _ | refine bel_alloc ?_ _))) hb1
  have a0 : w1.cell? ⟨w.heap.size, 0, none⟩ = some (B (l0 a)) := Ra.out.cell 0
  have a1 : w1.cell? ⟨w.heap.size, 1, none⟩ = some (B (l1 a)) := Ra.out.cell 1
  have a2 : w1.cell? ⟨w.heap.size, 2, none⟩ = some (B (l2 a)) := Ra.out.cell 2
  have a3 : w1.cell? ⟨w.heap.size, 3, none⟩ = some (B (l3 a)) := Ra.out.cell 3
  have n0 : w1.cell? ⟨w.heap.size + 1, 0, none⟩ = some (B (l0 n)) := Rn.out.cell 0
  have n1 : w1.cell? ⟨w.heap.size + 1, 1, none⟩ = some (B (l1 n)) := Rn.out.cell 1
  have n2 : w1.cell? ⟨w.heap.size + 1, 2, none⟩ = some (B (l2 n)) := Rn.out.cell 2
  have n3 : w1.cell? ⟨w.heap.size + 1, 3, none⟩ = some (B (l3 n)) := Rn.out.cell 3
  clear hb1
  go_wp2_with fail
  refine (cp.out _ Rm.out).mono ?_
  rintro e w2 ⟨rfl, hb2⟩
  have R2 : Hid (HasRow w2 (w.heap.size + 1 + 1 + 1) #[.int .u64 0, .int .u64 0, .int .u64 0, .int .u64 0]) := Rr.out.below hb2
  have B2 : Hid (Below w.heap.size w w2) := bel_call B1.out hb2
  clear hb2 Ra Rn Rm Rr B1 a0 a1 a2 a3 n0 n1 n2 n3
  have g0 : w2.cell? ⟨w.heap.size + 1 + 1 + 1, 0, none⟩ = some (.int .u64 0) := R2.out.cell 0
  have g1 : w2.cell? ⟨w.heap.size + 1 + 1 + 1, 1, none⟩ = some (.int .u64 0) := R2.out.cell 1
  have g2 : w2.cell? ⟨w.heap.size + 1 + 1 + 1, 2, none⟩ = some (.int .u64 0) := R2.out.cell 2
  have g3 : w2.cell? ⟨w.heap.size + 1 + 1 + 1, 3, none⟩ = some (.int .u64 0) := R2.out.cell 3
  have gz0 := R2.out.frozen 0
  have gz1 := R2.out.frozen 1
  have gz2 := R2.out.frozen 2
  have gz3 := R2.out.frozen 3
  have gq := R2.out.lt
  go_wp2
  rw [set4 R2.out rfl]
  exact bodyPost_ret (v := U x) (results_cell1 (p := 6) (ty := 24) rfl (g := w.heap.size + 1 + 1 + 1) rfl (R2.out.set_same _) rfl Try.underlying24 (by kernel_rfl)) rfl ⟨rfl, below_setRow B2.out (by omega) _⟩

set_option maxRecDepth 100000 in
set_option maxHeartbeats 4000000 in
theorem pow0_raw (a n m : Nat)
    (c1 : Hid (∀ w, Calls Try.prog 34 #[U m] w fun e w' => e = .returned (.bool true) ∧ Below w.heap.size w w')) (w : World) :
    Calls Try.prog 22 #[U a, U n, U m] w fun e w' => e = .returned (I4 0 0 0 0) ∧ Below w.heap.size w w' := by
  go_enter Try.func22, Try.ntmps22
  go_wp2_with fail
  refine (c1.out _).mono ?_
  rintro e w1 ⟨rfl, hb1⟩
  have R1 : Hid (HasRow w1 (w.heap.size + 1 + 1 + 1) #[.int .u64 0, .int .u64 0, .int .u64 0, .int .u64 0]) := (HasRow.last (by simp)).below hb1
  have B1 : Hid (Below w.heap.size w w1) := bel_call (by (repeat (first | exact Below.refl _ _ | refine bel_alloc ?_ _))) hb1
  clear hb1
  have g0 : w1.cell? ⟨w.heap.size + 1 + 1 + 1, 0, none⟩ = some (.int .u64 0) := R1.out.cell 0
  have g1 : w1.cell? ⟨w.heap.size + 1 + 1 + 1, 1, none⟩ = some (.int .u64 0) := R1.out.cell 1
  have g2 : w1.cell? ⟨w.heap.size + 1 + 1 + 1, 2, none⟩ = some (.int .u64 0) := R1.out.cell 2
  have g3 : w1.cell? ⟨w.heap.size + 1 + 1 + 1, 3, none⟩ = some (.int .u64 0) := R1.out.cell 3
  have gz0 := R1.out.frozen 0
  have gz1 := R1.out.frozen 1
  have gz2 := R1.out.frozen 2
  have gz3 := R1.out.frozen 3
  have gq := R1.out.lt
  go_wp2
  rw [set4 R1.out rfl]
  exact bodyPost_ret (v := I4 0 0 0 0) (results_cell1 (p := 6) (ty := 24) rfl (g := w.heap.size + 1 + 1 + 1) rfl (R1.out.set_same _) rfl Try.underlying24 (by kernel_rfl)) rfl ⟨rfl, below_setRow B1.out (by omega) _⟩

theorem lt_two_bits (n : Nat) (h : n < W) : n < 2 ^ bitsN n := by
  have key : ∀ x i : Nat, x = n / 2 ^ (64 * i) % M → x ≠ 0 → n < 2 ^ (64 * (i + 1)) → n < 2 ^ (64 * i + Lib.bitLen x) := by
    intro x i hx h0 hn
    have hM : M = 2 ^ 64 := by decide
    have h1 : n / 2 ^ (64 * i) < M := by
      rw [hM]
      refine Nat.div_lt_of_lt_mul ?_
      rw [← Nat.pow_add, show 64 * i + 64 = 64 * (i + 1) by omega]; exact hn
    rw [Nat.mod_eq_of_lt h1] at hx
    have hb := (Lib.bitLenAux_bounds 64 x (by rw [hx, ← hM]; exact h1) h0).2.2
    have hb' : n / 2 ^ (64 * i) < 2 ^ Lib.bitLen x := by rw [← hx]; exact hb
    rw [Nat.pow_add]
    rw [Nat.div_lt_iff_lt_mul (Nat.two_pow_pos _)] at hb'
    rwa [Nat.mul_comm]
  have down : ∀ i : Nat, n / 2 ^ (64 * i) % M = 0 → n < 2 ^ (64 * (i + 1)) → n < 2 ^ (64 * i) := by
    intro i h0 hn
    have hM : M = 2 ^ 64 := by decide
    have h1 : n / 2 ^ (64 * i) < M := by
      rw [hM]
      refine Nat.div_lt_of_lt_mul ?_
      rw [← Nat.pow_add, show 64 * i + 64 = 64 * (i + 1) by omega]; exact hn
    rw [Nat.mod_eq_of_lt h1] at h0
    rcases Nat.lt_or_ge n (2 ^ (64 * i)) with h | h
    · exact h
    · have := Nat.div_pos h (Nat.two_pow_pos _)
      omega
  have hW : n < 2 ^ (64 * 4) := by
    have : W = 2 ^ (64 * 4) := by decide +kernel
    rw [← this]; exact h
  unfold bitsN bits4
  by_cases h3 : l3 n = 0
  · rw [if_pos h3]
    have d3 := down 3 (by rw [← c_l3]; exact h3) hW
    by_cases h2 : l2 n = 0
    · rw [if_pos h2]
      have d2 := down 2 (by rw [← c_l2]; exact h2) d3
      by_cases h1 : l1 n = 0
      · rw [if_pos h1]
        have d1 := down 1 (by rw [← c_l1]; exact h1) d2
        by_cases h0 : l0 n = 0
        · rw [if_pos h0]
          exact down 0 (by rw [← c_l0]; exact h0) d1
        · rw [if_neg h0]
          have := key (l0 n) 0 (c_l0 n) h0 d1
          rwa [Nat.mul_zero, Nat.zero_add] at this
      · rw [if_neg h1]; exact key (l1 n) 1 (c_l1 n) h1 d2
    · rw [if_neg h2]; exact key (l2 n) 2 (c_l2 n) h2 d3
  · rw [if_neg h3]; exact key (l3 n) 3 (c_l3 n) h3 hW
theorem bits_one (n : Nat) (h : n < W) : ((bitsN n : Int) ≤ 1) ↔ n ≤ 1 := by
  constructor
  · intro h1
    have h2 := lt_two_bits n h
    have h3 : 2 ^ bitsN n ≤ 2 ^ 1 := Nat.pow_le_pow_right (by decide) (by omega)
    omega
  · intro h1
    have := bitsN_le n 1 (by omega)
    omega
theorem bits_256 (n : Nat) (h : n < W) : bitsN n ≤ 256 := by
  have hW : W = 2 ^ 256 := by decide +kernel
  exact bitsN_le n 256 (by rw [← hW]; exact h)
def PE (a n m t : Nat) : Nat := rm (a ^ (n / 2 ^ t)) m
def PQ (a n m t : Nat) : Nat := rm (a ^ (2 * (n / 2 ^ (t + 1)))) m
theorem PE_top (a n m : Nat) (h : n < W) : PE a n m (bitsN n) = rm 1 m := by
  unfold PE; rw [Nat.div_eq_of_lt (lt_two_bits n h), Nat.pow_zero]
theorem PE_zero (a n m : Nat) : PE a n m 0 = rm (a ^ n) m := by unfold PE; rw [Nat.pow_zero, Nat.div_one]
theorem PE_sq (a n m t : Nat) : rm (PE a n m (t + 1) * PE a n m (t + 1)) m = PQ a n m t := pw_sq _ _ _
theorem PE_odd (a n m t : Nat) (h : n / 2 ^ t % 2 = 1) : rm (PQ a n m t * a) m = PE a n m t := by
  unfold PQ PE
  rw [pw_odd, half_step n t, h]
theorem PE_even (a n m t : Nat) (h : n / 2 ^ t % 2 = 0) : PQ a n m t = PE a n m t := by
  unfold PQ PE
  have e := half_step n t
  rw [h, Nat.add_zero] at e
  rw [e]
theorem PE_lt (a n t : Nat) {m : Nat} (h : m < W) : PE a n m t < W := rm_lt _ h
theorem PQ_lt (a n t : Nat) {m : Nat} (h : m < W) : PQ a n m t < W := rm_lt _ h
theorem PE_ltW (a n t : Nat) : PE a n W t < W := by unfold PE; rw [rm_W]; exact Nat.mod_lt _ W_pos
theorem PQ_ltW (a n t : Nat) : PQ a n W t < W := by unfold PQ; rw [rm_W]; exact Nat.mod_lt _ W_pos
theorem trivial_any (m : Nat) (h : m < W) (w : World) : Calls Try.prog 34 #[U m] w fun e w' => e = .returned (.bool (decide (m ≤ 1))) ∧ Below w.heap.size w w' := by
  have h1 := trivial_raw m (bitsN m) (bits_any m) w
  rw [decide_eq_decide.2 (bits_one m h)] at h1
  exact h1

theorem exp_any (a n : Nat) (ha : a < W) (hn : n < W) (w : World) : Calls Try.prog 20 #[U a, U n] w fun e w' => e = .returned (U (rm (a ^ n) W)) ∧ Below w.heap.size w w' := by
  refine exp_raw a n _ (fun w => ?_) w
  rw [← PE_zero]
  refine power_exp_raw a n (bitsN n) (PE a n W) (PQ a n W) (bits_256 n hn) w (fun w => ?_) (bits_any n) (fun p hp w => ?_) (fun p hp hb w => ?_) (fun p hp hb => PE_even a n W p hb)
  · have h := of_any 1 (by decide) w
    rw [PE_top a n W hn, rm_W, Nat.mod_eq_of_lt (by decide +kernel)]
    exact h
  · have h := mul_any (PE a n W (p + 1)) (PE a n W (p + 1)) (PE_ltW _ _ _) (PE_ltW _ _ _) w
    rw [← rm_W, PE_sq] at h
    exact h
  · have h := mul_any (PQ a n W p) a (PQ_ltW _ _ _) ha w
    rw [← rm_W, PE_odd _ _ _ _ hb] at h
    exact h
theorem rexp_any (a n : Nat) (ha : a < W) (hn : n < W) (w : World) : Calls Try.prog 21 #[U a, U n] w fun e w' => e = .returned (U (rm (a ^ n) W)) ∧ Below w.heap.size w w' := by
  rw [← PE_zero]
  refine rexp_raw a n (bitsN n) (PE a n W) (PQ a n W) (bits_256 n hn) w ?_ (rbits_any n) (fun p hp w => ?_) (fun p hp hb w => ?_) (fun p hp hb => PE_even a n W p hb) (fun p hp w => bit_any n p (by have := bits_256 n hn; omega) w)
  · rw [PE_top a n W hn, rm_W, Nat.mod_eq_of_lt (by decide +kernel), U_1]
  · have h := rmul_any (PE a n W (p + 1)) (PE a n W (p + 1)) (PE_ltW _ _ _) (PE_ltW _ _ _) w
    rw [← rm_W, PE_sq] at h
    exact h
  · have h := rmul_any (PQ a n W p) a (PQ_ltW _ _ _) ha w
    rw [← rm_W, PE_odd _ _ _ _ hb] at h
    exact h
theorem rpow_any (a n m : Nat) (ha : a < W) (hn : n < W) (hm : m < W) (w : World) : Calls Try.prog 23 #[U a, U n, U m] w fun e w' => e = .returned (U (rm (a ^ n) m)) ∧ Below w.heap.size w w' := by
  rw [← PE_zero]
  refine rpow_raw a n m (bitsN n) (PE a n m) (PQ a n m) (bits_256 n hn) w (fun w => ?_) (rbits_any n) (fun p hp w => ?_) (fun p hp hb w => ?_) (fun p hp hb => PE_even a n m p hb) (fun p hp w => bit_any n p (by have := bits_256 n hn; omega) w)
  · have h := rrest_any 0 1 m W_pos (by decide +kernel) hm w
    rw [U_zero, U_1] at h
    have e : dr 0 1 m = rm 1 m := by unfold dr rm; rw [Nat.zero_mul, Nat.zero_add]
    rw [PE_top a n m hn, ← e]
    exact h
  · have h := rmulmod_any (PE a n m (p + 1)) (PE a n m (p + 1)) m (PE_lt _ _ _ hm) (PE_lt _ _ _ hm) hm w
    rw [PE_sq] at h
    exact h
  · have h := rmulmod_any (PQ a n m p) a m (PQ_lt _ _ _ hm) ha hm w
    rw [PE_odd _ _ _ _ hb] at h
    exact h
theorem pow_any (a n m : Nat) (ha : a < W) (hn : n < W) (hm : m < W) (w : World) : Calls Try.prog 22 #[U a, U n, U m] w fun e w' => e = .returned (U (rm (a ^ n) m)) ∧ Below w.heap.size w w' := by
  rcases Nat.lt_or_ge 1 m with h1 | h1
  · refine pow_raw a n m _ (fun w => ?_) w (fun w' hR => ?_)
    · have h := trivial_any m hm w
      rw [decide_eq_false (by omega)] at h
      exact h
    · rw [← PE_zero]
      refine power_pow_raw a n (bitsN n) _ (PE a n m) (PQ a n m) (bits_256 n hn) w' (fun w => ?_) (bits_any n) (fun p hp w'' hb => ?_) (fun p hp hb w'' hB => ?_) (fun p hp hb => PE_even a n m p hb)
      · have h := of_any 1 (by decide) w
        rw [PE_top a n m hn, rm_pos _ (by omega), Nat.mod_eq_of_lt h1]
        exact h
      · refine clo_raw _ _ m _ _ (fun w => ?_) w'' (hR.below hb)
        have h := mulmod_any (PE a n m (p + 1)) (PE a n m (p + 1)) m (PE_lt _ _ _ hm) (PE_lt _ _ _ hm) hm w
        rw [PE_sq] at h
        exact h
      · refine clo_raw _ _ m _ _ (fun w => ?_) w'' (hR.below hB)
        have h := mulmod_any (PQ a n m p) a m (PQ_lt _ _ _ hm) ha hm w
        rw [PE_odd _ _ _ _ hb] at h
        exact h
  · have e : rm (a ^ n) m = 0 := by
      rcases Nat.eq_zero_or_pos m with h | h
      · subst h; rfl
      · have : m = 1 := by omega
        subst this; rw [rm_pos _ (by decide), Nat.mod_one]
    rw [e, U_zero]
    refine pow0_raw a n m (fun w => ?_) w
    have h := trivial_any m hm w
    rw [decide_eq_true h1] at h
    exact h
end Go.Proofs.Ytillbhdcnhcbhaa
