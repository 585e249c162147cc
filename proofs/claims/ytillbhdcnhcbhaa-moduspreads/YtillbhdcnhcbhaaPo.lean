/- Powers, bit by bit: raw contracts. -/
import Derived.Test.YtillbhdcnhcbhaaMa
import Derived.Test.YtillbhdcnhcbhaaBu
import Derived.Lib.QuietBelow
import Derived.BigQuiet
namespace Go.Proofs.Ytillbhdcnhcbhaa
open Go.RowKit Go.Sort
set_option linter.unusedVariables false
attribute [local go_sem] run_eq4 run_eqU_same

theorem arr_dm (n q : Nat) (h : q < 4) : (#[B (l0 n), B (l1 n), B (l2 n), B (l3 n)] : Array Value)[q]? = some (.int .u64 ((dm n q : Nat) : Int)) := by
  obtain ⟨e0, e1, e2, e3⟩ := dm_parts n
  have hc : q = 0 ∨ q = 1 ∨ q = 2 ∨ q = 3 := by omega
  rcases hc with rfl | rfl | rfl | rfl
  · rw [e0]; rfl
  · rw [e1]; rfl
  · rw [e2]; rfl
  · rw [e3]; rfl
theorem bit_dm (n p : Nat) (h : p < 256) : bits BinOp.and IntKind.u64 (((dm n (p / 64) : Nat) : Int) / 2 ^ (p % 64)) 1 = ((n / 2 ^ p % 2 : Nat) : Int) := by
  obtain ⟨e0, e1, e2, e3⟩ := dm_parts n
  have hc : p / 64 = 0 ∨ p / 64 = 1 ∨ p / 64 = 2 ∨ p / 64 = 3 := by omega
  rcases hc with h | h | h | h
  · rw [h, e0]; exact bit_int n 0 p _ h (l0_lt n) (c_l0 n)
  · rw [h, e1]; exact bit_int n 1 p _ h (l1_lt n) (c_l1 n)
  · rw [h, e2]; exact bit_int n 2 p _ h (l2_lt n) (c_l2 n)
  · rw [h, e3]; exact bit_int n 3 p _ h (l3_lt n) (c_l3 n)

structure PW (w w' : World) (b1 a n x : Nat) : Prop where
  ra : HasRow w' (w.heap.size) #[B (l0 a), B (l1 a), B (l2 a), B (l3 a)]
  rn : HasRow w' (w.heap.size + 1) #[B (l0 n), B (l1 n), B (l2 n), B (l3 n)]
  rr : HasRow w' (w.heap.size + 1 + 1) #[.int .u64 0, .int .u64 0, .int .u64 0, .int .u64 0]
  oo : HasRow w' b1 #[B (l0 x), B (l1 x), B (l2 x), B (l3 x)]
  bw : Below w.heap.size w w'
  gg : w.heap.size + 1 + 1 < b1
theorem PW.call {w w' w'' : World} {b1 a n x : Nat} (h : PW w w' b1 a n x) (hb : Below w'.heap.size w' w'') : PW w w'' b1 a n x :=
  ⟨h.ra.below hb, h.rn.below hb, h.rr.below hb, h.oo.below hb, h.bw.trans (hb.mono h.bw.size), h.gg⟩
theorem PW.put {w w' : World} {b1 a n x : Nat} (h : PW w w' b1 a n x) (y : Nat) : PW w (w'.setRow b1 #[B (l0 y), B (l1 y), B (l2 y), B (l3 y)]) b1 a n y := by
  have hg := h.gg
  exact ⟨h.ra.set_other _ (by omega), h.rn.set_other _ (by omega), h.rr.set_other _ (by omega), h.oo.set_same _, below_setRow h.bw (by omega) _, hg⟩

set_option maxRecDepth 100000 in
set_option maxHeartbeats 4000000 in
theorem power_exp_raw (a n nb : Nat) (E Q : Nat → Nat) (hnb : nb ≤ 256) (w : World)
    (c0 : Hid (∀ w, Calls Try.prog 36 #[.int .u64 1] w fun e w' => e = .returned (U (E nb)) ∧ Below w.heap.size w w'))
    (cb : Hid (∀ w, Calls Try.prog 48 #[U n] w fun e w' => e = .returned (.int .i64 (nb : Nat)) ∧ Below w.heap.size w w'))
    (cs : Hid (∀ p, p < nb → ∀ w', Calls Try.prog 42 #[U (E (p + 1)), U (E (p + 1))] w' fun e w'' => e = .returned (U (Q p)) ∧ Below w'.heap.size w' w''))
    (cm : Hid (∀ p, p < nb → n / 2 ^ p % 2 = 1 → ∀ w', Calls Try.prog 42 #[U (Q p), U a] w' fun e w'' => e = .returned (U (E p)) ∧ Below w'.heap.size w' w''))
    (ce : Hid (∀ p, p < nb → n / 2 ^ p % 2 = 0 → Q p = E p)) :
    Calls Try.prog 41 #[U a, U n, Value.func (Fn.func 42) #[] #[]] w fun e w' => e = .returned (U (E 0)) ∧ Below w.heap.size w w' := by
  go_enter Try.func41, Try.ntmps41
  go_wp2_with fail
  refine (c0.out _).mono ?_
  rintro e w1 ⟨rfl, hb1⟩
  have Ra : Hid (HasRow w1 (w.heap.size) #[B (l0 a), B (l1 a), B (l2 a), B (l3 a)]) := (HasRow.old (HasRow.old (HasRow.last (by simp)))).below hb1
  have Rn : Hid (HasRow w1 (w.heap.size + 1) #[B (l0 n), B (l1 n), B (l2 n), B (l3 n)]) := (HasRow.old (HasRow.last (by simp))).below hb1
  have Rr : Hid (HasRow w1 (w.heap.size + 1 + 1) #[.int .u64 0, .int .u64 0, .int .u64 0, .int .u64 0]) := (HasRow.last (by simp)).below hb1
  have B1 : Hid (Below w.heap.size w w1) := bel_call (by (repeat (first | exact Below.refl _ _ | refine bel_alloc ?_ _))) hb1
  have n0 : w1.cell? ⟨w.heap.size + 1, 0, none⟩ = some (B (l0 n)) := Rn.out.cell 0
  have n1 : w1.cell? ⟨w.heap.size + 1, 1, none⟩ = some (B (l1 n)) := Rn.out.cell 1
  have n2 : w1.cell? ⟨w.heap.size + 1, 2, none⟩ = some (B (l2 n)) := Rn.out.cell 2
  have n3 : w1.cell? ⟨w.heap.size + 1, 3, none⟩ = some (B (l3 n)) := Rn.out.cell 3
  have mz := Rr.out.lt
  have mq0 : w.heap.size < w1.heap.size := by omega
  have mq1 : w.heap.size + 1 < w1.heap.size := by omega
  have mq2 : w.heap.size + 1 + 1 < w1.heap.size := by omega
  clear hb1
  go_wp2_with fail
  refine (cb.out _).mono ?_
  rintro e w2 ⟨rfl, hb2⟩
  have F0 : Hid (PW w w2 w1.heap.size a n (E nb)) := ⟨(HasRow.old Ra.out).below hb2, (HasRow.old Rn.out).below hb2, (HasRow.old Rr.out).below hb2, (HasRow.last rfl).below hb2, bel_call (bel_alloc B1.out _) hb2, mz⟩
  clear hb2 Ra Rn Rr B1 n0 n1 n2 n3 mq0 mq1 mq2 mz
  generalize w1.heap.size = b1 at *
  go_wp2
  go_loopw [8] (fun s w' => ∃ t : Nat, t ≤ nb ∧ s = .int .i64 ((t : Int) - 1) ∧ PW w w' b1 a n (E t)) (fun s _ => (intOf s + 1).toNat)
  case atStart => exact ⟨nb, Nat.le_refl _, rfl, F0.out⟩
  case round =>
    obtain ⟨t, ht, rfl, hS⟩ := hrel
    clear F0
    have KS : Hid _ := hS
    clear hS
    rcases t with _ | p
    · rw [show ((0 : Nat) : Int) - 1 = -1 by rfl]
      have o0 : wr.cell? ⟨b1, 0, none⟩ = some (B (l0 (E 0))) := KS.out.oo.cell 0
      have o1 : wr.cell? ⟨b1, 1, none⟩ = some (B (l1 (E 0))) := KS.out.oo.cell 1
      have o2 : wr.cell? ⟨b1, 2, none⟩ = some (B (l2 (E 0))) := KS.out.oo.cell 2
      have o3 : wr.cell? ⟨b1, 3, none⟩ = some (B (l3 (E 0))) := KS.out.oo.cell 3
      have g0 : wr.cell? ⟨w.heap.size + 1 + 1, 0, none⟩ = some (.int .u64 0) := KS.out.rr.cell 0
      have g1 : wr.cell? ⟨w.heap.size + 1 + 1, 1, none⟩ = some (.int .u64 0) := KS.out.rr.cell 1
      have g2 : wr.cell? ⟨w.heap.size + 1 + 1, 2, none⟩ = some (.int .u64 0) := KS.out.rr.cell 2
      have g3 : wr.cell? ⟨w.heap.size + 1 + 1, 3, none⟩ = some (.int .u64 0) := KS.out.rr.cell 3
      have gz0 := KS.out.rr.frozen 0
      have gz1 := KS.out.rr.frozen 1
      have gz2 := KS.out.rr.frozen 2
      have gz3 := KS.out.rr.frozen 3
      have gq := KS.out.rr.lt
      have oq := KS.out.oo.lt
      go_wp2
      rw [set4 KS.out.rr rfl]
      exact bodyPost_ret (v := U (E 0)) (results_cell1 (p := 6) (ty := 24) rfl (g := w.heap.size + 1 + 1) rfl (HasRow.set_same KS.out.rr _) rfl Try.underlying24 (by kernel_rfl)) rfl ⟨rfl, below_setRow KS.out.bw (by omega) _⟩
    · rw [show ((p + 1 : Nat) : Int) - 1 = (p : Int) by omega]
      have hp : p < nb := ht
      have o0 : wr.cell? ⟨b1, 0, none⟩ = some (B (l0 (E (p + 1)))) := KS.out.oo.cell 0
      have o1 : wr.cell? ⟨b1, 1, none⟩ = some (B (l1 (E (p + 1)))) := KS.out.oo.cell 1
      have o2 : wr.cell? ⟨b1, 2, none⟩ = some (B (l2 (E (p + 1)))) := KS.out.oo.cell 2
      have o3 : wr.cell? ⟨b1, 3, none⟩ = some (B (l3 (E (p + 1)))) := KS.out.oo.cell 3
      go_wp2_with fail
      refine (cs.out p hp _).mono ?_
      rintro e w5 ⟨rfl, hb5⟩
      have K5 : Hid (PW w w5 b1 a n (E (p + 1))) := KS.out.call hb5
      clear hb5 KS o0 o1 o2 o3
      have g0 : w5.cell? ⟨b1, 0, none⟩ = some (B (l0 (E (p + 1)))) := K5.out.oo.cell 0
      have g1 : w5.cell? ⟨b1, 1, none⟩ = some (B (l1 (E (p + 1)))) := K5.out.oo.cell 1
      have g2 : w5.cell? ⟨b1, 2, none⟩ = some (B (l2 (E (p + 1)))) := K5.out.oo.cell 2
      have g3 : w5.cell? ⟨b1, 3, none⟩ = some (B (l3 (E (p + 1)))) := K5.out.oo.cell 3
      have gz0 := K5.out.oo.frozen 0
      have gz1 := K5.out.oo.frozen 1
      have gz2 := K5.out.oo.frozen 2
      have gz3 := K5.out.oo.frozen 3
      have gq := K5.out.oo.lt
      go_upto_region 6 with fail
      rw [set4 K5.out.oo rfl]
      have K6 : Hid (PW w (w5.setRow b1 #[B (l0 (Q p)), B (l1 (Q p)), B (l2 (Q p)), B (l3 (Q p))]) b1 a n (Q p)) := K5.out.put (Q p)
      clear K5 g0 g1 g2 g3 gz0 gz1 gz2 gz3 gq
      generalize w5.setRow b1 #[B (l0 (Q p)), B (l1 (Q p)), B (l2 (Q p)), B (l3 (Q p))] = w6 at *
      have hx : w6.cell? ⟨w.heap.size + 1, p / 64, none⟩ = some (.int .u64 ((dm n (p / 64) : Nat) : Int)) := by
        rw [HasRow.cell K6.out.rn]
        exact arr_dm n (p / 64) (by omega)
      have hq := K6.out.rn.lt
      have hbit := bit_dm n p (by omega)
      by_cases hb : n / 2 ^ p % 2 = 1
      · rw [hb] at hbit
        have hbt : (bits BinOp.and IntKind.u64 (((dm n (p / 64) : Nat) : Int) / 2 ^ (p % 64)) 1 == 1) = true := by rw [hbit]; rfl
        clear hbit
        have o0 : w6.cell? ⟨b1, 0, none⟩ = some (B (l0 (Q p))) := K6.out.oo.cell 0
        have o1 : w6.cell? ⟨b1, 1, none⟩ = some (B (l1 (Q p))) := K6.out.oo.cell 1
        have o2 : w6.cell? ⟨b1, 2, none⟩ = some (B (l2 (Q p))) := K6.out.oo.cell 2
        have o3 : w6.cell? ⟨b1, 3, none⟩ = some (B (l3 (Q p))) := K6.out.oo.cell 3
        have a0 : w6.cell? ⟨w.heap.size, 0, none⟩ = some (B (l0 a)) := K6.out.ra.cell 0
        have a1 : w6.cell? ⟨w.heap.size, 1, none⟩ = some (B (l1 a)) := K6.out.ra.cell 1
        have a2 : w6.cell? ⟨w.heap.size, 2, none⟩ = some (B (l2 a)) := K6.out.ra.cell 2
        have a3 : w6.cell? ⟨w.heap.size, 3, none⟩ = some (B (l3 a)) := K6.out.ra.cell 3
        go_wp2_with fail
        refine (cm.out p hp hb _).mono ?_
        rintro e w8 ⟨rfl, hb8⟩
        have K8 : Hid (PW w w8 b1 a n (Q p)) := K6.out.call hb8
        clear hb8 K6 o0 o1 o2 o3 a0 a1 a2 a3
        have g0 : w8.cell? ⟨b1, 0, none⟩ = some (B (l0 (Q p))) := K8.out.oo.cell 0
        have g1 : w8.cell? ⟨b1, 1, none⟩ = some (B (l1 (Q p))) := K8.out.oo.cell 1
        have g2 : w8.cell? ⟨b1, 2, none⟩ = some (B (l2 (Q p))) := K8.out.oo.cell 2
        have g3 : w8.cell? ⟨b1, 3, none⟩ = some (B (l3 (Q p))) := K8.out.oo.cell 3
        have gz0 := K8.out.oo.frozen 0
        have gz1 := K8.out.oo.frozen 1
        have gz2 := K8.out.oo.frozen 2
        have gz3 := K8.out.oo.frozen 3
        have gq := K8.out.oo.lt
        go_upto_region 4 with fail
        rw [set4 K8.out.oo rfl]
        have K9 : Hid (PW w (w8.setRow b1 #[B (l0 (E p)), B (l1 (E p)), B (l2 (E p)), B (l3 (E p))]) b1 a n (E p)) := K8.out.put (E p)
        clear K8 g0 g1 g2 g3 gz0 gz1 gz2 gz3 gq
        generalize w8.setRow b1 #[B (l0 (E p)), B (l1 (E p)), B (l2 (E p)), B (l3 (E p))] = w9 at *
        go_wp2
        go_roundw
        case rel => exact ⟨p, by omega, rfl, K9.out⟩
        case measure => simp [intOf]; try omega
      · have hb0 : n / 2 ^ p % 2 = 0 := by omega
        rw [hb0] at hbit
        have hbt : (bits BinOp.and IntKind.u64 (((dm n (p / 64) : Nat) : Int) / 2 ^ (p % 64)) 1 == 1) = false := by rw [hbit]; rfl
        have hE := ce.out p hp hb0
        clear hbit
        go_wp2
        go_roundw
        case rel => exact ⟨p, by omega, rfl, hE ▸ K6.out⟩
        case measure => simp [intOf]; try omega

set_option maxRecDepth 100000 in
set_option maxHeartbeats 4000000 in
theorem power_pow_raw (a n nb bm : Nat) (E Q : Nat → Nat) (hnb : nb ≤ 256) (w : World)
    (c0 : Hid (∀ w, Calls Try.prog 36 #[.int .u64 1] w fun e w' => e = .returned (U (E nb)) ∧ Below w.heap.size w w'))
    (cb : Hid (∀ w, Calls Try.prog 48 #[U n] w fun e w' => e = .returned (.int .i64 (nb : Nat)) ∧ Below w.heap.size w w'))
    (cs : Hid (∀ p, p < nb → ∀ w', Below w.heap.size w w' → Calls Try.prog 45 #[U (E (p + 1)), U (E (p + 1)), .pointer (some ⟨bm, 0, none⟩)] w' fun e w'' => e = .returned (U (Q p)) ∧ Below w'.heap.size w' w''))
    (cm : Hid (∀ p, p < nb → n / 2 ^ p % 2 = 1 → ∀ w', Below w.heap.size w w' → Calls Try.prog 45 #[U (Q p), U a, .pointer (some ⟨bm, 0, none⟩)] w' fun e w'' => e = .returned (U (E p)) ∧ Below w'.heap.size w' w''))
    (ce : Hid (∀ p, p < nb → n / 2 ^ p % 2 = 0 → Q p = E p)) :
    Calls Try.prog 41 #[U a, U n, Value.func (Fn.func 45) #[] #[.pointer (some ⟨bm, 0, none⟩)]] w fun e w' => e = .returned (U (E 0)) ∧ Below w.heap.size w w' := by
  go_enter Try.func41, Try.ntmps41
  go_wp2_with fail
  refine (c0.out _).mono ?_
  rintro e w1 ⟨rfl, hb1⟩
  have Ra : Hid (HasRow w1 (w.heap.size) #[B (l0 a), B (l1 a), B (l2 a), B (l3 a)]) := (HasRow.old (HasRow.old (HasRow.last (by simp)))).below hb1
  have Rn : Hid (HasRow w1 (w.heap.size + 1) #[B (l0 n), B (l1 n), B (l2 n), B (l3 n)]) := (HasRow.old (HasRow.last (by simp))).below hb1
  have Rr : Hid (HasRow w1 (w.heap.size + 1 + 1) #[.int .u64 0, .int .u64 0, .int .u64 0, .int .u64 0]) := (HasRow.last (by simp)).below hb1
  have B1 : Hid (Below w.heap.size w w1) := bel_call (by (repeat (first | exact Below.refl _ _ | refine bel_alloc ?_ _))) hb1
  have n0 : w1.cell? ⟨w.heap.size + 1, 0, none⟩ = some (B (l0 n)) := Rn.out.cell 0
  have n1 : w1.cell? ⟨w.heap.size + 1, 1, none⟩ = some (B (l1 n)) := Rn.out.cell 1
  have n2 : w1.cell? ⟨w.heap.size + 1, 2, none⟩ = some (B (l2 n)) := Rn.out.cell 2
  have n3 : w1.cell? ⟨w.heap.size + 1, 3, none⟩ = some (B (l3 n)) := Rn.out.cell 3
  have mz := Rr.out.lt
  have mq0 : w.heap.size < w1.heap.size := by omega
  have mq1 : w.heap.size + 1 < w1.heap.size := by omega
  have mq2 : w.heap.size + 1 + 1 < w1.heap.size := by omega
  clear hb1
  go_wp2_with fail
  refine (cb.out _).mono ?_
  rintro e w2 ⟨rfl, hb2⟩
  have F0 : Hid (PW w w2 w1.heap.size a n (E nb)) := ⟨(HasRow.old Ra.out).below hb2, (HasRow.old Rn.out).below hb2, (HasRow.old Rr.out).below hb2, (HasRow.last rfl).below hb2, bel_call (bel_alloc B1.out _) hb2, mz⟩
  clear hb2 Ra Rn Rr B1 n0 n1 n2 n3 mq0 mq1 mq2 mz
  generalize w1.heap.size = b1 at *
  go_wp2
  go_loopw [8] (fun s w' => ∃ t : Nat, t ≤ nb ∧ s = .int .i64 ((t : Int) - 1) ∧ PW w w' b1 a n (E t)) (fun s _ => (intOf s + 1).toNat)
  case atStart => exact ⟨nb, Nat.le_refl _, rfl, F0.out⟩
  case round =>
    obtain ⟨t, ht, rfl, hS⟩ := hrel
    clear F0
    have KS : Hid _ := hS
    clear hS
    rcases t with _ | p
    · rw [show ((0 : Nat) : Int) - 1 = -1 by rfl]
      have o0 : wr.cell? ⟨b1, 0, none⟩ = some (B (l0 (E 0))) := KS.out.oo.cell 0
      have o1 : wr.cell? ⟨b1, 1, none⟩ = some (B (l1 (E 0))) := KS.out.oo.cell 1
      have o2 : wr.cell? ⟨b1, 2, none⟩ = some (B (l2 (E 0))) := KS.out.oo.cell 2
      have o3 : wr.cell? ⟨b1, 3, none⟩ = some (B (l3 (E 0))) := KS.out.oo.cell 3
      have g0 : wr.cell? ⟨w.heap.size + 1 + 1, 0, none⟩ = some (.int .u64 0) := KS.out.rr.cell 0
      have g1 : wr.cell? ⟨w.heap.size + 1 + 1, 1, none⟩ = some (.int .u64 0) := KS.out.rr.cell 1
      have g2 : wr.cell? ⟨w.heap.size + 1 + 1, 2, none⟩ = some (.int .u64 0) := KS.out.rr.cell 2
      have g3 : wr.cell? ⟨w.heap.size + 1 + 1, 3, none⟩ = some (.int .u64 0) := KS.out.rr.cell 3
      have gz0 := KS.out.rr.frozen 0
      have gz1 := KS.out.rr.frozen 1
      have gz2 := KS.out.rr.frozen 2
      have gz3 := KS.out.rr.frozen 3
      have gq := KS.out.rr.lt
      have oq := KS.out.oo.lt
      go_wp2
      rw [set4 KS.out.rr rfl]
      exact bodyPost_ret (v := U (E 0)) (results_cell1 (p := 6) (ty := 24) rfl (g := w.heap.size + 1 + 1) rfl (HasRow.set_same KS.out.rr _) rfl Try.underlying24 (by kernel_rfl)) rfl ⟨rfl, below_setRow KS.out.bw (by omega) _⟩
    · rw [show ((p + 1 : Nat) : Int) - 1 = (p : Int) by omega]
      have hp : p < nb := ht
      have o0 : wr.cell? ⟨b1, 0, none⟩ = some (B (l0 (E (p + 1)))) := KS.out.oo.cell 0
      have o1 : wr.cell? ⟨b1, 1, none⟩ = some (B (l1 (E (p + 1)))) := KS.out.oo.cell 1
      have o2 : wr.cell? ⟨b1, 2, none⟩ = some (B (l2 (E (p + 1)))) := KS.out.oo.cell 2
      have o3 : wr.cell? ⟨b1, 3, none⟩ = some (B (l3 (E (p + 1)))) := KS.out.oo.cell 3
      go_wp2_with fail
      refine (cs.out p hp _ KS.out.bw).mono ?_
      rintro e w5 ⟨rfl, hb5⟩
      have K5 : Hid (PW w w5 b1 a n (E (p + 1))) := KS.out.call hb5
      clear hb5 KS o0 o1 o2 o3
      have g0 : w5.cell? ⟨b1, 0, none⟩ = some (B (l0 (E (p + 1)))) := K5.out.oo.cell 0
      have g1 : w5.cell? ⟨b1, 1, none⟩ = some (B (l1 (E (p + 1)))) := K5.out.oo.cell 1
      have g2 : w5.cell? ⟨b1, 2, none⟩ = some (B (l2 (E (p + 1)))) := K5.out.oo.cell 2
      have g3 : w5.cell? ⟨b1, 3, none⟩ = some (B (l3 (E (p + 1)))) := K5.out.oo.cell 3
      have gz0 := K5.out.oo.frozen 0
      have gz1 := K5.out.oo.frozen 1
      have gz2 := K5.out.oo.frozen 2
      have gz3 := K5.out.oo.frozen 3
      have gq := K5.out.oo.lt
      go_upto_region 6 with fail
      rw [set4 K5.out.oo rfl]
      have K6 : Hid (PW w (w5.setRow b1 #[B (l0 (Q p)), B (l1 (Q p)), B (l2 (Q p)), B (l3 (Q p))]) b1 a n (Q p)) := K5.out.put (Q p)
      clear K5 g0 g1 g2 g3 gz0 gz1 gz2 gz3 gq
      generalize w5.setRow b1 #[B (l0 (Q p)), B (l1 (Q p)), B (l2 (Q p)), B (l3 (Q p))] = w6 at *
      have hx : w6.cell? ⟨w.heap.size + 1, p / 64, none⟩ = some (.int .u64 ((dm n (p / 64) : Nat) : Int)) := by
        rw [HasRow.cell K6.out.rn]
        exact arr_dm n (p / 64) (by omega)
      have hq := K6.out.rn.lt
      have hbit := bit_dm n p (by omega)
      by_cases hb : n / 2 ^ p % 2 = 1
      · rw [hb] at hbit
        have hbt : (bits BinOp.and IntKind.u64 (((dm n (p / 64) : Nat) : Int) / 2 ^ (p % 64)) 1 == 1) = true := by rw [hbit]; rfl
        clear hbit
        have o0 : w6.cell? ⟨b1, 0, none⟩ = some (B (l0 (Q p))) := K6.out.oo.cell 0
        have o1 : w6.cell? ⟨b1, 1, none⟩ = some (B (l1 (Q p))) := K6.out.oo.cell 1
        have o2 : w6.cell? ⟨b1, 2, none⟩ = some (B (l2 (Q p))) := K6.out.oo.cell 2
        have o3 : w6.cell? ⟨b1, 3, none⟩ = some (B (l3 (Q p))) := K6.out.oo.cell 3
        have a0 : w6.cell? ⟨w.heap.size, 0, none⟩ = some (B (l0 a)) := K6.out.ra.cell 0
        have a1 : w6.cell? ⟨w.heap.size, 1, none⟩ = some (B (l1 a)) := K6.out.ra.cell 1
        have a2 : w6.cell? ⟨w.heap.size, 2, none⟩ = some (B (l2 a)) := K6.out.ra.cell 2
        have a3 : w6.cell? ⟨w.heap.size, 3, none⟩ = some (B (l3 a)) := K6.out.ra.cell 3
        go_wp2_with fail
        refine (cm.out p hp hb _ K6.out.bw).mono ?_
        rintro e w8 ⟨rfl, hb8⟩
        have K8 : Hid (PW w w8 b1 a n (Q p)) := K6.out.call hb8
        clear hb8 K6 o0 o1 o2 o3 a0 a1 a2 a3
        have g0 : w8.cell? ⟨b1, 0, none⟩ = some (B (l0 (Q p))) := K8.out.oo.cell 0
        have g1 : w8.cell? ⟨b1, 1, none⟩ = some (B (l1 (Q p))) := K8.out.oo.cell 1
        have g2 : w8.cell? ⟨b1, 2, none⟩ = some (B (l2 (Q p))) := K8.out.oo.cell 2
        have g3 : w8.cell? ⟨b1, 3, none⟩ = some (B (l3 (Q p))) := K8.out.oo.cell 3
        have gz0 := K8.out.oo.frozen 0
        have gz1 := K8.out.oo.frozen 1
        have gz2 := K8.out.oo.frozen 2
        have gz3 := K8.out.oo.frozen 3
        have gq := K8.out.oo.lt
        go_upto_region 4 with fail
        rw [set4 K8.out.oo rfl]
        have K9 : Hid (PW w (w8.setRow b1 #[B (l0 (E p)), B (l1 (E p)), B (l2 (E p)), B (l3 (E p))]) b1 a n (E p)) := K8.out.put (E p)
        clear K8 g0 g1 g2 g3 gz0 gz1 gz2 gz3 gq
        generalize w8.setRow b1 #[B (l0 (E p)), B (l1 (E p)), B (l2 (E p)), B (l3 (E p))] = w9 at *
        go_wp2
        go_roundw
        case rel => exact ⟨p, by omega, rfl, K9.out⟩
        case measure => simp [intOf]; try omega
      · have hb0 : n / 2 ^ p % 2 = 0 := by omega
        rw [hb0] at hbit
        have hbt : (bits BinOp.and IntKind.u64 (((dm n (p / 64) : Nat) : Int) / 2 ^ (p % 64)) 1 == 1) = false := by rw [hbit]; rfl
        have hE := ce.out p hp hb0
        clear hbit
        go_wp2
        go_roundw
        case rel => exact ⟨p, by omega, rfl, hE ▸ K6.out⟩
        case measure => simp [intOf]; try omega

set_option maxRecDepth 100000 in
set_option maxHeartbeats 4000000 in
theorem rexp_raw (a n nb : Nat) (E Q : Nat → Nat) (hnb : nb ≤ 256) (w : World) (hE1 : U (E nb) = I4 1 0 0 0)
    (cb : Hid (∀ w, Calls Try.prog 43 #[U n] w fun e w' => e = .returned (.int .i64 (nb : Nat)) ∧ Below w.heap.size w w'))
    (cs : Hid (∀ p, p < nb → ∀ w', Calls Try.prog 27 #[U (E (p + 1)), U (E (p + 1))] w' fun e w'' => e = .returned (U (Q p)) ∧ Below w'.heap.size w' w''))
    (cm : Hid (∀ p, p < nb → n / 2 ^ p % 2 = 1 → ∀ w', Calls Try.prog 27 #[U (Q p), U a] w' fun e w'' => e = .returned (U (E p)) ∧ Below w'.heap.size w' w''))
    (ce : Hid (∀ p, p < nb → n / 2 ^ p % 2 = 0 → Q p = E p))
    (cb2 : Hid (∀ p : Nat, p < nb → ∀ w', Calls Try.prog 44 #[U n, .int .i64 (p : Int)] w' fun e w'' => e = .returned (B (n / 2 ^ p % 2)) ∧ Below w'.heap.size w' w'')) :
    Calls Try.prog 21 #[U a, U n] w fun e w' => e = .returned (U (E 0)) ∧ Below w.heap.size w w' := by
  go_enter Try.func21, Try.ntmps21
  have hA : #[B (l0 (E nb)), B (l1 (E nb)), B (l2 (E nb)), B (l3 (E nb))] = #[.int .u64 1, .int .u64 0, .int .u64 0, .int .u64 0] := Value.agg.inj hE1
  clear hE1
  obtain ⟨b1, hb1'⟩ : ∃ n, n = w.heap.size + 1 + 1 + 1 := ⟨_, rfl⟩
  go_wp2_with fail
  refine (cb.out _).mono ?_
  rintro e w2 ⟨rfl, hb2⟩
  have F0 : Hid (PW w w2 b1 a n (E nb)) := ⟨(HasRow.old (HasRow.old (HasRow.old (HasRow.last (by simp))))).below hb2, (HasRow.old (HasRow.old (HasRow.last (by simp)))).below hb2, (HasRow.old (HasRow.last (by simp))).below hb2, (by rw [hA]; exact (HasRow.last (by simp [hb1'])).below hb2), bel_call (by (repeat (first | exact Below.refl _ _ | refine bel_alloc ?_ _))) hb2, by omega⟩
  clear hb2 hA
  go_wp2
  rw [← hb1']
  clear hb1'
  go_loopw [6] (fun s w' => ∃ t : Nat, t ≤ nb ∧ s = .int .i64 ((t : Int) - 1) ∧ PW w w' b1 a n (E t)) (fun s _ => (intOf s + 1).toNat)
  case atStart => exact ⟨nb, Nat.le_refl _, rfl, F0.out⟩
  case round =>
    obtain ⟨t, ht, rfl, hS⟩ := hrel
    clear F0
    have KS : Hid _ := hS
    clear hS
    rcases t with _ | p
    · rw [show ((0 : Nat) : Int) - 1 = -1 by rfl]
      have o0 : wr.cell? ⟨b1, 0, none⟩ = some (B (l0 (E 0))) := KS.out.oo.cell 0
      have o1 : wr.cell? ⟨b1, 1, none⟩ = some (B (l1 (E 0))) := KS.out.oo.cell 1
      have o2 : wr.cell? ⟨b1, 2, none⟩ = some (B (l2 (E 0))) := KS.out.oo.cell 2
      have o3 : wr.cell? ⟨b1, 3, none⟩ = some (B (l3 (E 0))) := KS.out.oo.cell 3
      have g0 : wr.cell? ⟨w.heap.size + 1 + 1, 0, none⟩ = some (.int .u64 0) := KS.out.rr.cell 0
      have g1 : wr.cell? ⟨w.heap.size + 1 + 1, 1, none⟩ = some (.int .u64 0) := KS.out.rr.cell 1
      have g2 : wr.cell? ⟨w.heap.size + 1 + 1, 2, none⟩ = some (.int .u64 0) := KS.out.rr.cell 2
      have g3 : wr.cell? ⟨w.heap.size + 1 + 1, 3, none⟩ = some (.int .u64 0) := KS.out.rr.cell 3
      have gz0 := KS.out.rr.frozen 0
      have gz1 := KS.out.rr.frozen 1
      have gz2 := KS.out.rr.frozen 2
      have gz3 := KS.out.rr.frozen 3
      have gq := KS.out.rr.lt
      have oq := KS.out.oo.lt
      go_wp2
      rw [set4 KS.out.rr rfl]
      exact bodyPost_ret (v := U (E 0)) (results_cell1 (p := 4) (ty := 24) rfl (g := w.heap.size + 1 + 1) rfl (HasRow.set_same KS.out.rr _) rfl Try.underlying24 (by kernel_rfl)) rfl ⟨rfl, below_setRow KS.out.bw (by omega) _⟩
    · rw [show ((p + 1 : Nat) : Int) - 1 = (p : Int) by omega]
      have hp : p < nb := ht
      have o0 : wr.cell? ⟨b1, 0, none⟩ = some (B (l0 (E (p + 1)))) := KS.out.oo.cell 0
      have o1 : wr.cell? ⟨b1, 1, none⟩ = some (B (l1 (E (p + 1)))) := KS.out.oo.cell 1
      have o2 : wr.cell? ⟨b1, 2, none⟩ = some (B (l2 (E (p + 1)))) := KS.out.oo.cell 2
      have o3 : wr.cell? ⟨b1, 3, none⟩ = some (B (l3 (E (p + 1)))) := KS.out.oo.cell 3
      go_wp2_with fail
      refine (cs.out p hp _).mono ?_
      rintro e w5 ⟨rfl, hb5⟩
      have K5 : Hid (PW w w5 b1 a n (E (p + 1))) := KS.out.call hb5
      clear hb5 KS o0 o1 o2 o3
      have g0 : w5.cell? ⟨b1, 0, none⟩ = some (B (l0 (E (p + 1)))) := K5.out.oo.cell 0
      have g1 : w5.cell? ⟨b1, 1, none⟩ = some (B (l1 (E (p + 1)))) := K5.out.oo.cell 1
      have g2 : w5.cell? ⟨b1, 2, none⟩ = some (B (l2 (E (p + 1)))) := K5.out.oo.cell 2
      have g3 : w5.cell? ⟨b1, 3, none⟩ = some (B (l3 (E (p + 1)))) := K5.out.oo.cell 3
      have gz0 := K5.out.oo.frozen 0
      have gz1 := K5.out.oo.frozen 1
      have gz2 := K5.out.oo.frozen 2
      have gz3 := K5.out.oo.frozen 3
      have gq := K5.out.oo.lt
      go_upto_region 6 with fail
      rw [set4 K5.out.oo rfl]
      have K6 : Hid (PW w (w5.setRow b1 #[B (l0 (Q p)), B (l1 (Q p)), B (l2 (Q p)), B (l3 (Q p))]) b1 a n (Q p)) := K5.out.put (Q p)
      clear K5 g0 g1 g2 g3 gz0 gz1 gz2 gz3 gq
      generalize w5.setRow b1 #[B (l0 (Q p)), B (l1 (Q p)), B (l2 (Q p)), B (l3 (Q p))] = w6 at *
      have n0 : w6.cell? ⟨w.heap.size + 1, 0, none⟩ = some (B (l0 n)) := K6.out.rn.cell 0
      have n1 : w6.cell? ⟨w.heap.size + 1, 1, none⟩ = some (B (l1 n)) := K6.out.rn.cell 1
      have n2 : w6.cell? ⟨w.heap.size + 1, 2, none⟩ = some (B (l2 n)) := K6.out.rn.cell 2
      have n3 : w6.cell? ⟨w.heap.size + 1, 3, none⟩ = some (B (l3 n)) := K6.out.rn.cell 3
      by_cases hb : n / 2 ^ p % 2 = 1
      · go_wp2_with fail
        refine (cb2.out p hp _).mono ?_
        rintro e w7 ⟨rfl, hb7⟩
        have K7 : Hid (PW w w7 b1 a n (Q p)) := K6.out.call hb7
        rw [hb]
        clear hb7 K6 n0 n1 n2 n3
        have o0 : w7.cell? ⟨b1, 0, none⟩ = some (B (l0 (Q p))) := K7.out.oo.cell 0
        have o1 : w7.cell? ⟨b1, 1, none⟩ = some (B (l1 (Q p))) := K7.out.oo.cell 1
        have o2 : w7.cell? ⟨b1, 2, none⟩ = some (B (l2 (Q p))) := K7.out.oo.cell 2
        have o3 : w7.cell? ⟨b1, 3, none⟩ = some (B (l3 (Q p))) := K7.out.oo.cell 3
        have a0 : w7.cell? ⟨w.heap.size, 0, none⟩ = some (B (l0 a)) := K7.out.ra.cell 0
        have a1 : w7.cell? ⟨w.heap.size, 1, none⟩ = some (B (l1 a)) := K7.out.ra.cell 1
        have a2 : w7.cell? ⟨w.heap.size, 2, none⟩ = some (B (l2 a)) := K7.out.ra.cell 2
        have a3 : w7.cell? ⟨w.heap.size, 3, none⟩ = some (B (l3 a)) := K7.out.ra.cell 3
        go_wp2_with fail
        refine (cm.out p hp hb _).mono ?_
        rintro e w8 ⟨rfl, hb8⟩
        have K8 : Hid (PW w w8 b1 a n (Q p)) := K7.out.call hb8
        clear hb8 K7 o0 o1 o2 o3 a0 a1 a2 a3
        have g0 : w8.cell? ⟨b1, 0, none⟩ = some (B (l0 (Q p))) := K8.out.oo.cell 0
        have g1 : w8.cell? ⟨b1, 1, none⟩ = some (B (l1 (Q p))) := K8.out.oo.cell 1
        have g2 : w8.cell? ⟨b1, 2, none⟩ = some (B (l2 (Q p))) := K8.out.oo.cell 2
        have g3 : w8.cell? ⟨b1, 3, none⟩ = some (B (l3 (Q p))) := K8.out.oo.cell 3
        have gz0 := K8.out.oo.frozen 0
        have gz1 := K8.out.oo.frozen 1
        have gz2 := K8.out.oo.frozen 2
        have gz3 := K8.out.oo.frozen 3
        have gq := K8.out.oo.lt
        go_upto_region 4 with fail
        rw [set4 K8.out.oo rfl]
        have K9 : Hid (PW w (w8.setRow b1 #[B (l0 (E p)), B (l1 (E p)), B (l2 (E p)), B (l3 (E p))]) b1 a n (E p)) := K8.out.put (E p)
        clear K8 g0 g1 g2 g3 gz0 gz1 gz2 gz3 gq
        generalize w8.setRow b1 #[B (l0 (E p)), B (l1 (E p)), B (l2 (E p)), B (l3 (E p))] = w9 at *
        go_wp2
        go_roundw
        case rel => exact ⟨p, by omega, rfl, K9.out⟩
        case measure => simp [intOf]; try omega
      · have hb0 : n / 2 ^ p % 2 = 0 := by omega
        have hE := ce.out p hp hb0
        go_wp2_with fail
        refine (cb2.out p hp _).mono ?_
        rintro e w7 ⟨rfl, hb7⟩
        have K7 : Hid (PW w w7 b1 a n (Q p)) := K6.out.call hb7
        rw [hb0]
        clear hb7 K6 n0 n1 n2 n3
        go_wp2
        go_roundw
        case rel => exact ⟨p, by omega, rfl, hE ▸ K7.out⟩
        case measure => simp [intOf]; try omega

structure PV (w w' : World) (b1 a n m x : Nat) : Prop where
  ra : HasRow w' (w.heap.size) #[B (l0 a), B (l1 a), B (l2 a), B (l3 a)]
  rn : HasRow w' (w.heap.size + 1) #[B (l0 n), B (l1 n), B (l2 n), B (l3 n)]
  rm : HasRow w' (w.heap.size + 1 + 1) #[B (l0 m), B (l1 m), B (l2 m), B (l3 m)]
  rr : HasRow w' (w.heap.size + 1 + 1 + 1) #[.int .u64 0, .int .u64 0, .int .u64 0, .int .u64 0]
  oo : HasRow w' b1 #[B (l0 x), B (l1 x), B (l2 x), B (l3 x)]
  bw : Below w.heap.size w w'
  gg : w.heap.size + 1 + 1 + 1 < b1
theorem PV.call {w w' w'' : World} {b1 a n m x : Nat} (h : PV w w' b1 a n m x) (hb : Below w'.heap.size w' w'') : PV w w'' b1 a n m x :=
  ⟨h.ra.below hb, h.rn.below hb, h.rm.below hb, h.rr.below hb, h.oo.below hb, h.bw.trans (hb.mono h.bw.size), h.gg⟩
theorem PV.put {w w' : World} {b1 a n m x : Nat} (h : PV w w' b1 a n m x) (y : Nat) : PV w (w'.setRow b1 #[B (l0 y), B (l1 y), B (l2 y), B (l3 y)]) b1 a n m y := by
  have hg := h.gg
  exact ⟨h.ra.set_other _ (by omega), h.rn.set_other _ (by omega), h.rm.set_other _ (by omega), h.rr.set_other _ (by omega), h.oo.set_same _, below_setRow h.bw (by omega) _, hg⟩

set_option maxRecDepth 100000 in
set_option maxHeartbeats 4000000 in
theorem rpow_raw (a n m nb : Nat) (E Q : Nat → Nat) (hnb : nb ≤ 256) (w : World)
    (c0 : Hid (∀ w, Calls Try.prog 12 #[I4 0 0 0 0, I4 1 0 0 0, U m] w fun e w' => e = .returned (U (E nb)) ∧ Below w.heap.size w w'))
    (cb : Hid (∀ w, Calls Try.prog 43 #[U n] w fun e w' => e = .returned (.int .i64 (nb : Nat)) ∧ Below w.heap.size w w'))
    (cs : Hid (∀ p, p < nb → ∀ w', Calls Try.prog 19 #[U (E (p + 1)), U (E (p + 1)), U m] w' fun e w'' => e = .returned (U (Q p)) ∧ Below w'.heap.size w' w''))
    (cm : Hid (∀ p, p < nb → n / 2 ^ p % 2 = 1 → ∀ w', Calls Try.prog 19 #[U (Q p), U a, U m] w' fun e w'' => e = .returned (U (E p)) ∧ Below w'.heap.size w' w''))
    (ce : Hid (∀ p, p < nb → n / 2 ^ p % 2 = 0 → Q p = E p))
    (cb2 : Hid (∀ p : Nat, p < nb → ∀ w', Calls Try.prog 44 #[U n, .int .i64 (p : Int)] w' fun e w'' => e = .returned (B (n / 2 ^ p % 2)) ∧ Below w'.heap.size w' w'')) :
    Calls Try.prog 23 #[U a, U n, U m] w fun e w' => e = .returned (U (E 0)) ∧ Below w.heap.size w w' := by
  go_enter Try.func23, Try.ntmps23
  go_wp2_with fail
  refine (c0.out _).mono ?_
  rintro e w1 ⟨rfl, hb1⟩
  have Ra : Hid (HasRow w1 (w.heap.size) #[B (l0 a), B (l1 a), B (l2 a), B (l3 a)]) := (HasRow.old (HasRow.old (HasRow.old (HasRow.last (by simp))))).below hb1
  have Rn : Hid (HasRow w1 (w.heap.size + 1) #[B (l0 n), B (l1 n), B (l2 n), B (l3 n)]) := (HasRow.old (HasRow.old (HasRow.last (by simp)))).below hb1
  have Rm : Hid (HasRow w1 (w.heap.size + 1 + 1) #[B (l0 m), B (l1 m), B (l2 m), B (l3 m)]) := (HasRow.old (HasRow.last (by simp))).below hb1
  have Rr : Hid (HasRow w1 (w.heap.size + 1 + 1 + 1) #[.int .u64 0, .int .u64 0, .int .u64 0, .int .u64 0]) := (HasRow.last (by simp)).below hb1
  have B1 : Hid (Below w.heap.size w w1) := bel_call (by (repeat (first | exact Below.refl _ _ | refine bel_alloc ?_ _))) hb1
  have n0 : w1.cell? ⟨w.heap.size + 1, 0, none⟩ = some (B (l0 n)) := Rn.out.cell 0
  have n1 : w1.cell? ⟨w.heap.size + 1, 1, none⟩ = some (B (l1 n)) := Rn.out.cell 1
  have n2 : w1.cell? ⟨w.heap.size + 1, 2, none⟩ = some (B (l2 n)) := Rn.out.cell 2
  have n3 : w1.cell? ⟨w.heap.size + 1, 3, none⟩ = some (B (l3 n)) := Rn.out.cell 3
  have mz := Rr.out.lt
  have mq0 : w.heap.size < w1.heap.size := by omega
  have mq1 : w.heap.size + 1 < w1.heap.size := by omega
  have mq2 : w.heap.size + 1 + 1 < w1.heap.size := by omega
  have mq3 : w.heap.size + 1 + 1 + 1 < w1.heap.size := by omega
  clear hb1
  go_wp2_with fail
  refine (cb.out _).mono ?_
  rintro e w2 ⟨rfl, hb2⟩
  have F0 : Hid (PV w w2 w1.heap.size a n m (E nb)) := ⟨(HasRow.old Ra.out).below hb2, (HasRow.old Rn.out).below hb2, (HasRow.old Rm.out).below hb2, (HasRow.old Rr.out).below hb2, (HasRow.last rfl).below hb2, bel_call (bel_alloc B1.out _) hb2, mz⟩
  clear hb2 Ra Rn Rm Rr B1 n0 n1 n2 n3 mq0 mq1 mq2 mq3 mz
  generalize w1.heap.size = b1 at *
  go_wp2
  go_loopw [8] (fun s w' => ∃ t : Nat, t ≤ nb ∧ s = .int .i64 ((t : Int) - 1) ∧ PV w w' b1 a n m (E t)) (fun s _ => (intOf s + 1).toNat)
  case atStart => exact ⟨nb, Nat.le_refl _, rfl, F0.out⟩
  case round =>
    obtain ⟨t, ht, rfl, hS⟩ := hrel
    clear F0
    have KS : Hid _ := hS
    clear hS
    rcases t with _ | p
    · rw [show ((0 : Nat) : Int) - 1 = -1 by rfl]
      have o0 : wr.cell? ⟨b1, 0, none⟩ = some (B (l0 (E 0))) := KS.out.oo.cell 0
      have o1 : wr.cell? ⟨b1, 1, none⟩ = some (B (l1 (E 0))) := KS.out.oo.cell 1
      have o2 : wr.cell? ⟨b1, 2, none⟩ = some (B (l2 (E 0))) := KS.out.oo.cell 2
      have o3 : wr.cell? ⟨b1, 3, none⟩ = some (B (l3 (E 0))) := KS.out.oo.cell 3
      have g0 : wr.cell? ⟨w.heap.size + 1 + 1 + 1, 0, none⟩ = some (.int .u64 0) := KS.out.rr.cell 0
      have g1 : wr.cell? ⟨w.heap.size + 1 + 1 + 1, 1, none⟩ = some (.int .u64 0) := KS.out.rr.cell 1
      have g2 : wr.cell? ⟨w.heap.size + 1 + 1 + 1, 2, none⟩ = some (.int .u64 0) := KS.out.rr.cell 2
      have g3 : wr.cell? ⟨w.heap.size + 1 + 1 + 1, 3, none⟩ = some (.int .u64 0) := KS.out.rr.cell 3
      have gz0 := KS.out.rr.frozen 0
      have gz1 := KS.out.rr.frozen 1
      have gz2 := KS.out.rr.frozen 2
      have gz3 := KS.out.rr.frozen 3
      have gq := KS.out.rr.lt
      have oq := KS.out.oo.lt
      go_wp2
      rw [set4 KS.out.rr rfl]
      exact bodyPost_ret (v := U (E 0)) (results_cell1 (p := 6) (ty := 24) rfl (g := w.heap.size + 1 + 1 + 1) rfl (HasRow.set_same KS.out.rr _) rfl Try.underlying24 (by kernel_rfl)) rfl ⟨rfl, below_setRow KS.out.bw (by omega) _⟩
    · rw [show ((p + 1 : Nat) : Int) - 1 = (p : Int) by omega]
      have hp : p < nb := ht
      have o0 : wr.cell? ⟨b1, 0, none⟩ = some (B (l0 (E (p + 1)))) := KS.out.oo.cell 0
      have o1 : wr.cell? ⟨b1, 1, none⟩ = some (B (l1 (E (p + 1)))) := KS.out.oo.cell 1
      have o2 : wr.cell? ⟨b1, 2, none⟩ = some (B (l2 (E (p + 1)))) := KS.out.oo.cell 2
      have o3 : wr.cell? ⟨b1, 3, none⟩ = some (B (l3 (E (p + 1)))) := KS.out.oo.cell 3
      have k0 : wr.cell? ⟨w.heap.size + 1 + 1, 0, none⟩ = some (B (l0 m)) := KS.out.rm.cell 0
      have k1 : wr.cell? ⟨w.heap.size + 1 + 1, 1, none⟩ = some (B (l1 m)) := KS.out.rm.cell 1
      have k2 : wr.cell? ⟨w.heap.size + 1 + 1, 2, none⟩ = some (B (l2 m)) := KS.out.rm.cell 2
      have k3 : wr.cell? ⟨w.heap.size + 1 + 1, 3, none⟩ = some (B (l3 m)) := KS.out.rm.cell 3
      go_wp2_with fail
      refine (cs.out p hp _).mono ?_
      rintro e w5 ⟨rfl, hb5⟩
      have K5 : Hid (PV w w5 b1 a n m (E (p + 1))) := KS.out.call hb5
      clear hb5 KS o0 o1 o2 o3 k0 k1 k2 k3
      have g0 : w5.cell? ⟨b1, 0, none⟩ = some (B (l0 (E (p + 1)))) := K5.out.oo.cell 0
      have g1 : w5.cell? ⟨b1, 1, none⟩ = some (B (l1 (E (p + 1)))) := K5.out.oo.cell 1
      have g2 : w5.cell? ⟨b1, 2, none⟩ = some (B (l2 (E (p + 1)))) := K5.out.oo.cell 2
      have g3 : w5.cell? ⟨b1, 3, none⟩ = some (B (l3 (E (p + 1)))) := K5.out.oo.cell 3
      have gz0 := K5.out.oo.frozen 0
      have gz1 := K5.out.oo.frozen 1
      have gz2 := K5.out.oo.frozen 2
      have gz3 := K5.out.oo.frozen 3
      have gq := K5.out.oo.lt
      go_upto_region 6 with fail
      rw [set4 K5.out.oo rfl]
      have K6 : Hid (PV w (w5.setRow b1 #[B (l0 (Q p)), B (l1 (Q p)), B (l2 (Q p)), B (l3 (Q p))]) b1 a n m (Q p)) := K5.out.put (Q p)
      clear K5 g0 g1 g2 g3 gz0 gz1 gz2 gz3 gq
      generalize w5.setRow b1 #[B (l0 (Q p)), B (l1 (Q p)), B (l2 (Q p)), B (l3 (Q p))] = w6 at *
      have n0 : w6.cell? ⟨w.heap.size + 1, 0, none⟩ = some (B (l0 n)) := K6.out.rn.cell 0
      have n1 : w6.cell? ⟨w.heap.size + 1, 1, none⟩ = some (B (l1 n)) := K6.out.rn.cell 1
      have n2 : w6.cell? ⟨w.heap.size + 1, 2, none⟩ = some (B (l2 n)) := K6.out.rn.cell 2
      have n3 : w6.cell? ⟨w.heap.size + 1, 3, none⟩ = some (B (l3 n)) := K6.out.rn.cell 3
      by_cases hb : n / 2 ^ p % 2 = 1
      · go_wp2_with fail
        refine (cb2.out p hp _).mono ?_
        rintro e w7 ⟨rfl, hb7⟩
        have K7 : Hid (PV w w7 b1 a n m (Q p)) := K6.out.call hb7
        rw [hb]
        clear hb7 K6 n0 n1 n2 n3
        have o0 : w7.cell? ⟨b1, 0, none⟩ = some (B (l0 (Q p))) := K7.out.oo.cell 0
        have o1 : w7.cell? ⟨b1, 1, none⟩ = some (B (l1 (Q p))) := K7.out.oo.cell 1
        have o2 : w7.cell? ⟨b1, 2, none⟩ = some (B (l2 (Q p))) := K7.out.oo.cell 2
        have o3 : w7.cell? ⟨b1, 3, none⟩ = some (B (l3 (Q p))) := K7.out.oo.cell 3
        have a0 : w7.cell? ⟨w.heap.size, 0, none⟩ = some (B (l0 a)) := K7.out.ra.cell 0
        have a1 : w7.cell? ⟨w.heap.size, 1, none⟩ = some (B (l1 a)) := K7.out.ra.cell 1
        have a2 : w7.cell? ⟨w.heap.size, 2, none⟩ = some (B (l2 a)) := K7.out.ra.cell 2
        have a3 : w7.cell? ⟨w.heap.size, 3, none⟩ = some (B (l3 a)) := K7.out.ra.cell 3
        have k0 : w7.cell? ⟨w.heap.size + 1 + 1, 0, none⟩ = some (B (l0 m)) := K7.out.rm.cell 0
        have k1 : w7.cell? ⟨w.heap.size + 1 + 1, 1, none⟩ = some (B (l1 m)) := K7.out.rm.cell 1
        have k2 : w7.cell? ⟨w.heap.size + 1 + 1, 2, none⟩ = some (B (l2 m)) := K7.out.rm.cell 2
        have k3 : w7.cell? ⟨w.heap.size + 1 + 1, 3, none⟩ = some (B (l3 m)) := K7.out.rm.cell 3
        go_wp2_with fail
        refine (cm.out p hp hb _).mono ?_
        rintro e w8 ⟨rfl, hb8⟩
        have K8 : Hid (PV w w8 b1 a n m (Q p)) := K7.out.call hb8
        clear hb8 K7 o0 o1 o2 o3 a0 a1 a2 a3 k0 k1 k2 k3
        have g0 : w8.cell? ⟨b1, 0, none⟩ = some (B (l0 (Q p))) := K8.out.oo.cell 0
        have g1 : w8.cell? ⟨b1, 1, none⟩ = some (B (l1 (Q p))) := K8.out.oo.cell 1
        have g2 : w8.cell? ⟨b1, 2, none⟩ = some (B (l2 (Q p))) := K8.out.oo.cell 2
        have g3 : w8.cell? ⟨b1, 3, none⟩ = some (B (l3 (Q p))) := K8.out.oo.cell 3
        have gz0 := K8.out.oo.frozen 0
        have gz1 := K8.out.oo.frozen 1
        have gz2 := K8.out.oo.frozen 2
        have gz3 := K8.out.oo.frozen 3
        have gq := K8.out.oo.lt
        go_upto_region 4 with fail
        rw [set4 K8.out.oo rfl]
        have K9 : Hid (PV w (w8.setRow b1 #[B (l0 (E p)), B (l1 (E p)), B (l2 (E p)), B (l3 (E p))]) b1 a n m (E p)) := K8.out.put (E p)
        clear K8 g0 g1 g2 g3 gz0 gz1 gz2 gz3 gq
        generalize w8.setRow b1 #[B (l0 (E p)), B (l1 (E p)), B (l2 (E p)), B (l3 (E p))] = w9 at *
        go_wp2
        go_roundw
        case rel => exact ⟨p, by omega, rfl, K9.out⟩
        case measure => simp [intOf]; try omega
      · have hb0 : n / 2 ^ p % 2 = 0 := by omega
        have hE := ce.out p hp hb0
        go_wp2_with fail
        refine (cb2.out p hp _).mono ?_
        rintro e w7 ⟨rfl, hb7⟩
        have K7 : Hid (PV w w7 b1 a n m (Q p)) := K6.out.call hb7
        rw [hb0]
        clear hb7 K6 n0 n1 n2 n3
        go_wp2
        go_roundw
        case rel => exact ⟨p, by omega, rfl, hE ▸ K7.out⟩
        case measure => simp [intOf]; try omega
end Go.Proofs.Ytillbhdcnhcbhaa
