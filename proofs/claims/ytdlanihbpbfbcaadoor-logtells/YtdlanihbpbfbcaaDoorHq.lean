/- Contract of the program's Permute. -/
import Derived.Test.YtdlanihbpbfbcaaDoorHp
namespace Go.Proofs.YtdlanihbpbfbcaaDoor
open Go.RowKit
set_option linter.unusedVariables false
def ki (i : Nat) : Nat := ([1, 32898, 9223372036854808714, 9223372039002292224, 32907, 2147483649, 9223372039002292353, 9223372036854808585, 138, 136, 2147516425, 2147483658, 2147516555, 9223372036854775947, 9223372036854808713, 9223372036854808579, 9223372036854808578, 9223372036854775936, 32778, 9223372039002259466, 9223372039002292353, 9223372036854808704, 2147483649, 9223372039002292232] : List Nat).getD i 0
theorem ki_lt : ∀ i, i < 24 → ki i < M := by decide
/-- One round. -/
def rd (f : Nat → Nat) (k : Nat) : Nat → Nat := upd (chi (rho (theta f))) 0 (chi (rho (theta f)) 0 ^^^ ki k)
def prm (f : Nat → Nat) : Nat → Nat → Nat
  | 0 => f
  | k + 1 => rd (prm f k) k
theorem rd_lt {f : Nat → Nat} (h : P25 f) {k : Nat} (hk : k < 24) : P25 (rd f k) := fun i hi => by
  have hc := chi_lt (rho_lt (theta_lt h))
  unfold rd; rw [upd_at]; split
  · exact xor_lt (hc 0 (by decide)) (ki_lt k hk)
  · exact hc i hi
theorem prm_lt {f : Nat → Nat} (h : P25 f) : ∀ k, k ≤ 24 → P25 (prm f k)
  | 0, _ => h
  | k + 1, hk => rd_lt (prm_lt h k (by omega)) (by omega)
theorem Calls.v25 {fn : Nat} {f g : Nat → Nat} {w : World} (h : Calls Tryd.prog fn #[A25 f] w fun e w' => e = .returned (A25 g) ∧ Below w.heap.size w w') {c : Array Value} (hc : IsRow c .u64 25 f) :
    Calls Tryd.prog fn #[.agg c] w fun e w' => (∃ c', e = .returned (.agg c') ∧ IsRow c' .u64 25 g) ∧ Below w.heap.size w w' := by
  rw [hc.eq]
  exact h.mono fun e w' ⟨he, hb⟩ => ⟨⟨_, he, ⟨rfl⟩⟩, hb⟩

set_option maxRecDepth 100000 in
set_option maxHeartbeats 4000000 in
theorem permute_any (f : Nat → Nat) (hf : P25 f) (w : World) (ht : Tabs w ki) : Calls Tryd.prog 21 #[A25 f] w fun e w' => e = .returned (A25 (prm f 24)) ∧ Below w.heap.size w w' := by
  obtain ⟨h', hh⟩ : ∃ q, q = prm f 24 := ⟨_, rfl⟩
  rw [← hh]
  have HH : Hid _ := hh
  clear hh
  have G : Hid (P25 f) := hf
  have HT0 : Hid (Tabs w ki) := ht
  clear hf ht
  go_enter Tryd.func21, Tryd.ntmps21
  go_wp2
  go_loopw [4] (fun i w' => ∃ (j : Nat) (h : Nat → Nat), j ≤ 24 ∧ i = .int .i64 (j : Int) ∧ HasRow w' w.heap.size (ag .u64 25 h) ∧ HasRow w' (w.heap.size + 1) z25 ∧ Below w.heap.size w w' ∧ h = prm f j) (fun i _ => 24 - (intOf i).toNat)
  case atStart =>
    exact ⟨0, f, Nat.zero_le _, rfl, HasRow.old (HasRow.last rfl), HasRow.last (by simp), by repeat (first | exact Below.refl _ _ | refine bel_alloc ?_ _), rfl⟩
  case round =>
    obtain ⟨j, h, hj, rfl, r1, r2, bel, hT⟩ := hrel
    have R1 : Hid (HasRow wr w.heap.size (ag .u64 25 h)) := r1
    have R2 : Hid (HasRow wr (w.heap.size + 1) z25) := r2
    have BL : Hid (Below w.heap.size w wr) := bel
    have HT : Hid (h = prm f j) := hT
    clear hT r1 r2 bel
    by_cases hlt : j < 24
    · have HJ : Hid (j < 24) := hlt
      have hd0 : (j : Int) < 24 := by omega
      have L : Hid (P25 h) := by have := prm_lt G.out j (by omega); rw [← HT.out] at this; exact this
      have RT : Hid (Tabs wr ki) := HT0.out.below BL.out
      clear hlt hj
      go_upto_region 4 with fail
      refine wp_region_lit ?_
      refine wpList_vload rfl 42 (.tmp 1) rfl w.heap.size rfl .u64 25 h R1.out Tryd.underlying42 (by kernel_rfl) ?_
      intro c0 hc0
      have C0 : Hid _ := hc0
      clear hc0
      go_wp2_with fail
      refine (Calls.v25 (spread_any h L.out _) C0.out).mono ?_
      rintro e w1 ⟨⟨c1, rfl, hc1⟩, hb1⟩
      have C1 : Hid _ := hc1
      have B1 : Hid (Below wr.heap.size wr w1) := hb1
      clear hc1 hb1
      go_wp2_with fail
      refine (Calls.v25 (moved_any (theta h) ki (theta_lt L.out) _ (RT.out.below B1.out)) C1.out).mono ?_
      rintro e w2 ⟨⟨c2, rfl, hc2⟩, hb2⟩
      have C2 : Hid _ := hc2
      have B2 : Hid (Below wr.heap.size wr w2) := B1.out.trans (hb2.mono B1.out.size)
      clear hc2 hb2 B1
      go_wp2_with fail
      refine (Calls.v25 (sifted_any (rho (theta h)) (rho_lt (theta_lt L.out)) _) C2.out).mono ?_
      rintro e w3 ⟨⟨c3, rfl, hc3⟩, hb3⟩
      have B3 : Hid (Below wr.heap.size wr w3) := B2.out.trans (hb3.mono B2.out.size)
      have Q1 : Hid (HasRow w3 w.heap.size (ag .u64 25 h)) := R1.out.below B3.out
      have Q2 : Hid (HasRow w3 (w.heap.size + 1) z25) := R2.out.below B3.out
      have QT : Hid (Tabs w3 ki) := RT.out.below B3.out
      have BM : Hid (Below w.heap.size w w3) := BL.out.trans (B3.out.mono BL.out.size)
      have L3 : Hid (P25 (chi (rho (theta h)))) := chi_lt (rho_lt (theta_lt L.out))
      have hsz := hc3.size
      have hsc := run_storeCells_v (P := Tryd.prog) hc3 (g := w.heap.size) 42 (by kernel_rfl) (StoreTo.row Q1.out (ag_size _ _ _))
      clear hc3 hb3 B2 B3 R1 R2 RT BL C0 C1 C2
      obtain ⟨h3, hh3⟩ : ∃ q, q = chi (rho (theta h)) := ⟨_, rfl⟩
      rw [← hh3] at L3 hsc
      have H3 : Hid _ := hh3
      clear hh3
      go_upto_region 5 with fail
      refine name_world _ ?_
      intro w4 hw4
      have K1 : Hid (HasRow w4 w.heap.size (ag .u64 25 h3)) := by show HasRow w4 _ _; rw [hw4]; exact Q1.out.set_same _
      have K2 : Hid (HasRow w4 (w.heap.size + 1) z25) := by show HasRow w4 _ _; rw [hw4]; exact Q2.out.set_other _ (by omega)
      have BN : Hid (Below w.heap.size w w4) := by show Below _ w w4; rw [hw4]; exact below_setRow BM.out (Nat.le_refl _) _
      have KT : Hid (Tabs w4 ki) := HT0.out.below BN.out
      clear hw4 hsc Q1 Q2 QT BM hsz
      have d1 := cell_regrown (HasRow.at K1.out (show 0 < 25 by omega))
      have d2 := cell_regrown (TabRow.at KT.out.m HJ.out)
      have E : Hid _ := bits_xor (h3 0) (ki j) (L3.out 0 (by decide)) (ki_lt j HJ.out)
      refine wp_region_last_below (by kernel_rfl) (by kernel_rfl) (by simp) ?_
      simp only [List.dropLast]
      repeat (go_big_quiet_step (fail))
      refine wpQuiet_nil ?_
      intro w5 hw'
      have hb : Below w4.heap.size w4 w5 := by obtain ⟨p, rfl⟩ := hw'; exact below_regrown _ _ _
      clear hw' d1 d2
      have q1 := HasRow.at (K1.out.below hb) (show 0 < 25 by omega)
      have q2 := HasRow.frozen (K1.out.below hb) 0
      have HB : Hid _ := hb
      clear hb
      refine wpOp_plain rfl rfl ?_
      go_simp
      rw [E.out]
      go_wp2
      go_roundw
      case rel =>
        have hb := HB.out
        refine ⟨j + 1, _, HJ.out, by go_num, ?_, ?_, ?_, rfl⟩
        · rw [HasRow.setCell (K1.out.below hb), ag_set, H3.out, HT.out]
          exact (K1.out.below hb).set_same _
        · rw [HasRow.setCell (K1.out.below hb)]
          exact (K2.out.below hb).set_other _ (by omega)
        · rw [HasRow.setCell (K1.out.below hb)]
          exact below_setRow (BN.out.trans (hb.mono BN.out.size)) (Nat.le_refl _) _
      case measure => simp [intOf]; have := HJ.out; omega
    · have hjn : j = 24 := by omega
      subst hjn
      have R4 : Hid (HasRow wr w.heap.size (ag .u64 25 h')) := by have := R1.out; rw [HT.out, ← HH.out] at this; exact this
      clear HT R1
      go_upto_region 7 with fail
      refine wp_region_lit ?_
      refine wpList_vload rfl 42 (.tmp 1) rfl w.heap.size rfl .u64 25 h' R4.out Tryd.underlying42 (by kernel_rfl) ?_
      intro v hv
      have hsz := hv.size
      have hsc := run_storeCells_v (P := Tryd.prog) hv (g := w.heap.size + 1) 42 (by kernel_rfl) (StoreTo.row R2.out (by rfl))
      clear hv
      go_wp2
      exact bodyPost_ret (v := A25 h') (results_cell1 (p := 2) (ty := 42) rfl (g := w.heap.size + 1) rfl (HasRow.set_same R2.out (ag .u64 25 h')) (ag_size _ _ _) Tryd.underlying42 (by kernel_rfl)) rfl ⟨rfl, below_setRow BL.out (by omega) _⟩
end Go.Proofs.YtdlanihbpbfbcaaDoor
