/- The walk of the law HashBlocks. -/
import Derived.Test.YthpjdnapoafkgaaDoorL1
import Derived.Test.YthpjdnapoafkgaaDoorHv
import Derived.Test.YthpjdnapoafkgaaDoorHu
import Derived.Laws.IdiomStrings
namespace Go.Proofs.YthpjdnapoafkgaaDoor
open Go.RowKit
set_option linter.unusedVariables false
theorem or_xor {x y k : Nat} (h : x < 2 ^ k) : x ||| y * 2 ^ k = x ^^^ y * 2 ^ k := by
  apply Nat.eq_of_testBit_eq
  intro z
  rw [Nat.testBit_or, Nat.testBit_xor, Nat.testBit_mul_two_pow]
  by_cases hz : k ≤ z
  · rw [Nat.testBit_lt_two_pow (Nat.lt_of_lt_of_le h (Nat.pow_le_pow_right (by decide) hz))]; simp
  · simp [hz]
theorem tk_small {g : Nat → Nat} (hg : ∀ i, g i < 256) : ∀ j i, tk (fun _ => 0) g j i < 2 ^ (8 * min 8 (j - 8 * i))
  | 0, i => by unfold tk; exact Nat.pos_of_ne_zero (by simp)
  | j + 1, i => by
    unfold tk
    rw [upd_at]
    split
    · next e =>
      have h1 := tk_small hg j (j / 8)
      have e1 : min 8 (j - 8 * (j / 8)) = j % 8 := by omega
      have e2 : min 8 (j + 1 - 8 * i) = j % 8 + 1 := by omega
      rw [e1] at h1
      rw [e2]
      refine Nat.xor_lt_two_pow (Nat.lt_of_lt_of_le h1 (Nat.pow_le_pow_right (by decide) (by omega))) ?_
      have h2 := hg j
      rw [show 8 * (j % 8 + 1) = 8 + j % 8 * 8 by omega, Nat.pow_add]
      exact Nat.mul_lt_mul_of_pos_right h2 (Nat.pow_pos (by decide))
    · exact Nat.lt_of_lt_of_le (tk_small hg j i) (Nat.pow_le_pow_right (by decide) (by omega))
theorem or_int (a x s : Nat) (ha : a < 2 ^ (s * 8)) (hm : a < M) (hx : x < 256) (hs : s < 8) : bits .or .u64 (a : Int) (IntKind.u64.wrap ((x : Int) * 2 ^ (s * 8))) = ((a ^^^ x * 2 ^ (s * 8) : Nat) : Int) := by
  have hb := byte_shl hx hs
  have e : IntKind.u64.wrap ((x : Int) * 2 ^ (s * 8)) = ((x * 2 ^ (s * 8) : Nat) : Int) := by
    rw [show (x : Int) * 2 ^ (s * 8) = ((x * 2 ^ (s * 8) : Nat) : Int) by simp]
    generalize x * 2 ^ (s * 8) = y at *
    simp only [IntKind.wrap_u64]; unfold M at hb; omega
  rw [e, bits_or _ _ hm hb, or_xor ha]
theorem or1 : bits .or .u8 0 1 = 1 := by decide +kernel
theorem told_at (f : Nat → Nat) (k : Nat) (hk : k < 32) (w : World) : (Instr.index 9 (.string (told f)) (.int .i64 (k : Int))).run Tryd.prog w = .ok (.int .u8 ((tb f k : Nat) : Int)) w := by
  have h2 : k < (told f).size := by rw [told_size]; exact hk
  have h3 : ((told f)[k]'h2).toNat = tb f k := by
    have hb : tb f k < 256 := Nat.mod_lt _ (by decide)
    unfold told strOfNums
    simp [ByteArray.getElem_eq_getElem_data]
    omega
  have h4 := run_index_string (P := Tryd.prog) w 9 (told f) .i64 (k : Int) Tryd.underlying9
  rw [dif_pos ⟨by omega, by omega⟩] at h4
  rw [h4]
  simp only [Int.toNat_natCast, h3]
set_option maxRecDepth 100000 in
theorem blocks_long (s : ByteArray) (hs : (135 : Int) < (s.size : Int)) (w : World)
    (h3 : Hid (∀ w', Below w.heap.size w w' → Calls Tryd.prog 10 #[] w' fun e w'' => e = .returned (.bool true) ∧ Below w'.heap.size w' w'')) :
    Calls Tryd.prog 7 #[.string s] w fun e w' => e = .returned (.bool true) ∧ Below w.heap.size w w' := by
  go_enter Tryd.func7, Tryd.ntmps7
  go_wp2_with fail
  refine (h3.out _ (Below.refl _ _)).mono ?_
  rintro e w4 ⟨rfl, hb4⟩
  go_wp2
  go_ret
  exact ⟨rfl, hb4⟩
set_option maxRecDepth 100000 in
set_option maxHeartbeats 4000000 in
theorem blocks_gen (s A : ByteArray) (f : Nat → Nat) (hs : s.size < 136) (hA : A.size = 32) (w : World)
    (hf : Hid (f = prm (tk (fun _ => 0) (fl s) 136) 24))
    (hx : Hid (∀ k : Nat, k < 32 → ∀ w, (Instr.index 9 (.string A) (.int .i64 (k : Int))).run Tryd.prog w = .ok (.int .u8 ((tb f k : Nat) : Int)) w))
    (h1 : Hid (∀ w', Below w.heap.size w w' → Calls Tryd.prog 11 #[.string s] w' fun e w'' => e = .returned (.string A) ∧ Below w'.heap.size w' w''))
    (h3 : Hid (∀ w', Below w.heap.size w w' → Calls Tryd.prog 10 #[] w' fun e w'' => e = .returned (.bool true) ∧ Below w'.heap.size w' w'')) :
    Calls Tryd.prog 7 #[.string s] w fun e w' => e = .returned (.bool true) ∧ Below w.heap.size w w' := by
  have hz := fun w => zero31 w
  have HS : Hid (s.size < 136) := hs
  have i0 : ¬ (135 : Int) < (s.size : Int) := by omega
  have i1 : (s.size : Int) < 136 := by omega
  have hA1 : (A.size : Int) = 32 := by omega
  clear hs
  go_enter Tryd.func7, Tryd.ntmps7
  go_upto_region 4 with fail
  refine name_world _ ?_
  intro w0 hw0
  have K0 : Hid (HasRow w0 w.heap.size (ag .u8 136 fun _ => 0) ∧ Below w.heap.size w w0 ∧ w0.heap.size = w.heap.size + 1) := by
    show _ ∧ _ ∧ _
    rw [hw0]
    exact ⟨HasRow.last rfl, bel_alloc (Below.refl _ _) _, by simp⟩
  clear hw0 hz
  have hcp := copy_row w0 w.heap.size 136 3 (fun _ => 0) s K0.out.1
  rw [show Nat.min s.size 136 = s.size from Nat.min_eq_left (by have := HS.out; omega)] at hcp
  go_upto_region 5 with fail
  refine name_world _ ?_
  intro w1 hw1
  have K1 : Hid (HasRow w1 w.heap.size (ag .u8 136 (ov s fun _ => 0)) ∧ Below w.heap.size w w1 ∧ w1.heap.size = w.heap.size + 1) := by
    show _ ∧ _ ∧ _
    rw [hw1]
    exact ⟨K0.out.1.set_same _, below_setRow K0.out.2.1 (Nat.le_refl _) _, by rw [size_setRow]; exact K0.out.2.2⟩
  clear hw1 hcp K0
  have q1 := HasRow.at K1.out.1 HS.out
  rw [show ov s (fun _ => 0) s.size = 0 by unfold ov; rw [if_neg (Nat.lt_irrefl _)]] at q1
  have q2 := HasRow.frozen K1.out.1 s.size
  have e1 := or1
  go_upto_region 6 with fail
  refine name_world _ ?_
  intro w2 hw2
  obtain ⟨g2, hg2⟩ : ∃ q, q = upd (ov s fun _ => 0) s.size 1 := ⟨_, rfl⟩
  have K2 : Hid (HasRow w2 w.heap.size (ag .u8 136 g2) ∧ Below w.heap.size w w2 ∧ w2.heap.size = w.heap.size + 1) := by
    show _ ∧ _ ∧ _
    rw [hw2, HasRow.setCell K1.out.1, hg2, ← ag_set]
    exact ⟨K1.out.1.set_same _, below_setRow K1.out.2.1 (Nat.le_refl _) _, by rw [size_setRow]; exact K1.out.2.2⟩
  have HG2 : Hid _ := hg2
  clear hw2 K1 q1 q2 hg2 e1
  have g256 : g2 135 < 256 := by rw [HG2.out, upd_at]; split; · decide
                                 unfold ov; split; · exact bt_lt _ _
                                 decide
  have q1 := HasRow.at K2.out.1 (show 135 < 136 by omega)
  have q2 := HasRow.frozen K2.out.1 135
  have E : Hid _ := or128 (g2 135) g256
  clear g256
  go_upto_region 7 with fail
  rw [E.out]
  refine name_world _ ?_
  intro w3 hw3
  have K3 : Hid (HasRow w3 w.heap.size (ag .u8 136 (fl s)) ∧ Below w.heap.size w w3 ∧ w3.heap.size = w.heap.size + 1) := by
    have e : ag .u8 136 (upd g2 135 (g2 135 ||| 128)) = ag .u8 136 (fl s) := ag_congr _ _ fun i hi => by
      have hs := HS.out
      rw [HG2.out, upd_at]
      unfold fl
      by_cases e1 : i = 135
      · rw [if_pos e1, if_pos e1, upd_at]
        by_cases e2 : 135 = s.size
        · rw [if_pos e2, if_pos e2]; rfl
        · rw [if_neg e2, if_neg e2]; unfold ov; rw [if_neg (by omega)]; rfl
      · rw [if_neg e1, if_neg e1, upd_at]
        by_cases e2 : i = s.size
        · rw [if_pos e2, if_pos e2]
        · rw [if_neg e2, if_neg e2]; rfl
    show _ ∧ _ ∧ _
    rw [hw3, HasRow.setCell K2.out.1, ag_set, e]
    exact ⟨K2.out.1.set_same _, below_setRow K2.out.2.1 (Nat.le_refl _) _, by rw [size_setRow]; exact K2.out.2.2⟩
  clear hw3 K2 q1 q2 E HG2
  have hz3 : w3.heap.size = w.heap.size + 1 := K3.out.2.2
  go_upto_region 8 with fail
  refine name_world _ ?_
  intro w4 hw4
  have K4 : Hid (HasRow w4 w.heap.size (ag .u8 136 (fl s)) ∧ HasRow w4 (w.heap.size + 1) (ag .u64 25 fun _ => 0) ∧ Below w.heap.size w w4) := by
    show _ ∧ _ ∧ _
    rw [hw4]
    exact ⟨HasRow.old K3.out.1, HasRow.last hz3.symm, bel_alloc K3.out.2.1 _⟩
  clear hw4 hz3 K3
  refine wp_region_lit ?_
  refine wpList_vload rfl 31 (.tmp 3) rfl w.heap.size rfl .u8 136 (fl s) K4.out.1 Tryd.underlying31 (by kernel_rfl) ?_
  intro c hc
  have HC : Hid _ := hc
  clear hc
  obtain ⟨g, hg⟩ : ∃ g, g = fl s := ⟨_, rfl⟩
  have HC : Hid (IsRow c .u8 136 g) := by rw [hg]; exact HC.out
  have HG : Hid (∀ i, g i < 256) := by rw [hg]; exact fl_lt s
  have HF : Hid (f = prm (tk (fun _ => 0) g 136) 24) := by rw [hg]; exact hf.out
  clear hf hg
  have K5 : Hid (HasRow w4 (w.heap.size + 1) (ag .u64 25 fun _ => 0) ∧ Below w.heap.size w w4) := ⟨K4.out.2.1, K4.out.2.2⟩
  clear K4
  go_wp2
  go_loopw [27] (fun i w' => ∃ (j : Nat) (h : Nat → Nat), j ≤ 136 ∧ i = .int .i64 (j : Int) ∧ HasRow w' (w.heap.size + 1) (ag .u64 25 h) ∧ Below w.heap.size w w' ∧ h = tk (fun _ => 0) g j) (fun i _ => 136 - (intOf i).toNat)
  case atStart =>
    exact ⟨0, fun _ => 0, Nat.zero_le _, rfl, K5.out.1, K5.out.2, rfl⟩
  case round =>
    clear K5
    obtain ⟨j, h, hj, rfl, r1, bel, hT⟩ := hrel
    have R1 : Hid (HasRow wr (w.heap.size + 1) (ag .u64 25 h)) := r1
    have BL : Hid (Below w.heap.size w wr) := bel
    have HT : Hid (h = tk (fun _ => 0) g j) := hT
    clear hT r1 bel
    have HP : Hid (P25 h) := by rw [HT.out]; exact tk_lt (fun _ _ => (by decide : (0 : Nat) < M)) (fun i _ => HG.out i) j hj
    by_cases hlt : j < 136
    · have HJ : Hid (j < 136) := hlt
      have hd0 : (j : Int) < 136 := by omega
      have hx := fun w => run_idx136 HC.out j hlt w
      have g256 := HG.out j
      have i1 : ((g j : Nat) : Int) < 256 := by omega
      have i2 : (j : Int) / 8 < 25 := by omega
      have d1 := cell_regrown (HasRow.at R1.out (show j / 8 < 25 by omega))
      have E : Hid _ := or_int (h (j / 8)) (g j) (j % 8) (by have e := tk_small HG.out j (j / 8); rw [← HT.out, show 8 * min 8 (j - 8 * (j / 8)) = j % 8 * 8 by omega] at e; exact e) (HP.out _ (by omega)) g256 (Nat.mod_lt _ (by decide))
      clear hlt hj g256
      go_upto_region 11 with fail
      refine wp_region_last_below (by kernel_rfl) (by kernel_rfl) (by simp) ?_
      simp only [List.dropLast]
      repeat (go_big_quiet_step (fail))
      refine wpQuiet_nil ?_
      intro w5 hw'
      have hb : Below wr.heap.size wr w5 := by obtain ⟨p, rfl⟩ := hw'; exact below_regrown _ _ _
      clear hw' d1
      have q1 := HasRow.at (R1.out.below hb) (show j / 8 < 25 by omega)
      have q2 := HasRow.frozen (R1.out.below hb) (j / 8)
      have HB : Hid _ := hb
      clear hb
      refine wpOp_plain rfl rfl ?_
      go_simp
      rw [E.out]
      go_wp2
      go_roundw
      case rel =>
        have hb := HB.out
        refine ⟨j + 1, _, HJ.out, by go_num, ?_, ?_, rfl⟩
        · rw [HasRow.setCell (R1.out.below hb), ag_set, HT.out]
          exact (R1.out.below hb).set_same _
        · rw [HasRow.setCell (R1.out.below hb)]
          exact below_setRow (BL.out.trans (hb.mono BL.out.size)) (by omega) _
      case measure => simp [intOf]; have := HJ.out; omega
    · have hjn : j = 136 := by omega
      subst hjn
      clear hlt hj
      go_upto_region 13 with fail
      refine wp_region_lit ?_
      refine wpList_vload rfl 23 (.tmp 4) rfl (w.heap.size + 1) rfl .u64 25 h R1.out Tryd.underlying23 (by kernel_rfl) ?_
      intro c0 hc0
      have C0 : Hid _ := hc0
      clear hc0
      go_wp2_with fail
      refine (Calls.v25 (rpermute_any h HP.out _) C0.out).mono ?_
      rintro e w6 ⟨⟨c1, rfl, hc1⟩, hb1⟩
      have hsz1 := hc1.size
      have hs1 := run_storeCells_v (P := Tryd.prog) hc1 (g := w.heap.size + 1) 23 (by kernel_rfl) (StoreTo.row (R1.out.below hb1) (ag_size _ _ _))
      have HB1 : Hid _ := hb1
      clear hc1 hb1
      go_upto_region 14 with fail
      refine name_world _ ?_
      intro w7 hw7
      have K7 : Hid (HasRow w7 (w.heap.size + 1) (ag .u64 25 f) ∧ Below w.heap.size w w7) := by
        show _ ∧ _
        have hb := HB1.out
        rw [hw7, HF.out, ← HT.out]
        exact ⟨(R1.out.below hb).set_same _, below_setRow (BL.out.trans (hb.mono BL.out.size)) (by omega) _⟩
      clear hw7 hs1 hsz1 HB1 R1 BL HT HP HF C0
      go_wp2_with fail
      refine (h1.out _ K7.out.2).mono ?_
      rintro e w8 ⟨rfl, hb8⟩
      have K8 : Hid (HasRow w8 (w.heap.size + 1) (ag .u64 25 f) ∧ Below w.heap.size w w8) := ⟨K7.out.1.below hb8, K7.out.2.trans (hb8.mono K7.out.2.size)⟩
      clear hb8 K7
      go_upto_region 18 with fail
      go_loopw [51] (fun i w' => ∃ (j : Nat), j ≤ 32 ∧ i = .int .i64 (j : Int) ∧ HasRow w' (w.heap.size + 1) (ag .u64 25 f) ∧ Below w.heap.size w w') (fun i _ => 32 - (intOf i).toNat)
      case atStart =>
        exact ⟨0, Nat.zero_le _, rfl, K8.out.1, K8.out.2⟩
      case round =>
        clear K8
        obtain ⟨j, hj, rfl, r1, bel⟩ := hrel
        have R1 : Hid (HasRow wr (w.heap.size + 1) (ag .u64 25 f)) := r1
        have BL : Hid (Below w.heap.size w wr) := bel
        clear r1 bel
        by_cases hlt : j < 32
        · have HJ : Hid (j < 32) := hlt
          have hd0 : (j : Int) < 32 := by omega
          have i2 : (j : Int) / 8 < 25 := by omega
          have d1 := cell_regrown (HasRow.at R1.out (show j / 8 < 25 by omega))
          have hxj := hx.out j hlt
          have E : Hid (((f (j / 8) : Nat) : Int) / 2 ^ (j % 8 * 8) % 256 = ((tb f j : Nat) : Int)) := by show _ = _; unfold tb; simp
          clear hlt hj
          go_upto_region 20 with fail
          refine wp_region_quiet_below (by kernel_rfl) (by kernel_rfl) ?_
          repeat (go_big_quiet_step (fail))
          refine wpQuiet_nil ?_
          intro w5 hw'
          have hb : Below wr.heap.size wr w5 := by obtain ⟨p, rfl⟩ := hw'; exact below_regrown _ _ _
          clear hw' d1
          have HB : Hid _ := hb
          clear hb
          rw [E.out]
          go_wp2
          go_roundw
          case rel =>
            have hb := HB.out
            exact ⟨j + 1, HJ.out, by go_num, R1.out.below hb, BL.out.trans (hb.mono BL.out.size)⟩
          case measure => simp [intOf]; have := HJ.out; omega
        · have hjn : j = 32 := by omega
          subst hjn
          clear hlt hj
          go_wp2_with fail
          refine (h3.out _ BL.out).mono ?_
          rintro e w9 ⟨rfl, hb9⟩
          go_wp2
          go_ret
          exact ⟨rfl, BL.out.trans (hb9.mono BL.out.size)⟩
theorem blocks_walk (s : ByteArray) (w : World) (ht : Tabs w ki) : Calls Tryd.prog 7 #[.string s] w fun e w' => e = .returned (.bool true) ∧ Below w.heap.size w w' := by
  by_cases hs : (135 : Int) < (s.size : Int)
  · exact blocks_long s hs w (fun w' hb => awake_any w' (ht.below hb))
  · have h0 : s.size < 136 := by omega
    refine blocks_gen s (told (spg (blks s))) (spg (blks s)) h0 (told_size _) w (blks_short s h0) (fun k hk w => told_at _ k hk w) (fun w' hb => sum_any s w' (ht.below hb)) (fun w' hb => awake_any w' (ht.below hb))
end Go.Proofs.YthpjdnapoafkgaaDoor
