/- Contract of the document's Sum. -/
import Derived.Test.YtdlanihbpbfbcaaDoorHj
import Derived.Deep.OwnRows
namespace Go.Proofs.YtdlanihbpbfbcaaDoor
open Go.RowKit
set_option linter.unusedVariables false
/-- The bytes of a text that is filled up. -/
def pN (s : ByteArray) : Nat := s.size + (136 - s.size % 136)
def pd (s : ByteArray) (i : Nat) : Nat := if i = pN s - 1 then (if i = s.size then 129 else 128) else if i = s.size then 1 else if i < s.size then bt s i else 0
theorem pd_lt (s : ByteArray) (i : Nat) : pd s i < 256 := by
  unfold pd; split
  · split <;> decide
  · split
    · decide
    · split
      · exact bt_lt _ _
      · decide
theorem tk_congr {f g g' : Nat → Nat} : ∀ j, (∀ i, i < j → g i = g' i) → tk f g j = tk f g' j
  | 0, _ => rfl
  | j + 1, h => by unfold tk; rw [tk_congr j (fun i hi => h i (by omega)), h j (by omega)]
def rs (s : ByteArray) : Nat → Nat → Nat
  | 0 => fun _ => 0
  | m + 1 => prm (tk (rs s m) (fun i => pd s (136 * m + i)) 136) 24
theorem rs_succ (s : ByteArray) (m : Nat) : rs s (m + 1) = prm (tk (rs s m) (fun i => pd s (136 * m + i)) 136) 24 := by rw [rs]
theorem rs_lt (s : ByteArray) : ∀ m, P25 (rs s m)
  | 0 => fun _ _ => (by decide : (0 : Nat) < M)
  | m + 1 => by rw [rs_succ]; exact prm_lt (tk_lt (rs_lt s m) (fun i _ => pd_lt s _) 136 (Nat.le_refl _)) 24 (Nat.le_refl _)
theorem rs_full (s : ByteArray) : ∀ m, m ≤ s.size / 136 → rs s m = spg (full s m)
  | 0, _ => rfl
  | m + 1, hm => by
    rw [full_succ, spg_snoc, ← rs_full s m (by omega), rs_succ]
    refine congrArg (fun g => prm g 24) (tk_congr 136 fun i hi => ?_)
    unfold pd pN blk
    rw [if_neg (by omega), if_neg (by omega), if_pos (by omega)]
theorem rs_blks (s : ByteArray) : rs s (s.size / 136 + 1) = spg (blks s) := by
  unfold blks
  rw [spg_snoc, ← rs_full s _ (Nat.le_refl _), rs_succ]
  refine congrArg (fun g => prm g 24) (tk_congr 136 fun i hi => ?_)
  show pd s (136 * (s.size / 136) + i) = fl (dr s (136 * (s.size / 136))) i
  unfold pd fl pN
  rw [dr_size, bt_dr]
  by_cases h1 : i = 135
  · rw [if_pos (by omega), if_pos h1]
    by_cases h2 : 135 = s.size - 136 * (s.size / 136)
    · rw [if_pos h2, if_pos (by omega)]
    · rw [if_neg h2, if_neg (by omega)]
  · rw [if_neg (by omega), if_neg h1]
    by_cases h2 : i = s.size - 136 * (s.size / 136)
    · rw [if_pos h2, if_pos (by omega)]
    · rw [if_neg h2, if_neg (by omega)]
      by_cases h3 : i < s.size - 136 * (s.size / 136)
      · rw [if_pos h3, if_pos (by omega)]
      · rw [if_neg h3, if_neg (by omega)]
theorem made_ag (n : Nat) : madeCells #[Value.int .u8 0] n = ag .u8 n (fun _ => 0) := by
  apply Array.ext_getElem?
  intro i
  rw [ag_get]
  unfold madeCells
  simp [Nat.mod_one]
  by_cases h : i < n
  · rw [Array.getElem?_eq_getElem (by simpa using h), if_pos h]; rfl
  · rw [Array.getElem?_eq_none (by simpa using h), if_neg h]; rfl
theorem make_row (n : Nat) (hn : n ≤ 281474976710656) (w : World) : (Instr.makeSlice 41 (.int .i64 (n : Int)) (.int .i64 (n : Int))).run Tryd.prog w = .ok (.slice (some ⟨w.heap.size, 0, none⟩) n n) (w.alloc (.cells (ag .u8 n fun _ => 0) 5)) := by
  rw [← made_ag]
  exact run_make_row' 41 5 (.int .u8 0) 1 Tryd.underlying41 (by kernel_rfl) rfl .i64 .i64 n (by omega) (by omega) w

set_option maxRecDepth 100000 in
set_option maxHeartbeats 4000000 in
theorem rsum_any (s : ByteArray) (hs : s.size ≤ 100000) (w : World) : Calls Tryd.prog 17 #[.string s] w fun e w' => e = .returned (.string (told (spg (blks s)))) ∧ Below w.heap.size w w' := by
  obtain ⟨sr, hh⟩ : ∃ q, q = told (spg (blks s)) := ⟨_, rfl⟩
  rw [← hh]
  obtain ⟨N, hN⟩ : ∃ n, n = pN s := ⟨_, rfl⟩
  have HS : Hid (s.size ≤ 100000 ∧ sr = told (spg (blks s)) ∧ N = pN s) := ⟨hs, hh, hN⟩
  have i0 : (s.size : Int) ≤ 100000 := by omega
  have i1 : (s.size : Int) < (N : Int) := by unfold pN at hN; omega
  have i2 : (N : Int) ≤ 100136 := by unfold pN at hN; omega
  have hr : (s.size : Int) + (136 - (s.size : Int) % 136) = (N : Int) := by unfold pN at hN; omega
  have hm := fun w => make_row N (by omega) w
  clear hs hh hN
  go_enter Tryd.func17, Tryd.ntmps17
  go_upto_region 3 with fail
  refine name_world _ ?_
  intro w0 hw0
  have K0 : Hid (HasRow w0 w.heap.size (ag .u8 N fun _ => 0) ∧ Below w.heap.size w w0 ∧ w0.heap.size = w.heap.size + 1) := by
    show _ ∧ _ ∧ _
    rw [hw0]
    exact ⟨HasRow.last rfl, bel_alloc (Below.refl _ _) _, by simp⟩
  clear hw0 hm
  have hcp := copy_row w0 w.heap.size N 3 (fun _ => 0) s K0.out.1
  rw [show Nat.min s.size N = s.size from Nat.min_eq_left (by omega)] at hcp
  go_upto_region 4 with fail
  refine name_world _ ?_
  intro w1 hw1
  have K1 : Hid (HasRow w1 w.heap.size (ag .u8 N (ov s fun _ => 0)) ∧ Below w.heap.size w w1 ∧ w1.heap.size = w.heap.size + 1) := by
    show _ ∧ _ ∧ _
    rw [hw1]
    exact ⟨K0.out.1.set_same _, below_setRow K0.out.2.1 (Nat.le_refl _) _, by rw [size_setRow]; exact K0.out.2.2⟩
  clear hw1 hcp K0
  have q1 := HasRow.at K1.out.1 (show s.size < N by omega)
  have q2 := HasRow.frozen K1.out.1 s.size
  go_upto_region 5 with fail
  refine name_world _ ?_
  intro w2 hw2
  obtain ⟨g2, hg2⟩ : ∃ q, q = upd (ov s fun _ => 0) s.size 1 := ⟨_, rfl⟩
  have K2 : Hid (HasRow w2 w.heap.size (ag .u8 N g2) ∧ Below w.heap.size w w2 ∧ w2.heap.size = w.heap.size + 1) := by
    show _ ∧ _ ∧ _
    rw [hw2, HasRow.setCell K1.out.1, hg2, ← ag_set]
    exact ⟨K1.out.1.set_same _, below_setRow K1.out.2.1 (Nat.le_refl _) _, by rw [size_setRow]; exact K1.out.2.2⟩
  have HG2 : Hid _ := hg2
  clear hw2 K1 q1 q2 hg2
  obtain ⟨L, hL⟩ : ∃ l, N = l + 1 := ⟨N - 1, by omega⟩
  have g256 : g2 L < 256 := by rw [HG2.out, upd_at]; split; · decide
                               unfold ov; split; · exact bt_lt _ _
                               exact (by decide : (0 : Nat) < 256)
  have q1 := HasRow.at K2.out.1 (show L < N by omega)
  have q2 := HasRow.frozen K2.out.1 L
  have E : Hid _ := or128 (g2 L) g256
  have hL1 : (N : Int) - 1 = (L : Int) := by omega
  have HL : Hid (N = L + 1) := hL
  clear g256 hL
  go_upto_region 6 with fail
  rw [E.out]
  refine name_world _ ?_
  intro w3 hw3
  have K3 : Hid (HasRow w3 w.heap.size (ag .u8 N (pd s)) ∧ Below w.heap.size w w3 ∧ w3.heap.size = w.heap.size + 1) := by
    have e : ag .u8 N (upd g2 L (g2 L ||| 128)) = ag .u8 N (pd s) := ag_congr _ _ fun i hi => by
      have hs := HS.out.2.2
      have hl := HL.out
      rw [HG2.out, upd_at]
      unfold pd
      by_cases e1 : i = L
      · rw [if_pos e1, if_pos (by omega), upd_at]
        by_cases e2 : L = s.size
        · rw [if_pos e2, if_pos (by omega)]; rfl
        · rw [if_neg e2, if_neg (by omega)]; unfold ov; rw [if_neg (by omega)]; exact (by decide : (0 : Nat) ||| 128 = 128)
      · rw [if_neg e1, if_neg (by omega), upd_at]
        by_cases e2 : i = s.size
        · rw [if_pos e2, if_pos e2]
        · rw [if_neg e2, if_neg e2]; rfl
    show _ ∧ _ ∧ _
    rw [hw3, HasRow.setCell K2.out.1, ag_set, e]
    exact ⟨K2.out.1.set_same _, below_setRow K2.out.2.1 (Nat.le_refl _) _, by rw [size_setRow]; exact K2.out.2.2⟩
  clear hw3 K2 q1 q2 E HG2 HL hL1
  have hz3 : w3.heap.size = w.heap.size + 1 := K3.out.2.2
  go_upto_region 8 with fail
  refine name_world _ ?_
  intro w4 hw4
  have K4 : Hid (HasRow w4 w.heap.size (ag .u8 N (pd s)) ∧ HasRow w4 (w.heap.size + 1) (ag .u64 25 fun _ => 0) ∧ Below w.heap.size w w4) := by
    show _ ∧ _ ∧ _
    rw [hw4]
    exact ⟨HasRow.old K3.out.1, HasRow.last hz3.symm, bel_alloc K3.out.2.1 _⟩
  clear hw4 hz3 K3
  obtain ⟨K, hK⟩ : ∃ k, k = s.size / 136 + 1 := ⟨_, rfl⟩
  have HK : Hid (K = s.size / 136 + 1 ∧ N = 136 * K) := ⟨hK, by have := HS.out.2.2; unfold pN at this; omega⟩
  clear hK
  go_loopw [6] (fun i w' => ∃ (m p : Nat) (h : Nat → Nat), m ≤ K ∧ p = 136 * m ∧ i = .int .i64 (p : Int) ∧ HasRow w' w.heap.size (ag .u8 N (pd s)) ∧ HasRow w' (w.heap.size + 1) (ag .u64 25 h) ∧ Below w.heap.size w w' ∧ h = rs s m) (fun i _ => N - (intOf i).toNat)
  case atStart =>
    exact ⟨0, 0, fun _ => 0, Nat.zero_le _, rfl, rfl, K4.out.1, K4.out.2.1, K4.out.2.2, rfl⟩
  case round =>
    clear K4
    obtain ⟨m, p, h, hm, hp, rfl, r1, r2, bel, hT⟩ := hrel
    have R1 : Hid (HasRow wr w.heap.size (ag .u8 N (pd s))) := r1
    have R2 : Hid (HasRow wr (w.heap.size + 1) (ag .u64 25 h)) := r2
    have BL : Hid (Below w.heap.size w wr) := bel
    have HT : Hid (h = rs s m ∧ p = 136 * m ∧ m ≤ K) := ⟨hT, hp, hm⟩
    clear hT r1 r2 bel
    by_cases hlt : p < N
    · have HP : Hid (m < K ∧ p + 136 ≤ N) := ⟨by have := HK.out.2; omega, by have := HK.out.2; omega⟩
      have hd0 : (p : Int) < (N : Int) := by omega
      have hd1 : (p : Int) ≤ 100000 := by have := HP.out.2; omega
      clear hlt hp hm
      go_upto_region 11 with fail
      go_loopw [7] (fun i w' => ∃ (j : Nat) (h' : Nat → Nat), j ≤ 136 ∧ i = .int .i64 (j : Int) ∧ HasRow w' w.heap.size (ag .u8 N (pd s)) ∧ HasRow w' (w.heap.size + 1) (ag .u64 25 h') ∧ Below w.heap.size w w' ∧ h' = tk h (fun i => pd s (p + i)) j) (fun i _ => 136 - (intOf i).toNat)
      case atStart =>
        exact ⟨0, h, Nat.zero_le _, rfl, R1.out, R2.out, BL.out, rfl⟩
      case round =>
        obtain ⟨j, h', hj, rfl, r1, r2, bel, hT⟩ := hrel
        have P1 : Hid (HasRow wr w.heap.size (ag .u8 N (pd s))) := r1
        have P2 : Hid (HasRow wr (w.heap.size + 1) (ag .u64 25 h')) := r2
        have BQ : Hid (Below w.heap.size w wr) := bel
        have HQ : Hid (h' = tk h (fun i => pd s (p + i)) j) := hT
        clear hT r1 r2 bel
        by_cases hlt : j < 136
        · have HJ : Hid (j < 136) := hlt
          have hj0 : (j : Int) < 136 := by omega
          have g256 := pd_lt s (p + j)
          have i4 : ((pd s (p + j) : Nat) : Int) < 256 := by omega
          have i5 : (j : Int) / 8 < 25 := by omega
          have i6 : (p : Int) + (j : Int) < (N : Int) := by have := HP.out.2; omega
          have d1 := cell_regrown (HasRow.at P2.out (show j / 8 < 25 by omega))
          have d2 := cell_regrown (HasRow.at P1.out (show p + j < N by have := HP.out.2; omega))
          have E : Hid _ := take_int (h' (j / 8)) (pd s (p + j)) (j % 8) (by have := tk_lt (f := h) (by rw [HT.out.1]; exact rs_lt s m) (fun i _ => pd_lt s (p + i)) j (by omega) (j / 8) (by omega); rw [HQ.out]; exact this) g256 (Nat.mod_lt _ (by decide))
          clear hlt hj g256
          go_upto_region 13 with fail
          refine wp_region_last_below (by kernel_rfl) (by kernel_rfl) (by simp) ?_
          simp only [List.dropLast]
          repeat (go_big_quiet_step (fail))
          refine wpQuiet_nil ?_
          intro w5 hw'
          have hb : Below wr.heap.size wr w5 := by obtain ⟨p, rfl⟩ := hw'; exact below_regrown _ _ _
          clear hw' d1 d2
          have q1 := HasRow.at (P2.out.below hb) (show j / 8 < 25 by omega)
          have q2 := HasRow.frozen (P2.out.below hb) (j / 8)
          have HB : Hid _ := hb
          clear hb
          refine wpOp_plain rfl rfl ?_
          go_simp
          rw [show 8 * (j % 8) = j % 8 * 8 from Nat.mul_comm _ _, E.out]
          go_wp2
          go_roundw
          case rel =>
            have hb := HB.out
            refine ⟨j + 1, _, HJ.out, by go_num, ?_, ?_, ?_, rfl⟩
            · rw [HasRow.setCell (P2.out.below hb)]
              exact (P1.out.below hb).set_other _ (by omega)
            · rw [HasRow.setCell (P2.out.below hb), ag_set, HQ.out]
              exact (P2.out.below hb).set_same _
            · rw [HasRow.setCell (P2.out.below hb)]
              exact below_setRow (BQ.out.trans (hb.mono BQ.out.size)) (by omega) _
          case measure => simp [intOf]; have := HJ.out; omega
        · have hjn : j = 136 := by omega
          subst hjn
          have HI : Hid (P25 h') := by have := tk_lt (f := h) (by rw [HT.out.1]; exact rs_lt s m) (fun i _ => pd_lt s (p + i)) 136 (Nat.le_refl _); rw [HQ.out]; exact this
          clear hlt hj
          go_upto_region 14 with fail
          refine wp_region_lit ?_
          refine wpList_vload rfl 42 (.tmp 5) rfl (w.heap.size + 1) rfl .u64 25 h' P2.out Tryd.underlying42 (by kernel_rfl) ?_
          intro c0 hc0
          have C0 : Hid _ := hc0
          clear hc0
          go_wp2_with fail
          refine (Calls.v25 (rpermute_any h' HI.out _) C0.out).mono ?_
          rintro e w6 ⟨⟨c1, rfl, hc1⟩, hb1⟩
          have hsz1 := hc1.size
          have hs1 := run_storeCells_v (P := Tryd.prog) hc1 (g := w.heap.size + 1) 42 (by kernel_rfl) (StoreTo.row (P2.out.below hb1) (ag_size _ _ _))
          have HB1 : Hid _ := hb1
          clear hc1 hb1
          go_wp2
          go_roundw
          case rel =>
            have hb := HB1.out
            refine ⟨m + 1, p + 136, prm h' 24, HP.out.1, by have := HT.out.2.1; omega, by go_num, (P1.out.below hb).set_other _ (by omega), (P2.out.below hb).set_same _, below_setRow (BQ.out.trans (hb.mono BQ.out.size)) (by omega) _, ?_⟩
            rw [rs_succ, HQ.out, HT.out.1]
            have e := HT.out.2.1
            rw [e]
          case measure => simp [intOf]; have := HP.out.2; omega
    · have hpn : m = K ∧ p = N := by have := HK.out.2; have h2 : m = K := by omega
                                     subst h2; omega
      obtain ⟨rfl, rfl⟩ := hpn
      have R4 : Hid (HasRow wr (w.heap.size + 1) (ag .u64 25 (spg (blks s)))) := by
        have h2 := R2.out
        rw [HT.out.1, HK.out.1, rs_blks] at h2
        exact h2
      have S : Hid (TD (spg (blks s)) (fun _ => 0) 0) := ⟨fun i _ => by simp⟩
      have HZ : Hid (w.heap.size + 1 < wr.heap.size) := R2.out.lt
      clear hlt hp hm R1 R2 HT
      have hm : ∀ w : World, (Instr.makeSlice 41 (.int .i64 32) (.int .i64 32)).run Tryd.prog w = .ok (.slice (some ⟨w.heap.size, 0, none⟩) 32 32) (w.alloc (.cells (ag .u8 32 fun _ => 0) 5)) := fun w => make_row 32 (by decide) w
      generalize spg (blks s) = f at *
      go_upto_region 17 with fail
      refine name_world _ ?_
      intro w5 hw5
      obtain ⟨g8, hg8⟩ : ∃ g, g = wr.heap.size := ⟨_, rfl⟩
      have K5 : Hid (HasRow w5 (w.heap.size + 1) (ag .u64 25 f) ∧ HasRow w5 g8 (ag .u8 32 fun _ => 0) ∧ Below w.heap.size w w5 ∧ w.heap.size + 1 < g8) := by
        show _ ∧ _ ∧ _ ∧ _
        rw [hw5]
        exact ⟨HasRow.old R4.out, HasRow.last hg8, bel_alloc BL.out _, by rw [hg8]; exact HZ.out⟩
      clear hw5 hm R4 BL HZ
      rw [← hg8]
      clear hg8
      go_loopw [9] (fun i w' => ∃ (j : Nat) (h : Nat → Nat), j ≤ 32 ∧ i = .int .i64 (j : Int) ∧ HasRow w' (w.heap.size + 1) (ag .u64 25 f) ∧ HasRow w' g8 (ag .u8 32 h) ∧ Below w.heap.size w w' ∧ TD f h j) (fun i _ => 32 - (intOf i).toNat)
      case atStart =>
        exact ⟨0, fun _ => 0, Nat.zero_le _, rfl, K5.out.1, K5.out.2.1, K5.out.2.2.1, S.out⟩
      case round =>
        have GG : Hid (w.heap.size + 1 < g8) := K5.out.2.2.2
        clear S K5
        obtain ⟨j, h, hj, rfl, r1, r2, bel, hT⟩ := hrel
        have P1 : Hid (HasRow wr (w.heap.size + 1) (ag .u64 25 f)) := r1
        have P2 : Hid (HasRow wr g8 (ag .u8 32 h)) := r2
        have BQ : Hid (Below w.heap.size w wr) := bel
        have HQ : Hid (TD f h j) := hT
        clear hT r1 r2 bel
        by_cases hlt : j < 32
        · have HJ : Hid (j < 32) := hlt
          have hd0 : (j : Int) < 32 := by omega
          have i2 : (j : Int) / 8 < 25 := by omega
          have d1 := HasRow.at P1.out (show j / 8 < 25 by omega)
          have q1 := HasRow.at P2.out hlt
          have q2 := HasRow.frozen P2.out j
          clear hlt hj
          go_wp2
          go_roundw
          case rel =>
            have hg := GG.out
            refine ⟨j + 1, _, HJ.out, by go_num, ?_, ?_, ?_, HQ.out.step⟩
            · rw [HasRow.setCell P2.out]; exact P1.out.set_other _ (by omega)
            · rw [HasRow.setCell P2.out]
              have ez := ag_set .u8 32 h j (tb f j)
              rw [← ez]
              have e : ((f (j / 8) : Nat) : Int) / 2 ^ (8 * (j % 8)) % 256 = ((tb f j : Nat) : Int) := by unfold tb; rw [show 8 * (j % 8) = j % 8 * 8 from Nat.mul_comm _ _]; simp
              rw [e]
              exact P2.out.set_same _
            · rw [HasRow.setCell P2.out]; exact below_setRow BQ.out (by omega) _
          case measure => simp [intOf]; have := HJ.out; omega
        · have hjn : j = 32 := by omega
          subst hjn
          have e : ag .u8 32 h = ag .u8 32 (tb f) := ag_congr _ _ fun i hi => by rw [HQ.out.hv i hi, if_pos hi]
          have R3 : Hid (HasRow wr g8 (ag .u8 32 (tb f))) := by have := P2.out; rw [e] at this; exact this
          have hcv := conv32 R3.out
          rw [show strOfNums ((List.range 32).map fun i => ((tb f i : Nat) : Int)) = sr from HS.out.2.1.symm] at hcv
          clear e HQ P2 hlt hj R3 P1
          go_wp2
          go_ret
          exact ⟨rfl, BQ.out⟩
end Go.Proofs.YtdlanihbpbfbcaaDoor
