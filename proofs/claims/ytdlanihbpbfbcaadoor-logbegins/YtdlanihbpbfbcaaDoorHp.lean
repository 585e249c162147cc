/- Contract of spread. -/
import Derived.Test.YtdlanihbpbfbcaaDoorHm
namespace Go.Proofs.YtdlanihbpbfbcaaDoor
open Go.RowKit
set_option linter.unusedVariables false
abbrev z5 : Array Value := #[.int .u64 0, .int .u64 0, .int .u64 0, .int .u64 0, .int .u64 0]
theorem col_int (f : Nat → Nat) (h : P25 f) (x : Nat) (hx : x < 5) : bits .xor .u64 (bits .xor .u64 (bits .xor .u64 (bits .xor .u64 (f x : Nat) (f (x + 5) : Nat)) (f (x + 10) : Nat)) (f (x + 15) : Nat)) (f (x + 20) : Nat) = ((col f x : Nat) : Int) := by
  rw [bits_xor _ _ (h _ (by omega)) (h _ (by omega)), bits_xor _ _ (xor_lt (h _ (by omega)) (h _ (by omega))) (h _ (by omega)), bits_xor _ _ (xor_lt (xor_lt (h _ (by omega)) (h _ (by omega))) (h _ (by omega))) (h _ (by omega)), bits_xor _ _ (xor_lt (xor_lt (xor_lt (h _ (by omega)) (h _ (by omega))) (h _ (by omega))) (h _ (by omega))) (h _ (by omega))]
  rfl
theorem dd_int (f : Nat → Nat) (h : P25 f) (x : Nat) : bits .xor .u64 (col f ((x + 4) % 5) : Nat) (rt (col f ((x + 1) % 5)) 1 : Nat) = ((dd f x : Nat) : Int) := by
  rw [bits_xor _ _ (col_lt h (by omega)) (rt_lt _ (col_lt h (by omega)))]
  rfl
theorem rot_one (x : Nat) (hx : x < M) (w : World) : Calls Tryd.prog 34 #[B x, .int .i64 1] w fun e w' => e = .returned (B (rt x 1)) ∧ Below w.heap.size w w' := rot_bel x 1 hx (by decide) w
structure CL (f h : Nat → Nat) (j : Nat) : Prop where
  hv : ∀ i, i < 5 → h i = if i < j then col f i else 0
theorem CL.step {f h : Nat → Nat} {j : Nat} (s : CL f h j) : CL f (upd h j (col f j)) (j + 1) where
  hv i hi := by
    rw [upd_at]
    by_cases e : i = j
    · rw [if_pos e, if_pos (by omega), e]
    · rw [if_neg e, s.hv i hi]
      by_cases hl : i < j
      · rw [if_pos hl, if_pos (by omega)]
      · rw [if_neg hl, if_neg (by omega)]
/-- Behind x columns and m parts of the next. -/
structure TI (f h : Nat → Nat) (x m : Nat) : Prop where
  hv : ∀ i, i < 25 → h i = if i % 5 < x ∨ (i % 5 = x ∧ i / 5 < m) then theta f i else f i
theorem TI.step {f h : Nat → Nat} {x m : Nat} (hx : x < 5) (hm : m < 5) (s : TI f h x m) : TI f (upd h (x + 5 * m) (h (x + 5 * m) ^^^ dd f x)) x (m + 1) where
  hv i hi := by
    rw [upd_at]
    by_cases e : i = x + 5 * m
    · rw [if_pos e, if_pos (by omega), s.hv (x + 5 * m) (by omega), if_neg (by omega), e]
      unfold theta
      rw [show (x + 5 * m) % 5 = x by omega]
    · rw [if_neg e, s.hv i hi]
      by_cases hl : i % 5 < x ∨ (i % 5 = x ∧ i / 5 < m)
      · rw [if_pos hl, if_pos (by omega)]
      · rw [if_neg hl, if_neg (by omega)]
theorem TI.next {f h : Nat → Nat} {x : Nat} (s : TI f h x 5) : TI f h (x + 1) 0 where
  hv i hi := by
    rw [s.hv i hi]
    by_cases hl : i % 5 < x ∨ (i % 5 = x ∧ i / 5 < 5)
    · rw [if_pos hl, if_pos (by omega)]
    · rw [if_neg hl, if_neg (by omega)]
theorem TI.lt {f h : Nat → Nat} {x m : Nat} (s : TI f h x m) (hf : P25 f) : P25 h := fun i hi => by
  rw [s.hv i hi]; split
  · exact theta_lt hf i hi
  · exact hf i hi

set_option maxRecDepth 100000 in
set_option maxHeartbeats 4000000 in
theorem spread_any (f : Nat → Nat) (hf : P25 f) (w : World) : Calls Tryd.prog 30 #[A25 f] w fun e w' => e = .returned (A25 (theta f)) ∧ Below w.heap.size w w' := by
  have S : Hid (CL f (fun _ => 0) 0) := ⟨fun i _ => by simp⟩
  obtain ⟨h', hh⟩ : ∃ q, q = theta f := ⟨_, rfl⟩
  rw [← hh]
  have HH : Hid _ := hh
  clear hh
  have G : Hid (P25 f) := hf
  clear hf
  go_enter Tryd.func30, Tryd.ntmps30
  go_wp2
  go_loopw [8] (fun i w' => ∃ (j : Nat) (h : Nat → Nat), j ≤ 5 ∧ i = .int .i64 (j : Int) ∧ HasRow w' w.heap.size (ag .u64 25 f) ∧ HasRow w' (w.heap.size + 1) z25 ∧ HasRow w' (w.heap.size + 1 + 1) (ag .u64 5 h) ∧ Below w.heap.size w w' ∧ CL f h j) (fun i _ => 5 - (intOf i).toNat)
  case atStart =>
    exact ⟨0, fun _ => 0, Nat.zero_le _, rfl, HasRow.old (HasRow.old (HasRow.last rfl)), HasRow.old (HasRow.last (by simp)), HasRow.last (by simp), by repeat (first | exact Below.refl _ _ | refine bel_alloc ?_ _), S.out⟩
  case round =>
    obtain ⟨j, h, hj, rfl, r1, r2, r3, bel, hT⟩ := hrel
    have R1 : Hid (HasRow wr w.heap.size (ag .u64 25 f)) := r1
    have R2 : Hid (HasRow wr (w.heap.size + 1) z25) := r2
    have R3 : Hid (HasRow wr (w.heap.size + 1 + 1) (ag .u64 5 h)) := r3
    have BL : Hid (Below w.heap.size w wr) := bel
    have HT : Hid (CL f h j) := hT
    clear hT r1 r2 r3 bel
    by_cases hlt : j < 5
    · have HJ : Hid (j < 5) := hlt
      have hd0 : (j : Int) < 5 := by omega
      have hd1 : (j : Int) + 20 < 25 := by omega
      have d1 := cell_regrown (HasRow.at R1.out (show j < 25 by omega))
      have d2 := cell_regrown (HasRow.at R1.out (show j + 5 < 25 by omega))
      have d3 := cell_regrown (HasRow.at R1.out (show j + 10 < 25 by omega))
      have d4 := cell_regrown (HasRow.at R1.out (show j + 15 < 25 by omega))
      have d5 := cell_regrown (HasRow.at R1.out (show j + 20 < 25 by omega))
      have E : Hid _ := col_int f G.out j hlt
      clear hlt hj
      go_upto_region 5 with fail
      refine wp_region_last_below (by kernel_rfl) (by kernel_rfl) (by simp) ?_
      simp only [List.dropLast]
      repeat (go_big_quiet_step (fail))
      refine wpQuiet_nil ?_
      intro w5 hw'
      have hb : Below wr.heap.size wr w5 := by obtain ⟨p, rfl⟩ := hw'; exact below_regrown _ _ _
      clear hw' d1 d2 d3 d4 d5
      have q1 := HasRow.at (R3.out.below hb) HJ.out
      have q2 := HasRow.frozen (R3.out.below hb) j
      have HB : Hid _ := hb
      clear hb
      refine wpOp_plain rfl rfl ?_
      go_simp
      rw [E.out]
      go_wp2
      go_roundw
      case rel =>
        have hb := HB.out
        refine ⟨j + 1, _, HJ.out, by go_num, ?_, ?_, ?_, ?_, HT.out.step⟩
        · rw [HasRow.setCell (R3.out.below hb)]
          exact (R1.out.below hb).set_other _ (by omega)
        · rw [HasRow.setCell (R3.out.below hb)]
          exact (R2.out.below hb).set_other _ (by omega)
        · rw [HasRow.setCell (R3.out.below hb), ag_set]
          exact (R3.out.below hb).set_same _
        · rw [HasRow.setCell (R3.out.below hb)]
          exact below_setRow (BL.out.trans (hb.mono BL.out.size)) (by omega) _
      case measure => simp [intOf]; have := HJ.out; omega
    · have hjn : j = 5 := by omega
      subst hjn
      have T := HT.out
      have e : ag .u64 5 h = ag .u64 5 (col f) := ag_congr _ _ fun i hi => by rw [T.hv i hi, if_pos hi]
      have R4 : Hid (HasRow wr (w.heap.size + 1 + 1) (ag .u64 5 (col f))) := by have := R3.out; rw [e] at this; exact this
      clear e T HT S R3 hlt hj
      have S2 : Hid (TI f f 0 0) := ⟨fun i _ => by rw [if_neg (by omega)]⟩
      go_wp2
      go_loopw [37] (fun i w' => ∃ (j : Nat) (h : Nat → Nat), j ≤ 5 ∧ i = .int .i64 (j : Int) ∧ HasRow w' w.heap.size (ag .u64 25 h) ∧ HasRow w' (w.heap.size + 1) z25 ∧ HasRow w' (w.heap.size + 1 + 1) (ag .u64 5 (col f)) ∧ Below w.heap.size w w' ∧ TI f h j 0) (fun i _ => 5 - (intOf i).toNat)
      case atStart =>
        exact ⟨0, f, Nat.zero_le _, rfl, R1.out, R2.out, R4.out, BL.out, S2.out⟩
      case round =>
        clear R1 R2 R4 BL S2
        obtain ⟨x, h, hx, rfl, r1, r2, r3, bel, hT⟩ := hrel
        have R1 : Hid (HasRow _ w.heap.size (ag .u64 25 h)) := r1
        have R2 : Hid (HasRow _ (w.heap.size + 1) z25) := r2
        have R3 : Hid (HasRow _ (w.heap.size + 1 + 1) (ag .u64 5 (col f))) := r3
        have BL : Hid (Below w.heap.size w _) := bel
        have HT : Hid (TI f h x 0) := hT
        clear hT r1 r2 r3 bel
        by_cases hlt : x < 5
        · have HJ : Hid (x < 5) := hlt
          have hd0 : (x : Int) < 5 := by omega
          have d1 := cell_regrown (HasRow.at R3.out (show (x + 4) % 5 < 5 by omega))
          have d2 := cell_regrown (HasRow.at R3.out (show (x + 1) % 5 < 5 by omega))
          have E : Hid _ := dd_int f G.out x
          clear hlt hx
          go_upto_region 10 with fail
          refine wp_region_quiet_below (by kernel_rfl) (by kernel_rfl) ?_
          repeat (go_big_quiet_step (fail))
          go_big_quiet_step ((exact Calls.regrown_of (rot_one (col f ((x + 1) % 5)) (col_lt G.out (by omega)) _)))
          repeat (go_big_quiet_step (fail))
          rw [E.out]
          refine wpQuiet_nil ?_
          intro w5 hw'
          have hb : Below wr.heap.size wr w5 := by obtain ⟨p, rfl⟩ := hw'; exact below_regrown _ _ _
          clear hw' d1 d2
          have Q1 : Hid (HasRow w5 w.heap.size (ag .u64 25 h)) := R1.out.below hb
          have Q2 : Hid (HasRow w5 (w.heap.size + 1) z25) := R2.out.below hb
          have Q3 : Hid (HasRow w5 (w.heap.size + 1 + 1) (ag .u64 5 (col f))) := R3.out.below hb
          have BM : Hid (Below w.heap.size w w5) := BL.out.trans (hb.mono BL.out.size)
          clear hb R1 R2 R3 BL
          obtain ⟨dx, hdx⟩ : ∃ q, q = dd f x := ⟨_, rfl⟩
          rw [← hdx]
          have HD : Hid _ := hdx
          clear hdx E
          go_wp2
          go_loopw [7] (fun i w' => ∃ (m r : Nat) (h : Nat → Nat), m ≤ 5 ∧ r = 5 * m ∧ i = .int .i64 (r : Int) ∧ HasRow w' w.heap.size (ag .u64 25 h) ∧ HasRow w' (w.heap.size + 1) z25 ∧ HasRow w' (w.heap.size + 1 + 1) (ag .u64 5 (col f)) ∧ Below w.heap.size w w' ∧ TI f h x m) (fun i _ => 25 - (intOf i).toNat)
          case atStart =>
            exact ⟨0, 0, h, Nat.zero_le _, rfl, rfl, Q1.out, Q2.out, Q3.out, BM.out, HT.out⟩
          case round =>
            clear Q1 Q2 Q3 BM HT
            obtain ⟨m, r, h2, hm, hr, rfl, r1, r2, r3, bel, hT⟩ := hrel
            have R1 : Hid (HasRow wr w.heap.size (ag .u64 25 h2)) := r1
            have R2 : Hid (HasRow wr (w.heap.size + 1) z25) := r2
            have R3 : Hid (HasRow wr (w.heap.size + 1 + 1) (ag .u64 5 (col f))) := r3
            have BL : Hid (Below w.heap.size w wr) := bel
            have HT : Hid (TI f h2 x m ∧ r = 5 * m) := ⟨hT, hr⟩
            clear hT r1 r2 r3 bel
            by_cases hlt : m < 5
            · have HM : Hid (m < 5) := hlt
              have hxx := HJ.out
              have i1 : (r : Int) < 25 := by omega
              have i2 : (x : Int) + (r : Int) < 25 := by omega
              have HI : Hid (x + r < 25) := by show x + r < 25; omega
              clear hr hlt hm hxx
              have q1 := HasRow.at R1.out HI.out
              have q2 := HasRow.frozen R1.out (x + r)
              have E2 : Hid (bits .xor .u64 ((h2 (x + r) : Nat) : Int) (dx : Int) = ((h2 (x + r) ^^^ dx : Nat) : Int)) := bits_xor _ _ (HT.out.1.lt G.out _ HI.out) (by rw [HD.out]; exact dd_lt G.out x)
              go_upto_region 13 with fail
              rw [E2.out]
              go_wp2
              go_roundw
              case rel =>
                obtain ⟨T, hr⟩ := HT.out
                refine ⟨m + 1, r + 5, upd h2 (x + r) (h2 (x + r) ^^^ dx), HM.out, by omega, by go_num, ?_, ?_, ?_, ?_, ?_⟩
                · rw [HasRow.setCell R1.out, ag_set]; exact R1.out.set_same _
                · rw [HasRow.setCell R1.out]; exact R2.out.set_other _ (by omega)
                · rw [HasRow.setCell R1.out]; exact R3.out.set_other _ (by omega)
                · rw [HasRow.setCell R1.out]; exact below_setRow BL.out (by omega) _
                · rw [hr, HD.out]; exact T.step HJ.out HM.out
              case measure => simp [intOf]; omega
            · have hm5 : m = 5 := by omega
              subst hm5
              have hr25 : r = 25 := by omega
              subst hr25
              have hxx := HJ.out
              clear hm hlt hr
              go_wp2
              go_roundw
              case rel =>
                exact ⟨x + 1, h2, hxx, by go_num, R1.out, R2.out, R3.out, BL.out, HT.out.1.next⟩
              case measure => simp [intOf]; omega
        · have hx5 : x = 5 := by omega
          subst hx5
          have T := HT.out
          have e : ag .u64 25 h = ag .u64 25 (theta f) := ag_congr _ _ fun i hi => by rw [T.hv i hi, if_pos (by omega)]
          have R4 : Hid (HasRow wr w.heap.size (ag .u64 25 h')) := by have := R1.out; rw [e, ← HH.out] at this; exact this
          clear e T HT R1 hlt hx
          go_upto_region 16 with fail
          refine wp_region_lit ?_
          refine wpList_vload rfl 42 (.tmp 1) rfl w.heap.size rfl .u64 25 h' R4.out Tryd.underlying42 (by kernel_rfl) ?_
          intro v hv
          have hsz := hv.size
          have hsc := run_storeCells_v (P := Tryd.prog) hv (g := w.heap.size + 1) 42 (by kernel_rfl) (StoreTo.row R2.out (by rfl))
          clear hv
          go_wp2
          exact bodyPost_ret (v := A25 h') (results_cell1 (p := 2) (ty := 42) rfl (g := w.heap.size + 1) rfl (HasRow.set_same R2.out (ag .u64 25 h')) (ag_size _ _ _) Tryd.underlying42 (by kernel_rfl)) rfl ⟨rfl, below_setRow BL.out (by omega) _⟩
end Go.Proofs.YtdlanihbpbfbcaaDoor
