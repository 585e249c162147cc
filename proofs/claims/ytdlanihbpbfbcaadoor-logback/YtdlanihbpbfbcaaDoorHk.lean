/- Contracts of taken, told. -/
import Derived.Test.YtdlanihbpbfbcaaDoorHd
import Derived.ChangeKeysEq
namespace Go.Proofs.YtdlanihbpbfbcaaDoor
open Go.RowKit
set_option linter.unusedVariables false
abbrev B136 (g : Nat → Nat) : Value := .agg (ag .u8 136 g)
theorem run_idx136 {c : Array Value} {g : Nat → Nat} (hc : IsRow c .u8 136 g) (j : Nat) (hj : j < 136) (w : World) : (Instr.index 46 (.agg c) (.int .i64 (j : Int))).run Tryd.prog w = .ok (.int .u8 (g j : Nat)) w := by
  rw [hc.eq]
  have h1 : (ag .u8 136 g)[j]? = some (.int .u8 (g j : Nat)) := by rw [ag_get, if_pos hj]
  have h2 : (ag .u8 136 g).size = 136 := ag_size _ _ _
  simp [Instr.index, asIntOf, run_underlying Tryd.underlying46, h2, hj, part, isAgg, run_underlying Tryd.underlying5, go_sem]
  exact (Array.getElem?_eq_some_iff.1 h1).2
/-- The first j bytes of a block taken into the parts. -/
def tk (f g : Nat → Nat) : Nat → Nat → Nat
  | 0 => f
  | j + 1 => upd (tk f g j) (j / 8) (tk f g j (j / 8) ^^^ g j * 2 ^ (j % 8 * 8))
theorem byte_shl {x s : Nat} (hx : x < 256) (hs : s < 8) : x * 2 ^ (s * 8) < M := by
  have h8 : s = 0 ∨ s = 1 ∨ s = 2 ∨ s = 3 ∨ s = 4 ∨ s = 5 ∨ s = 6 ∨ s = 7 := by omega
  unfold M
  rcases h8 with rfl | rfl | rfl | rfl | rfl | rfl | rfl | rfl <;> omega
theorem take_int (a x s : Nat) (ha : a < M) (hx : x < 256) (hs : s < 8) : bits .xor .u64 (a : Int) (IntKind.u64.wrap ((x : Int) * 2 ^ (s * 8))) = ((a ^^^ x * 2 ^ (s * 8) : Nat) : Int) := by
  have hb := byte_shl hx hs
  have e : IntKind.u64.wrap ((x : Int) * 2 ^ (s * 8)) = ((x * 2 ^ (s * 8) : Nat) : Int) := by
    rw [show (x : Int) * 2 ^ (s * 8) = ((x * 2 ^ (s * 8) : Nat) : Int) by simp]
    generalize x * 2 ^ (s * 8) = y at *
    simp only [IntKind.wrap_u64]; unfold M at hb; omega
  rw [e, bits_xor _ _ ha hb]
theorem tk_lt {f g : Nat → Nat} (hf : P25 f) (hg : ∀ i, i < 136 → g i < 256) : ∀ j, j ≤ 136 → P25 (tk f g j)
  | 0, _ => hf
  | j + 1, hj => fun i hi => by
    have ih := tk_lt hf hg j (by omega)
    unfold tk; rw [upd_at]; split
    · exact xor_lt (ih _ (by omega)) (byte_shl (hg j (by omega)) (Nat.mod_lt _ (by decide)))
    · exact ih i hi

set_option maxRecDepth 100000 in
set_option maxHeartbeats 4000000 in
theorem taken_any (f g : Nat → Nat) (hf : P25 f) (hg : ∀ i, i < 136 → g i < 256) (w : World) : Calls Tryd.prog 22 #[A25 f, B136 g] w fun e w' => e = .returned (A25 (tk f g 136)) ∧ Below w.heap.size w w' := by
  obtain ⟨h', hh⟩ : ∃ q, q = tk f g 136 := ⟨_, rfl⟩
  rw [← hh]
  have HH : Hid _ := hh
  clear hh
  have G : Hid (P25 f ∧ ∀ i, i < 136 → g i < 256) := ⟨hf, hg⟩
  clear hf hg
  go_enter Tryd.func22, Tryd.ntmps22
  go_upto_region 1 with fail
  refine name_world _ ?_
  intro w0 hw0
  have K1 : Hid (HasRow w0 w.heap.size (ag .u64 25 f) ∧ HasRow w0 (w.heap.size + 1) (ag .u8 136 g) ∧ HasRow w0 (w.heap.size + 1 + 1) z25 ∧ Below w.heap.size w w0) := by
    show _ ∧ _
    rw [hw0]
    exact ⟨HasRow.old (HasRow.old (HasRow.last rfl)), HasRow.old (HasRow.last (by simp)), HasRow.last (by simp), by repeat (first | exact Below.refl _ _ | refine bel_alloc ?_ _)⟩
  clear hw0
  refine wp_region_lit ?_
  refine wpList_vload rfl 46 (.tmp 3) rfl (w.heap.size + 1) rfl .u8 136 g K1.out.2.1 Tryd.underlying46 (by kernel_rfl) ?_
  intro c hc
  have HC : Hid _ := hc
  clear hc
  go_wp2
  go_loopw [8] (fun i w' => ∃ (j : Nat) (h : Nat → Nat), j ≤ 136 ∧ i = .int .i64 (j : Int) ∧ HasRow w' w.heap.size (ag .u64 25 h) ∧ HasRow w' (w.heap.size + 1 + 1) z25 ∧ Below w.heap.size w w' ∧ h = tk f g j) (fun i _ => 136 - (intOf i).toNat)
  case atStart =>
    exact ⟨0, f, Nat.zero_le _, rfl, K1.out.1, K1.out.2.2.1, K1.out.2.2.2, rfl⟩
  case round =>
    clear K1
    obtain ⟨j, h, hj, rfl, r1, r2, bel, hT⟩ := hrel
    have R1 : Hid (HasRow wr w.heap.size (ag .u64 25 h)) := r1
    have R2 : Hid (HasRow wr (w.heap.size + 1 + 1) z25) := r2
    have BL : Hid (Below w.heap.size w wr) := bel
    have HT : Hid (h = tk f g j) := hT
    clear hT r1 r2 bel
    by_cases hlt : j < 136
    · have HJ : Hid (j < 136) := hlt
      have hd0 : (j : Int) < 136 := by omega
      have hx := fun w => run_idx136 HC.out j hlt w
      have g256 := G.out.2 j hlt
      have i1 : ((g j : Nat) : Int) < 256 := by omega
      have i2 : (j : Int) / 8 < 25 := by omega
      have d1 := cell_regrown (HasRow.at R1.out (show j / 8 < 25 by omega))
      have E : Hid _ := take_int (h (j / 8)) (g j) (j % 8) (by have := tk_lt G.out.1 G.out.2 j (by omega) (j / 8) (by omega); rw [HT.out]; exact this) g256 (Nat.mod_lt _ (by decide))
      clear hlt hj g256
      go_upto_region 4 with fail
      refine wp_region_last_below (by kernel_rfl) (by kernel_rfl) (by simp) ?_
      simp only [List.dropLast]
      repeat (go_big_quiet_step (fail))
      refine wpQuiet_nil ?_
      intro w5 hw'
      have hb : Below wr.heap.size wr w5 := by obtain ⟨p, rfl⟩ := hw'; exact below_regrown _ _ _
      clear hw' d1
      have q1 := HasRow.at (R1.out.below hb) (show j / 8 < 25 by omega)
      have q2 := HasRow.frozen (R1.out.below hb) (j / 8)
      have HB : Hid _ := hb
      clear hb
      refine wpOp_plain rfl rfl ?_
      go_simp
      rw [E.out]
      go_wp2
      go_roundw
      case rel =>
        have hb := HB.out
        refine ⟨j + 1, _, HJ.out, by go_num, ?_, ?_, ?_, rfl⟩
        · rw [HasRow.setCell (R1.out.below hb), ag_set, HT.out]
          exact (R1.out.below hb).set_same _
        · rw [HasRow.setCell (R1.out.below hb)]
          exact (R2.out.below hb).set_other _ (by omega)
        · rw [HasRow.setCell (R1.out.below hb)]
          exact below_setRow (BL.out.trans (hb.mono BL.out.size)) (Nat.le_refl _) _
      case measure => simp [intOf]; have := HJ.out; omega
    · have hjn : j = 136 := by omega
      subst hjn
      have R4 : Hid (HasRow wr w.heap.size (ag .u64 25 h')) := by have := R1.out; rw [HT.out, ← HH.out] at this; exact this
      clear HT R1 hlt hj
      go_upto_region 6 with fail
      refine wp_region_lit ?_
      refine wpList_vload rfl 42 (.tmp 2) rfl w.heap.size rfl .u64 25 h' R4.out Tryd.underlying42 (by kernel_rfl) ?_
      intro v hv
      have hsz := hv.size
      have hsc := run_storeCells_v (P := Tryd.prog) hv (g := w.heap.size + 1 + 1) 42 (by kernel_rfl) (StoreTo.row R2.out (by rfl))
      clear hv
      go_wp2
      exact bodyPost_ret (v := A25 h') (results_cell1 (p := 4) (ty := 42) rfl (g := w.heap.size + 1 + 1) rfl (HasRow.set_same R2.out (ag .u64 25 h')) (ag_size _ _ _) Tryd.underlying42 (by kernel_rfl)) rfl ⟨rfl, below_setRow BL.out (by omega) _⟩

/-- The bytes of the first four parts. -/
def tb (f : Nat → Nat) (i : Nat) : Nat := f (i / 8) / 2 ^ (i % 8 * 8) % 256
def told (f : Nat → Nat) : ByteArray := strOfNums ((List.range 32).map fun i => ((tb f i : Nat) : Int))
theorem conv32 {w : World} {b : Nat} {q : Nat → Nat} (h : HasRow w b (ag .u8 32 q)) : (convert 41 9 (.slice (some ⟨b, 0, none⟩) 32 32)).run Tryd.prog w = .ok (.string (strOfNums ((List.range 32).map fun i => ((q i : Nat) : Int)))) w := by
  refine run_convert_bytes_arg _ 41 5 Tryd.underlying41 Tryd.underlying5 _ 0 32 32 _ (by simp) (fun i hi => ?_) 9 Tryd.underlying9
  rw [Nat.zero_add, h.at hi]
  simp [hi]
abbrev z32 : Array Value := #[.int .u8 0, .int .u8 0, .int .u8 0, .int .u8 0, .int .u8 0, .int .u8 0, .int .u8 0, .int .u8 0, .int .u8 0, .int .u8 0, .int .u8 0, .int .u8 0, .int .u8 0, .int .u8 0, .int .u8 0, .int .u8 0, .int .u8 0, .int .u8 0, .int .u8 0, .int .u8 0, .int .u8 0, .int .u8 0, .int .u8 0, .int .u8 0, .int .u8 0, .int .u8 0, .int .u8 0, .int .u8 0, .int .u8 0, .int .u8 0, .int .u8 0, .int .u8 0]
structure TD (f h : Nat → Nat) (j : Nat) : Prop where
  hv : ∀ i, i < 32 → h i = if i < j then tb f i else 0
theorem TD.step {f h : Nat → Nat} {j : Nat} (s : TD f h j) : TD f (upd h j (tb f j)) (j + 1) where
  hv i hi := by
    rw [upd_at]
    by_cases e : i = j
    · rw [if_pos e, if_pos (by omega), e]
    · rw [if_neg e, s.hv i hi]
      by_cases hl : i < j
      · rw [if_pos hl, if_pos (by omega)]
      · rw [if_neg hl, if_neg (by omega)]

set_option maxRecDepth 100000 in
set_option maxHeartbeats 4000000 in
theorem told_any (f : Nat → Nat) (w : World) : Calls Tryd.prog 23 #[A25 f] w fun e w' => e = .returned (.string (told f)) ∧ Below w.heap.size w w' := by
  obtain ⟨sr, hh⟩ : ∃ q, q = told f := ⟨_, rfl⟩
  rw [← hh]
  have HH : Hid _ := hh
  clear hh
  have S : Hid (TD f (fun _ => 0) 0) := ⟨fun i _ => by simp⟩
  go_enter Tryd.func23, Tryd.ntmps23
  go_wp2
  go_loopw [5] (fun i w' => ∃ (j : Nat) (h : Nat → Nat), j ≤ 32 ∧ i = .int .i64 (j : Int) ∧ HasRow w' w.heap.size (ag .u64 25 f) ∧ HasRow w' (w.heap.size + 1) (ag .u8 32 h) ∧ Below w.heap.size w w' ∧ TD f h j) (fun i _ => 32 - (intOf i).toNat)
  case atStart =>
    exact ⟨0, fun _ => 0, Nat.zero_le _, rfl, HasRow.old (HasRow.last rfl), HasRow.last (by simp), by repeat (first | exact Below.refl _ _ | refine bel_alloc ?_ _), S.out⟩
  case round =>
    clear S
    obtain ⟨j, h, hj, rfl, r1, r2, bel, hT⟩ := hrel
    have R1 : Hid (HasRow wr w.heap.size (ag .u64 25 f)) := r1
    have R2 : Hid (HasRow wr (w.heap.size + 1) (ag .u8 32 h)) := r2
    have BL : Hid (Below w.heap.size w wr) := bel
    have HT : Hid (TD f h j) := hT
    clear hT r1 r2 bel
    by_cases hlt : j < 32
    · have HJ : Hid (j < 32) := hlt
      have hd0 : (j : Int) < 32 := by omega
      have i2 : (j : Int) / 8 < 25 := by omega
      have d1 := HasRow.at R1.out (show j / 8 < 25 by omega)
      have q1 := HasRow.at R2.out hlt
      have q2 := HasRow.frozen R2.out j
      clear hlt hj
      go_wp2
      go_roundw
      case rel =>
        refine ⟨j + 1, _, HJ.out, by go_num, ?_, ?_, ?_, HT.out.step⟩
        · rw [HasRow.setCell R2.out]; exact R1.out.set_other _ (by omega)
        · rw [HasRow.setCell R2.out]
          have ez := ag_set .u8 32 h j (tb f j)
          rw [← ez]
          have e : ((f (j / 8) : Nat) : Int) / 2 ^ (j % 8 * 8) % 256 = ((tb f j : Nat) : Int) := by unfold tb; simp
          rw [e]
          exact R2.out.set_same _
        · rw [HasRow.setCell R2.out]; exact below_setRow BL.out (by omega) _
      case measure => simp [intOf]; have := HJ.out; omega
    · have hjn : j = 32 := by omega
      subst hjn
      have e : ag .u8 32 h = ag .u8 32 (tb f) := ag_congr _ _ fun i hi => by rw [HT.out.hv i hi, if_pos hi]
      have R3 : Hid (HasRow wr (w.heap.size + 1) (ag .u8 32 (tb f))) := by have := R2.out; rw [e] at this; exact this
      have hcv := conv32 R3.out
      rw [show strOfNums ((List.range 32).map fun i => ((tb f i : Nat) : Int)) = sr from HH.out.symm] at hcv
      clear e HT R2 hlt hj R3 R1
      go_wp2
      go_ret
      exact ⟨rfl, BL.out⟩
end Go.Proofs.YtdlanihbpbfbcaaDoor
