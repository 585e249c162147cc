/- Contracts of moved and spread. -/
import Derived.Test.YtdlanihbpbfbcaaDoorHs
import Derived.BigQuiet
namespace Go.Proofs.YtdlanihbpbfbcaaDoor
open Go.RowKit
set_option linter.unusedVariables false

def tn (i : Nat) : Nat := ([0, 1, 62, 28, 27, 36, 44, 6, 55, 20, 3, 10, 43, 25, 39, 41, 45, 15, 21, 8, 18, 2, 61, 56, 14] : List Nat).getD i 0
def pl (i : Nat) : Nat := ([0, 10, 20, 5, 15, 16, 1, 11, 21, 6, 7, 17, 2, 12, 22, 23, 8, 18, 3, 13, 14, 24, 9, 19, 4] : List Nat).getD i 0
def src (i : Nat) : Nat := ([0, 6, 12, 18, 24, 3, 9, 10, 16, 22, 1, 7, 13, 19, 20, 4, 5, 11, 17, 23, 2, 8, 14, 15, 21] : List Nat).getD i 0
theorem tn_lt : ∀ i, i < 25 → tn i < 64 := by decide
theorem pl_lt : ∀ i, i < 25 → pl i < 25 := by decide
theorem src_lt : ∀ i, i < 25 → src i < 25 := by decide
theorem src_pl : ∀ j, j < 25 → ∀ i, i < 25 → (i = pl j ↔ src i = j) := by decide
/-- Each part turned up, at its new place. -/
def rho (f : Nat → Nat) (i : Nat) : Nat := rt (f (src i)) (tn (src i))
theorem rho_lt {f : Nat → Nat} (h : P25 f) : P25 (rho f) := fun i hi => rt_lt _ (h _ (src_lt i hi))
structure MV (f h : Nat → Nat) (j : Nat) : Prop where
  hv : ∀ i, i < 25 → h i = if src i < j then rho f i else 0
theorem MV.step {f h : Nat → Nat} {j : Nat} (hj : j < 25) (s : MV f h j) : MV f (upd h (pl j) (rt (f j) (tn j))) (j + 1) where
  hv i hi := by
    rw [upd_at]
    by_cases e : i = pl j
    · have e2 := (src_pl j hj i hi).1 e
      rw [if_pos e, if_pos (by omega)]; unfold rho; rw [e2]
    · have e2 : ¬ src i = j := fun h => e ((src_pl j hj i hi).2 h)
      rw [if_neg e, s.hv i hi]
      by_cases hl : src i < j
      · rw [if_pos hl, if_pos (by omega)]
      · rw [if_neg hl, if_neg (by omega)]
theorem rot_bel (x k : Nat) (hx : x < M) (hk : k < 64) (w : World) : Calls Tryd.prog 34 #[B x, .int .i64 (k : Int)] w fun e w' => e = .returned (B (rt x k)) ∧ Below w.heap.size w w' :=
  (rot_any x k hx hk w).mono fun e w' ⟨he, hw⟩ => ⟨he, hw ▸ Below.refl _ _⟩
/-- The block g holds the row c, frozen or not. -/
def TabRow (w : World) (g : Nat) (c : Array Value) : Prop := ∃ t fr, w.heap[g]? = some (.cells c t fr)
theorem TabRow.below {w w' : World} {g : Nat} {c : Array Value} (h : TabRow w g c) (hb : Below w.heap.size w w') : TabRow w' g c := by
  obtain ⟨t, fr, h⟩ := h
  exact ⟨t, fr, by rw [hb.block g (Array.getElem?_eq_some_iff.1 h).1]; exact h⟩
theorem TabRow.at {w : World} {g n : Nat} {k : IntKind} {f : Nat → Nat} (h : TabRow w g (ag k n f)) {i : Nat} (hi : i < n) : w.cell? ⟨g, i, none⟩ = some (.int k (f i : Nat)) := by
  obtain ⟨t, fr, h⟩ := h
  rw [cell_of_row w g i _ t fr h, ag_get, if_pos hi]
/-- The program's tables, where they lie. -/
structure Tabs (w : World) (mk : Nat → Nat) : Prop where
  m : TabRow w 0 (ag .u64 24 mk)
  t : TabRow w 1 (ag .i64 25 tn)
  p : TabRow w 2 (ag .i64 25 pl)
theorem Tabs.below {w w' : World} {mk : Nat → Nat} (h : Tabs w mk) (hb : Below w.heap.size w w') : Tabs w' mk := ⟨h.m.below hb, h.t.below hb, h.p.below hb⟩
set_option maxRecDepth 100000 in
set_option maxHeartbeats 4000000 in
theorem moved_any (f mk : Nat → Nat) (hf : P25 f) (w : World) (ht : Tabs w mk) : Calls Tryd.prog 29 #[A25 f] w fun e w' => e = .returned (A25 (rho f)) ∧ Below w.heap.size w w' := by
  have S : Hid (MV f (fun _ => 0) 0) := ⟨fun i _ => by simp⟩
  obtain ⟨h', hh⟩ : ∃ q, q = rho f := ⟨_, rfl⟩
  rw [← hh]
  have HH : Hid _ := hh
  clear hh
  have G : Hid (P25 f) := hf
  have HT0 : Hid (Tabs w mk) := ht
  clear hf ht
  go_enter Tryd.func29, Tryd.ntmps29
  go_wp2
  go_loopw [5] (fun i w' => ∃ (j : Nat) (h : Nat → Nat), j ≤ 25 ∧ i = .int .i64 (j : Int) ∧ HasRow w' w.heap.size (ag .u64 25 f) ∧ HasRow w' (w.heap.size + 1) z25 ∧ HasRow w' (w.heap.size + 1 + 1) (ag .u64 25 h) ∧ Below w.heap.size w w' ∧ MV f h j) (fun i _ => 25 - (intOf i).toNat)
  case atStart =>
    exact ⟨0, fun _ => 0, Nat.zero_le _, rfl, HasRow.old (HasRow.old (HasRow.last rfl)), HasRow.old (HasRow.last (by simp)), HasRow.last (by simp), by repeat (first | exact Below.refl _ _ | refine bel_alloc ?_ _), S.out⟩
  case round =>
    obtain ⟨j, h, hj, rfl, r1, r2, r3, bel, hT⟩ := hrel
    have R1 : Hid (HasRow wr w.heap.size (ag .u64 25 f)) := r1
    have R2 : Hid (HasRow wr (w.heap.size + 1) z25) := r2
    have R3 : Hid (HasRow wr (w.heap.size + 1 + 1) (ag .u64 25 h)) := r3
    have BL : Hid (Below w.heap.size w wr) := bel
    have HT : Hid (MV f h j) := hT
    clear hT r1 r2 r3 bel
    by_cases hlt : j < 25
    · have HJ : Hid (j < 25) := hlt
      have hd0 : (j : Int) < 25 := by omega
      have RT : Hid (Tabs wr mk) := HT0.out.below BL.out
      have d1 := cell_regrown (TabRow.at RT.out.p HJ.out)
      have d2 := cell_regrown (TabRow.at RT.out.t HJ.out)
      have d3 := cell_regrown (HasRow.at R1.out HJ.out)
      have hpl := pl_lt j hlt
      have hp : (pl j : Int) < 25 := by omega
      have HP : Hid (pl j < 25) := hpl
      have HTN : Hid (tn j < 64) := tn_lt j hlt
      clear hlt hj hpl
      generalize hpj : pl j = p at *
      generalize htj : tn j = tj at *
      have HPJ : Hid _ := hpj
      have HTJ : Hid _ := htj
      clear hpj htj
      go_upto_region 5 with fail
      refine wp_region_last_below (by kernel_rfl) (by kernel_rfl) (by simp) ?_
      simp only [List.dropLast]
      repeat (go_big_quiet_step (fail))
      go_big_quiet_step ((exact Calls.regrown_of (rot_bel (f j) tj (G.out j HJ.out) HTN.out _)))
      repeat (go_big_quiet_step (fail))
      refine wpQuiet_nil ?_
      intro w5 hw'
      have hb : Below wr.heap.size wr w5 := by obtain ⟨p, rfl⟩ := hw'; exact below_regrown _ _ _
      clear hw' d1 d2 d3
      have q1 := HasRow.at (R3.out.below hb) HP.out
      have q2 := HasRow.frozen (R3.out.below hb) p
      have HB : Hid _ := hb
      clear hb
      refine wpOp_plain rfl rfl ?_
      go_simp
      go_wp2
      go_roundw
      case rel =>
        have hb := HB.out
        refine ⟨j + 1, _, HJ.out, by go_num, ?_, ?_, ?_, ?_, HT.out.step HJ.out⟩
        · rw [HasRow.setCell (R3.out.below hb)]
          exact (R1.out.below hb).set_other _ (by omega)
        · rw [HasRow.setCell (R3.out.below hb)]
          exact (R2.out.below hb).set_other _ (by omega)
        · rw [HasRow.setCell (R3.out.below hb), ag_set, HPJ.out, HTJ.out]
          exact (R3.out.below hb).set_same _
        · rw [HasRow.setCell (R3.out.below hb)]
          exact below_setRow (BL.out.trans (hb.mono BL.out.size)) (by omega) _
      case measure => simp [intOf]; have := HJ.out; omega
    · have hjn : j = 25 := by omega
      subst hjn
      have T := HT.out
      have e : ag .u64 25 h = ag .u64 25 (rho f) := ag_congr _ _ fun i hi => by rw [T.hv i hi, if_pos (src_lt i hi)]
      have R4 : Hid (HasRow wr (w.heap.size + 1 + 1) (ag .u64 25 h')) := by have := R3.out; rw [e, ← HH.out] at this; exact this
      clear e T HT S R3
      go_upto_region 7 with fail
      refine wp_region_lit ?_
      refine wpList_vload rfl 42 (.tmp 3) rfl (w.heap.size + 1 + 1) rfl .u64 25 h' R4.out Tryd.underlying42 (by kernel_rfl) ?_
      intro v hv
      have hsz := hv.size
      have hsc := run_storeCells_v (P := Tryd.prog) hv (g := w.heap.size + 1) 42 (by kernel_rfl) (StoreTo.row R2.out (by rfl))
      clear hv
      go_wp2
      exact bodyPost_ret (v := A25 h') (results_cell1 (p := 2) (ty := 42) rfl (g := w.heap.size + 1) rfl (HasRow.set_same R2.out (ag .u64 25 h')) (ag_size _ _ _) Tryd.underlying42 (by kernel_rfl)) rfl ⟨rfl, below_setRow BL.out (by omega) _⟩
end Go.Proofs.YtdlanihbpbfbcaaDoor
