/- Contracts of the steps of the program's round. -/
import Derived.Test.YtdlanihbpbfbcaaDoorHn
import Derived.Test.YtdlanihbpbfbcaaDoorRg
import Derived.Deep.Draws
import Derived.WalkSmall
import Derived.BigRegion
import Derived.Deep.Cut
namespace Go.Proofs.YtdlanihbpbfbcaaDoor
open Go.RowKit
set_option linter.unusedVariables false
attribute [local go_sem] setCell_drewN

set_option maxRecDepth 100000 in
set_option maxHeartbeats 400000 in
theorem rot_any (x k : Nat) (hx : x < M) (hk : k < 64) (w : World) : Calls Tryd.prog 34 #[B x, .int .i64 (k : Int)] w fun e w' => e = .returned (B (rt x k)) ∧ w' = w := by
  have ha : bits .and .u64 (k : Int) 63 = (k : Int) := by
    have e := bits_and k 63 (by unfold M; omega) (by decide)
    have e2 : k &&& 63 = k := by rw [Nat.and_two_pow_sub_one_eq_mod k 6]; omega
    rw [e2] at e
    exact e
  have hr : Hid _ := rt_int x k hx
  clear hx
  go_enter Tryd.func34, Tryd.ntmps34
  go_wp2
  rw [hr.out]
  go_ret
  exact ⟨rfl, rfl⟩
set_option maxRecDepth 100000 in
set_option maxHeartbeats 400000 in
theorem turn_any (x k : Nat) (hx : x < M) (hk : k < 64) (w : World) : Calls Tryd.prog 33 #[B x, .int .i64 (k : Int)] w fun e w' => e = .returned (B (rt x k)) ∧ w' = w := by
  by_cases h0 : k = 0
  · subst h0
    rw [rt_zero hx]
    go_enter Tryd.func33, Tryd.ntmps33
    go_wp2
    go_ret
    exact ⟨rfl, rfl⟩
  · have hr : Hid _ := rt_int x k hx
    clear hx
    go_enter Tryd.func33, Tryd.ntmps33
    go_wp2
    rw [hr.out]
    go_ret
    exact ⟨rfl, rfl⟩

abbrev z25 : Array Value := #[.int .u64 0, .int .u64 0, .int .u64 0, .int .u64 0, .int .u64 0, .int .u64 0, .int .u64 0, .int .u64 0, .int .u64 0, .int .u64 0, .int .u64 0, .int .u64 0, .int .u64 0, .int .u64 0, .int .u64 0, .int .u64 0, .int .u64 0, .int .u64 0, .int .u64 0, .int .u64 0, .int .u64 0, .int .u64 0, .int .u64 0, .int .u64 0, .int .u64 0]
theorem z25_ag : z25 = ag .u64 25 (fun _ => 0) := rfl
abbrev A25 (f : Nat → Nat) : Value := .agg (ag .u64 25 f)
theorem upd_at (f : Nat → Nat) (i x j : Nat) : upd f i x j = if j = i then x else f j := rfl

/-- What is laid behind j rows. -/
structure hSI (f h : Nat → Nat) (j : Nat) : Prop where
  hv : ∀ i, i < 25 → h i = if i < 5 * j then chi f i else 0
theorem hSI.step {f h : Nat → Nat} {j : Nat} (hj : j < 5) (s : hSI f h j) : hSI f (upd (upd (upd (upd (upd h (5 * j) (f (5 * j) ^^^ nt (f (5 * j + 1)) (f (5 * j + 2)))) (5 * j + 1) (f (5 * j + 1) ^^^ nt (f (5 * j + 2)) (f (5 * j + 3)))) (5 * j + 2) (f (5 * j + 2) ^^^ nt (f (5 * j + 3)) (f (5 * j + 4)))) (5 * j + 3) (f (5 * j + 3) ^^^ nt (f (5 * j + 4)) (f (5 * j)))) (5 * j + 4) (f (5 * j + 4) ^^^ nt (f (5 * j)) (f (5 * j + 1)))) (j + 1) where
  hv i hi := by
    simp only [upd_at]
    have key : ∀ m, m < 5 → i = 5 * j + m → n1 i = 5 * j + (m + 1) % 5 ∧ n2 i = 5 * j + (m + 2) % 5 := by
      intro m hm e; subst e; unfold n1 n2
      rw [show (5 * j + m) / 5 = j by omega, show (5 * j + m) % 5 = m by omega]
      omega
    have c : ∀ m, m < 5 → i = 5 * j + m → chi f i = f (5 * j + m) ^^^ nt (f (5 * j + (m + 1) % 5)) (f (5 * j + (m + 2) % 5)) := by
      intro m hm e; obtain ⟨e1, e2⟩ := key m hm e; unfold chi; rw [e1, e2, e]
    by_cases h4 : i = 5 * j + 4
    · rw [if_pos h4, if_pos (by omega), c 4 (by omega) h4]; rfl
    by_cases h3 : i = 5 * j + 3
    · rw [if_neg h4, if_pos h3, if_pos (by omega), c 3 (by omega) h3]; rfl
    by_cases h2 : i = 5 * j + 2
    · rw [if_neg h4, if_neg h3, if_pos h2, if_pos (by omega), c 2 (by omega) h2]
    by_cases h1 : i = 5 * j + 1
    · rw [if_neg h4, if_neg h3, if_neg h2, if_pos h1, if_pos (by omega), c 1 (by omega) h1]
    by_cases h0 : i = 5 * j
    · rw [if_neg h4, if_neg h3, if_neg h2, if_neg h1, if_pos h0, if_pos (by omega), c 0 (by omega) h0]; rfl
    rw [if_neg h4, if_neg h3, if_neg h2, if_neg h1, if_neg h0, s.hv i hi]
    by_cases hl : i < 5 * j
    · rw [if_pos hl, if_pos (by omega)]
    · rw [if_neg hl, if_neg (by omega)]

theorem results_cell1 {P : Program} {fn : Func} {p : Tmp} {ty : TypeId} (h : fn.results = #[.cell p ty]) {tmps : Array Value} {w : World} {g : Nat} {c : Array Value} {n : Nat} {e : TypeId}
    (h1 : tmps.getD p undef = .pointer (some ⟨g, 0, none⟩)) (r1 : HasRow w g c) (n1 : c.size = n)
    (hu : P.underlying ty = some (.array n e)) (hi : (P.info? ty).map (·.size) = some n) : (results fn tmps).run P w = .ok (.agg c) w := by
  obtain ⟨t, r1⟩ := r1
  have h1' : tmps[p]?.getD undef = .pointer (some ⟨g, 0, none⟩) := by rw [← h1]; simp
  have k1 := run_loadVar_row (P := P) w g t ty c (0, 0) _ r1 hu rfl (by rw [n1]; exact hi)
  simp only [results, h]
  simp [h1', asAddr, k1]

theorem HasRow.frozen {w : World} {g : Nat} {c : Array Value} (h : HasRow w g c) (i : Nat) : w.frozen? ⟨g, i, none⟩ = false := by
  obtain ⟨t, h⟩ := h
  exact frozen_of_row w g i c t h
theorem HasRow.at {w : World} {g n : Nat} {k : IntKind} {f : Nat → Nat} (h : HasRow w g (ag k n f)) {i : Nat} (hi : i < n) : w.cell? ⟨g, i, none⟩ = some (.int k (f i : Nat)) := by
  rw [h.cell, ag_get, if_pos hi]

set_option maxRecDepth 100000 in
set_option maxHeartbeats 4000000 in
theorem sifted_any (f : Nat → Nat) (hf : P25 f) (w : World) : Calls Tryd.prog 28 #[A25 f] w fun e w' => e = .returned (A25 (chi f)) ∧ Below w.heap.size w w' := by
  have S : Hid (hSI f (fun _ => 0) 0) := ⟨fun i _ => by simp⟩
  have G : Hid (P25 f) := hf
  clear hf
  obtain ⟨h', hh⟩ : ∃ q, q = chi f := ⟨_, rfl⟩
  rw [← hh]
  have HH : Hid _ := hh
  clear hh
  go_enter Tryd.func28, Tryd.ntmps28
  go_wp2
  go_loopw [4] (fun i w' => ∃ (j r nq : Nat) (h : Nat → Nat), j ≤ 5 ∧ r = 5 * j ∧ i = .int .i64 (r : Int) ∧ w' = (((w.alloc (Obj.cells (ag .u64 25 f) 42)).alloc (Obj.cells z25 42)).alloc (Obj.cells (ag .u64 25 h) 42)).drewN nq ∧ hSI f h j) (fun i _ => 25 - (intOf i).toNat)
  case atStart =>
    exact ⟨0, 0, 0, fun _ => 0, Nat.zero_le _, rfl, rfl, rfl, S.out⟩
  case round =>
    obtain ⟨j, r, nq, h, hj, hr, rfl, rfl, hT⟩ := hrel
    have HT : Hid (hSI f h j ∧ r = 5 * j) := ⟨hT, hr⟩
    clear hT
    by_cases hlt : j < 5
    · have hr20 : r ≤ 20 := by omega
      have HJ : Hid (j < 5) := hlt
      clear hr hlt hj
      have c0 : (ag .u64 25 f)[r]? = some (.int .u64 (f r : Nat)) := by rw [ag_get, if_pos (by omega)]
      have c1 : (ag .u64 25 f)[r + 1]? = some (.int .u64 (f (r + 1) : Nat)) := by rw [ag_get, if_pos (by omega)]
      have c2 : (ag .u64 25 f)[r + 2]? = some (.int .u64 (f (r + 2) : Nat)) := by rw [ag_get, if_pos (by omega)]
      have c3 : (ag .u64 25 f)[r + 3]? = some (.int .u64 (f (r + 3) : Nat)) := by rw [ag_get, if_pos (by omega)]
      have c4 : (ag .u64 25 f)[r + 4]? = some (.int .u64 (f (r + 4) : Nat)) := by rw [ag_get, if_pos (by omega)]
      have hd : (r : Int) + 4 < 25 := by omega
      have hd0 : (r : Int) < 25 := by omega
      clear hr20
      have E0 : Hid _ := bits_xn _ _ _ (G.out (r) (by omega)) (G.out (r + 1) (by omega)) (G.out (r + 2) (by omega))
      have E1 : Hid _ := bits_xn _ _ _ (G.out (r + 1) (by omega)) (G.out (r + 2) (by omega)) (G.out (r + 3) (by omega))
      have E2 : Hid _ := bits_xn _ _ _ (G.out (r + 2) (by omega)) (G.out (r + 3) (by omega)) (G.out (r + 4) (by omega))
      have E3 : Hid _ := bits_xn _ _ _ (G.out (r + 3) (by omega)) (G.out (r + 4) (by omega)) (G.out (r) (by omega))
      have E4 : Hid _ := bits_xn _ _ _ (G.out (r + 4) (by omega)) (G.out (r) (by omega)) (G.out (r + 1) (by omega))
      go_upto_region 5 with fail
      go_region
      have s0 : (ag .u64 25 h)[r]? = some (.int .u64 (h (r) : Nat)) := by rw [ag_get, if_pos (by omega)]
      go_upto_region 7 with fail
      rw [(E0).out, ag_set]
      clear s0
      obtain ⟨h0, e0⟩ : ∃ q, q = upd h (r) (f (r) ^^^ nt (f (r + 1)) (f (r + 2))) := ⟨_, rfl⟩
      rw [← e0]
      have F0 : Hid _ := e0
      clear e0
      have s1 : (ag .u64 25 h0)[r + 1]? = some (.int .u64 (h0 (r + 1) : Nat)) := by rw [ag_get, if_pos (by omega)]
      go_upto_region 8 with fail
      rw [(E1).out, ag_set]
      clear s1
      obtain ⟨h1, e1⟩ : ∃ q, q = upd h0 (r + 1) (f (r + 1) ^^^ nt (f (r + 2)) (f (r + 3))) := ⟨_, rfl⟩
      rw [← e1]
      have F1 : Hid _ := e1
      clear e1
      have s2 : (ag .u64 25 h1)[r + 2]? = some (.int .u64 (h1 (r + 2) : Nat)) := by rw [ag_get, if_pos (by omega)]
      go_upto_region 9 with fail
      rw [(E2).out, ag_set]
      clear s2
      obtain ⟨h2, e2⟩ : ∃ q, q = upd h1 (r + 2) (f (r + 2) ^^^ nt (f (r + 3)) (f (r + 4))) := ⟨_, rfl⟩
      rw [← e2]
      have F2 : Hid _ := e2
      clear e2
      have s3 : (ag .u64 25 h2)[r + 3]? = some (.int .u64 (h2 (r + 3) : Nat)) := by rw [ag_get, if_pos (by omega)]
      go_upto_region 10 with fail
      rw [(E3).out, ag_set]
      clear s3
      obtain ⟨h3, e3⟩ : ∃ q, q = upd h2 (r + 3) (f (r + 3) ^^^ nt (f (r + 4)) (f (r))) := ⟨_, rfl⟩
      rw [← e3]
      have F3 : Hid _ := e3
      clear e3
      have s4 : (ag .u64 25 h3)[r + 4]? = some (.int .u64 (h3 (r + 4) : Nat)) := by rw [ag_get, if_pos (by omega)]
      go_upto_region 4 with fail
      rw [(E4).out, ag_set]
      clear s4
      obtain ⟨h4, e4⟩ : ∃ q, q = upd h3 (r + 4) (f (r + 4) ^^^ nt (f (r)) (f (r + 1))) := ⟨_, rfl⟩
      rw [← e4]
      have F4 : Hid _ := e4
      clear e4
      go_wp2
      go_roundw
      case rel =>
        obtain ⟨T, hr⟩ := HT.out
        refine ⟨j + 1, r + 5, nq + 1, _, HJ.out, by omega, by go_num, rfl, ?_⟩
        have T2 := T.step HJ.out
        rw [← hr] at T2
        rw [F4.out, F3.out, F2.out, F1.out, F0.out]
        exact T2
      case measure => simp [intOf]; omega
    · have hjn : j = 5 := by omega
      subst hjn
      obtain ⟨T, _⟩ := HT.out
      have e : ag .u64 25 h = ag .u64 25 (chi f) := ag_congr _ _ fun i hi => by rw [T.hv i hi, if_pos (by omega)]
      rw [e, ← HH.out]
      clear e T HT
      subst hr
      clear S
      go_upto_region 11 with fail
      refine wp_region_lit ?_
      refine wpList_vload rfl 42 (.tmp 3) rfl (w.heap.size + 1 + 1) rfl .u64 25 h' (HasRow.drewN (HasRow.last (by simp)) nq) Tryd.underlying42 (by kernel_rfl) ?_
      intro v hv
      have hsz := hv.size
      have hsc := run_storeCells_v (P := Tryd.prog) hv (g := w.heap.size + 1) 42 (by kernel_rfl) (StoreTo.drewN (StoreTo.old (o := Obj.cells (ag .u64 25 h') 42) (StoreTo.last (w := w.alloc (Obj.cells (ag .u64 25 f) 42)) (c := z25) (t := 42) (by simp) (by rfl))) nq)
      clear hv
      go_wp2
      exact bodyPost_ret (v := A25 h') (results_cell1 (p := 2) (ty := 42) rfl (g := w.heap.size + 1) rfl (HasRow.drewN (HasRow.old (o := Obj.cells (ag .u64 25 h') 42) (HasRow.last (c := ag .u64 25 h') (n := w.heap.size + 1) (w := w.alloc (Obj.cells (ag .u64 25 f) 42)) (t := 42) (by simp))) nq) (ag_size _ _ _) Tryd.underlying42 (by kernel_rfl)) rfl ⟨rfl, by (repeat (first | exact Below.refl _ _ | apply Below.drew | apply below_drewN | refine bel_alloc ?_ _))⟩
end Go.Proofs.YtdlanihbpbfbcaaDoor
