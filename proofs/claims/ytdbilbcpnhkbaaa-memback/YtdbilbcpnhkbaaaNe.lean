/- Texts put into others, and sliced, of the program and of the document. -/
import Derived.Test.YtdbilbcpnhkbaaaNd
namespace Go.Proofs.Ytdbilbcpnhkbaaa
open Go.RowKit Go.Sort Go.Shelf
set_option linter.unusedVariables false
set_option maxRecDepth 100000
/-- A text in another one. -/
def putV (m : List UInt8) (i : Int) (s : List UInt8) : List UInt8 := if i < 0 ∨ (m.length : Int) - s.length < i then m else m.take i.toNat ++ s ++ m.drop (i.toNat + s.length)
theorem put_any (m s : List UInt8) (hm : m.length ≤ 1000000) (hs : s.length ≤ 1000000) (i : Int) (w : World) : Calls Try.prog 15 #[str m, Z i, str s] w fun e w' => e = .returned (str (putV m i s)) ∧ Below w.heap.size w w' := by
  refine inQ (J := Below w.heap.size w) (F := (· < w.heap.size)) Try.func15 (Below.refl _ _) fun a I => ?_
  by_cases h0 : i < 0
  · refine goQ [bO .lss 3 (run_lssZ (x := i) (y := 0) (b := true) (decide_eq_true (by omega)))] (nonR w) I fun β a w1 I1 hb => ?_
    exact outQ (v := str m) I1 ⟨by unfold putV; rw [if_pos (.inl h0)], I1.hJ⟩
  obtain ⟨k, hk⟩ : ∃ k : Int, (m.length : Int) - s.length = k := ⟨_, rfl⟩
  by_cases h1 : k < i
  · refine goQ [bO .lss 3 (run_lssZ (x := i) (y := 0) (b := false) (decide_eq_false (by omega))), lnO m, lnO s, bO .sub 3 (run_subZ (x := m.length) (y := s.length) (z := k) (by rw [wzf (by omega) (by omega)]; exact hk)), bO .gtr 3 (run_gtrZ (x := i) (y := k) (b := true) (decide_eq_true (by omega)))] (nonR w) I fun β a w1 I1 hb => ?_
    exact outQ (v := str m) I1 ⟨by unfold putV; rw [if_pos (.inr (by omega))], I1.hJ⟩
  obtain ⟨p, rfl⟩ : ∃ p : Nat, i = p := ⟨i.toNat, by omega⟩
  refine goQ [bO .lss 3 (run_lssZ (x := p) (y := 0) (b := false) (decide_eq_false (by omega))), lnO m, lnO s, bO .sub 3 (run_subZ (x := m.length) (y := s.length) (z := k) (by rw [wzf (by omega) (by omega)]; exact hk)), bO .gtr 3 (run_gtrZ (x := p) (y := k) (b := false) (decide_eq_false (by omega)))] (nonR w) I fun β a w1 I1 hb => ?_
  have ht := fun w => to_run (l := m) (k := p) (by omega) w
  have hf := fun w => from_run (l := m) (k := p + s.length) (by omega) w
  have hl1 : (m.take p).length ≤ 1000000 := by rw [List.length_take]; omega
  have hl2 : (m.drop (p + s.length)).length ≤ 1000000 := by rw [List.length_drop]; omega
  have e : putV m p s = m.take p ++ s ++ m.drop (p + s.length) := by unfold putV; rw [if_neg (by omega)]; rfl
  generalize m.take p = x at *
  generalize m.drop (p + s.length) = y at *
  refine dwQ 12 [sT 9 ht, bO .add 9 (addS_run x s (by omega)), lnO s, bO .add 3 (run_addZ (x := p) (y := s.length) (z := (p + s.length : Nat)) (by rw [wzf (by omega) (by omega)]; omega)), sO 9 hf, bO .add 9 (addS_run (x ++ s) y (by rw [List.length_append]; omega))] (nonR w) PanOk.post I1 fun a2 w2 I2 => ?_
  refine goQ [] (nonR w) I2 fun β a w3 I3 hb => ?_
  exact outQ (v := str (x ++ s ++ y)) I3 ⟨by rw [e], I3.hJ⟩
theorem rput_any (m s : List UInt8) (hm : m.length ≤ 1000000) (hs : s.length ≤ 1000000) (i : Int) (w : World) : Calls Try.prog 16 #[str m, Z i, str s] w fun e w' => e = .returned (str (putV m i s)) ∧ Below w.heap.size w w' := by
  refine inQ (J := Below w.heap.size w) (F := (· < w.heap.size)) Try.func16 (Below.refl _ _) fun a I => ?_
  by_cases h0 : i < 0
  · refine goQ [bO .lss 3 (run_lssZ (x := i) (y := 0) (b := true) (decide_eq_true (by omega)))] (nonR w) I fun β a w1 I1 hb => ?_
    exact outQ (v := str m) I1 ⟨by unfold putV; rw [if_pos (.inl h0)], I1.hJ⟩
  by_cases h1 : (m.length : Int) < i
  · refine goQ [bO .lss 3 (run_lssZ (x := i) (y := 0) (b := false) (decide_eq_false (by omega))), lnO m, bO .gtr 3 (run_gtrZ (x := i) (y := m.length) (b := true) (decide_eq_true (by omega)))] (nonR w) I fun β a w1 I1 hb => ?_
    exact outQ (v := str m) I1 ⟨by unfold putV; rw [if_pos (.inr (by omega))], I1.hJ⟩
  obtain ⟨p, rfl⟩ : ∃ p : Nat, i = p := ⟨i.toNat, by omega⟩
  obtain ⟨k, hk⟩ : ∃ k : Int, (m.length : Int) - p = k := ⟨_, rfl⟩
  by_cases h2 : k < s.length
  · refine goQ [bO .lss 3 (run_lssZ (x := p) (y := 0) (b := false) (decide_eq_false (by omega))), lnO m, bO .gtr 3 (run_gtrZ (x := p) (y := m.length) (b := false) (decide_eq_false (by omega))), lnO s, lnO m, bO .sub 3 (run_subZ (x := m.length) (y := p) (z := k) (by rw [wzf (by omega) (by omega)]; exact hk)), bO .gtr 3 (run_gtrZ (x := s.length) (y := k) (b := true) (decide_eq_true (by omega)))] (nonR w) I fun β a w1 I1 hb => ?_
    exact outQ (v := str m) I1 ⟨by unfold putV; rw [if_pos (.inr (by omega))], I1.hJ⟩
  refine goQ [bO .lss 3 (run_lssZ (x := p) (y := 0) (b := false) (decide_eq_false (by omega))), lnO m, bO .gtr 3 (run_gtrZ (x := p) (y := m.length) (b := false) (decide_eq_false (by omega))), lnO s, lnO m, bO .sub 3 (run_subZ (x := m.length) (y := p) (z := k) (by rw [wzf (by omega) (by omega)]; exact hk)), bO .gtr 3 (run_gtrZ (x := s.length) (y := k) (b := false) (decide_eq_false (by omega)))] (nonR w) I fun β a w1 I1 hb => ?_
  have ht := fun w => to_run (l := m) (k := p) (by omega) w
  have hf := fun w => from_run (l := m) (k := p + s.length) (by omega) w
  have hl1 : (m.take p).length ≤ 1000000 := by rw [List.length_take]; omega
  have hl2 : (m.drop (p + s.length)).length ≤ 1000000 := by rw [List.length_drop]; omega
  have e : putV m p s = m.take p ++ s ++ m.drop (p + s.length) := by unfold putV; rw [if_neg (by omega)]; rfl
  generalize m.take p = x at *
  generalize m.drop (p + s.length) = y at *
  refine dwQ 12 [sT 9 ht, bO .add 9 (addS_run x s (by omega)), lnO s, bO .add 3 (run_addZ (x := p) (y := s.length) (z := (p + s.length : Nat)) (by rw [wzf (by omega) (by omega)]; omega)), sO 9 hf, bO .add 9 (addS_run (x ++ s) y (by rw [List.length_append]; omega))] (nonR w) PanOk.post I1 fun a2 w2 I2 => ?_
  refine goQ [] (nonR w) I2 fun β a w3 I3 hb => ?_
  exact outQ (v := str (x ++ s ++ y)) I3 ⟨by rw [e], I3.hJ⟩
/-- Some bytes of a text, 0 behind its end. -/
def slV (s : List UInt8) (n : Nat) (i : Int) : List UInt8 := if i < 0 ∨ 65536 < i then [] else fil ((s.drop n).take i.toNat) i.toNat
theorem slice_any (s : List UInt8) (hs : s.length ≤ 1000000) (n : Nat) (hn : n < W) (i : Int) (w : World) : Calls Try.prog 17 #[str s, U n, Z i] w fun e w' => e = .returned (str (slV s n i)) ∧ Below w.heap.size w w' := by
  have hbh := behind_any s hs n hn
  have hl : (s.drop n).length ≤ 1000000 := by rw [List.length_drop]; omega
  unfold slV
  generalize s.drop n = t at *
  unfold U at hbh ⊢
  generalize l0 n = a0 at *
  generalize l1 n = a1 at *
  generalize l2 n = a2 at *
  generalize l3 n = a3 at *
  refine inQ (J := Below w.heap.size w) (F := (· < w.heap.size)) Try.func17 (Below.refl _ _) fun a I => ?_
  by_cases h0 : i < 0
  · refine goQ [bO .lss 3 (run_lssZ (x := i) (y := 0) (b := true) (decide_eq_true (by omega)))] (nonR w) I fun β a w1 I1 hb => ?_
    exact outQ (v := str []) I1 ⟨by rw [if_pos (.inl h0)], I1.hJ⟩
  by_cases h1 : 65536 < i
  · refine goQ [bO .lss 3 (run_lssZ (x := i) (y := 0) (b := false) (decide_eq_false (by omega))), bO .gtr 3 (run_gtrZ (x := i) (y := 65536) (b := true) (decide_eq_true (by omega)))] (nonR w) I fun β a w1 I1 hb => ?_
    exact outQ (v := str []) I1 ⟨by rw [if_pos (.inr h1)], I1.hJ⟩
  obtain ⟨p, rfl⟩ : ∃ p : Nat, i = p := ⟨i.toNat, by omega⟩
  rw [if_neg (by omega), Int.toNat_natCast]
  have ht := fun w => to_run (l := t) (k := min p t.length) (by omega) w
  have hmn : (if (t.length : Int) < (p : Int) then (t.length : Int) else (p : Int)) = ((min p t.length : Nat) : Int) := by split <;> omega
  have e : t.take (min p t.length) = t.take p := by
    by_cases h : p ≤ t.length
    · rw [Nat.min_eq_left h]
    · rw [Nat.min_eq_right (by omega), List.take_length, List.take_of_length_le (by omega)]
  rw [e] at ht
  have hfi := fill_any (t.take p) p (by rw [List.length_take]; omega) (by omega)
  generalize min p t.length = q at *
  generalize fil (t.take p) p = z at *
  generalize t.take p = tk at *
  refine goQ [bO .lss 3 (run_lssZ (x := p) (y := 0) (b := false) (decide_eq_false (by omega))), bO .gtr 3 (run_gtrZ (x := p) (y := 65536) (b := false) (decide_eq_false (by omega))), kC Try.func26 hbh, lnO t, mnO (x := p) (y := t.length) (z := q) hmn, sT 9 ht, kC Try.func23 hfi] (nonR w) I fun β a w1 I1 hb => ?_
  exact outQ (v := str z) I1 ⟨rfl, I1.hJ⟩
end Go.Proofs.Ytdbilbcpnhkbaaa
