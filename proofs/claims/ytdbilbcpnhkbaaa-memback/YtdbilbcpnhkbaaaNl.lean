/- MemBack. -/
import Derived.Test.YtdbilbcpnhkbaaaNk
namespace Go.Proofs.Ytdbilbcpnhkbaaa
open Go.RowKit Go.Sort Go.Shelf
set_option linter.unusedVariables false
set_option maxRecDepth 100000
theorem put_in (m s : List UInt8) (p : Nat) (h : p + s.length ≤ m.length) : putV m (p : Int) s = m.take p ++ s ++ m.drop (p + s.length) := by
  unfold putV; rw [if_neg (by omega)]; rfl
theorem put_len (m s : List UInt8) (p : Nat) (h : p + s.length ≤ m.length) : (putV m (p : Int) s).length = m.length := by
  rw [put_in m s p h, List.length_append, List.length_append, List.length_take, List.length_drop]; omega
theorem put_get (m s : List UInt8) (p : Nat) (h : p + s.length ≤ m.length) (i : Nat) (hi : i < p ∨ p + s.length ≤ i) : (putV m (p : Int) s)[i]? = m[i]? := by
  rw [put_in m s p h, List.append_assoc, List.getElem?_append, List.length_take, Nat.min_eq_left (by omega)]
  rcases hi with hi | hi
  · rw [if_pos hi, List.getElem?_take, if_pos hi]
  · rw [if_neg (by omega), List.getElem?_append, if_neg (by omega), List.getElem?_drop]
    congr 1
    omega
theorem put_back (m s : List UInt8) (p : Nat) (h : p + s.length ≤ m.length) (h2 : s.length ≤ 65536) : slV (putV m (p : Int) s) p (s.length : Int) = s := by
  rw [slV_in _ _ _ h2, put_in m s p h, List.append_assoc, List.drop_append_of_le_length (by rw [List.length_take]; omega)]
  rw [List.drop_eq_nil_of_le (by rw [List.length_take]; omega), List.nil_append, List.take_append_of_le_length (Nat.le_refl _), List.take_length]
  exact fil_ge s _ (Nat.le_refl _)
theorem run_neq8 {x y : Int} {b : Bool} (h : decide (x ≠ y) = b) (o1 o2 : Operand) (w : World) : (do eqGuard .neq 5 o1 o2 (.int .u8 x) (.int .u8 y); binOp .neq 5 (.int .u8 x) (.int .u8 y) : Sem Value).run Try.prog w = .ok (.bool b) w := by
  subst h
  by_cases hx : x = y
  · simp [go_sem, hx]
  · simp [go_sem, hx]
theorem neS_run {a b : List UInt8} {q : Bool} (h : decide (a ≠ b) = q) (x y : Operand) (w : World) : (do eqGuard .neq 9 x y (str a) (str b); binOp .neq 9 (str a) (str b) : Sem Value).run Try.prog w = .ok (.bool q) w := by
  simp [go_sem]
  rw [← h]
  by_cases hab : a = b <;> simp [hab]
abbrev mbK : List Nat := [0, 1, 2, 6, 7, 50, 51]
abbrev mbW (m : List UInt8) (p : Nat) (s x : List UInt8) (l i : Nat) : Vs := frm 78 [(0, Sum.inl (str m)), (1, Sum.inl (.int .u16 p)), (2, Sum.inl (str s)), (6, Sum.inl (.bool false)), (7, Sum.inl (str x)), (50, Sum.inl (Z l)), (51, Sum.inl (Z i))]
set_option maxHeartbeats 4000000 in
theorem back_walk (m : List UInt8) (p : Nat) (hp : p < 65536) (s : List UInt8) (w : World) : Calls Try.prog 4 #[str m, .int .u16 p, str s] w fun e w' => e = .returned (.bool true) ∧ Below w.heap.size w w' := by
  have hM := M_big
  have hW := M_W
  have c1 := fun w => cnv35 p hp w
  have c2 := fun w => cnv35u p hp w
  refine inQ (J := Below w.heap.size w) (F := (· < w.heap.size)) Try.func4 (Below.refl _ _) fun a I => ?_
  by_cases hm : 10000 < m.length
  · refine goQ [lnO m, bO .gtr 3 (run_gtrZ (x := m.length) (y := 10000) (b := true) (decide_eq_true (by omega))), kC Try.func8 awake_any] (nonR w) I fun β a w1 I1 hb => ?_
    exact outQ (v := .bool true) I1 ⟨rfl, I1.hJ⟩
  have f0 := run_gtrZ (x := m.length) (y := 10000) (b := false) (decide_eq_false (by omega))
  by_cases hs : 10000 < s.length
  · refine goQ [lnO m, bO .gtr 3 f0, lnO s, bO .gtr 3 (run_gtrZ (x := s.length) (y := 10000) (b := true) (decide_eq_true (by omega))), kC Try.func8 awake_any] (nonR w) I fun β a w1 I1 hb => ?_
    exact outQ (v := .bool true) I1 ⟨rfl, I1.hJ⟩
  have f1 := run_gtrZ (x := s.length) (y := 10000) (b := false) (decide_eq_false (by omega))
  have hadd := run_addZ (x := p) (y := s.length) (z := (p + s.length : Nat)) (by rw [wzf (by omega) (by omega)]; omega)
  by_cases hf : m.length < p + s.length
  · refine goQ [lnO m, bO .gtr 3 f0, lnO s, bO .gtr 3 f1, vO 35 3 c1, lnO s, bO .add 3 hadd, lnO m, bO .gtr 3 (run_gtrZ (x := (p + s.length : Nat)) (y := m.length) (b := true) (decide_eq_true (by omega))), kC Try.func8 awake_any] (nonR w) I fun β a w1 I1 hb => ?_
    exact outQ (v := .bool true) I1 ⟨rfl, I1.hJ⟩
  have f2 := run_gtrZ (x := (p + s.length : Nat)) (y := m.length) (b := false) (decide_eq_false (by omega))
  have hpa := put_any m s (by omega) (by omega) p
  have hpl := put_len m s p (by omega)
  have hpg := put_get m s p (by omega)
  have hpb := put_back m s p (by omega) (by omega)
  generalize putV m (p : Int) s = x at *
  have hsl := slice_any x (by omega) p (by omega) (s.length : Int)
  rw [hpb, U_small p (by omega)] at hsl
  refine goQ [lnO m, bO .gtr 3 f0, lnO s, bO .gtr 3 f1, vO 35 3 c1, lnO s, bO .add 3 hadd, lnO m, bO .gtr 3 f2, vO 35 3 c1, kC Try.func15 hpa, lnO x, lnO m, bO .neq 3 (run_neqZ (x := x.length) (y := m.length) (b := false) (decide_eq_false (by omega))), vO 35 22 c2, dO 24 [0] (bd24_1 p), lnO s, kC Try.func17 hsl, bO .neq 9 (neS_run (a := s) (b := s) (q := false) (by simp)), lnO x] (nonR w) I fun β1 a1 w1 I1 hb1 => ?_
  let St : Nat → Act → World → Prop := fun k a w' => ∃ (i : Nat) (β : Nat → Nat) (u : Nat → Value), k = x.length - i ∧ i ≤ x.length ∧ SI (Below w.heap.size w) (· < w.heap.size) [] β (cfC (bodyL Try.f4) (fillF (scrF 78 mbK) u 0 (mbW m p s x x.length i)) [] 0) a w'
  refine lpM (bodyL Try.f4) St x.length ?_ ?_
  · obtain ⟨u, Iu⟩ := I1.scr (bodyL Try.f4) (scrF 78 mbK) (mbW m p s x x.length 0) [] 0
    exact ⟨0, β1, u, by omega, Nat.zero_le _, Iu⟩
  rintro k a3 w3 ⟨i, β3, u, rfl, hi, I4⟩
  refine wp_cfC (tm := fillF (scrF 78 mbK) u 0 (mbW m p s x x.length i)) (rows := []) (nx := 0) ?_
  rcases Nat.lt_or_ge i x.length with hil | hil
  · obtain ⟨bx, hbx⟩ : ∃ b, x[i]? = some b := ⟨_, List.getElem?_eq_getElem hil⟩
    obtain ⟨bm, hbm⟩ : ∃ b, m[i]? = some b := ⟨_, List.getElem?_eq_getElem (by omega)⟩
    have hup := run_addZ (x := i) (y := 1) (z := (i + 1 : Nat)) (by rw [wzf (by omega) (by omega)]; omega)
    refine goQ [bO .lss 3 (run_lssZ (x := i) (y := x.length) (b := true) (decide_eq_true (by omega)))] (nonR w) I4 fun β5 a5 w5 I5 hb5 => ?_
    by_cases h1 : i < p
    · have e : bx = bm := by have := hpg i (.inl h1); rw [hbx, hbm] at this; exact Option.some.inj this
      subst e
      refine dwQ 22 [vO 35 3 c1, bO .lss 3 (run_lssZ (x := i) (y := p) (b := true) (decide_eq_true (by omega))), iO 9 (p := str x) (i := Z i) (v := b8 bx.toNat) (idx_run hbx), iO 9 (p := str m) (i := Z i) (v := b8 bx.toNat) (idx_run hbm), bO .neq 5 (run_neq8 (x := bx.toNat) (y := bx.toNat) (b := false) (by simp))] (nonR w) (PanOk.then PanOk.post.qk) I5 fun a6 w6 I6 => ?_
      refine goQ [bO .add 3 hup] (nonR w) I6 fun β9 a9 w9 I9 hb9 => ?_
      obtain ⟨u', Iu⟩ := I9.scr (bodyL Try.f4) (scrF 78 mbK) (mbW m p s x x.length (i + 1)) [] 0
      exact endL ⟨x.length - (i + 1), by omega, i + 1, β9, u', rfl, hil, Iu⟩
    by_cases h2 : p + s.length ≤ i
    · have e : bx = bm := by have := hpg i (.inr h2); rw [hbx, hbm] at this; exact Option.some.inj this
      subst e
      refine dwQ 22 [vO 35 3 c1, bO .lss 3 (run_lssZ (x := i) (y := p) (b := false) (decide_eq_false (by omega))), vO 35 3 c1, lnO s, bO .add 3 hadd, bO .geq 3 (run_geqZ (x := i) (y := (p + s.length : Nat)) (b := true) (decide_eq_true (by omega))), iO 9 (p := str x) (i := Z i) (v := b8 bx.toNat) (idx_run hbx), iO 9 (p := str m) (i := Z i) (v := b8 bx.toNat) (idx_run hbm), bO .neq 5 (run_neq8 (x := bx.toNat) (y := bx.toNat) (b := false) (by simp))] (nonR w) (PanOk.then PanOk.post.qk) I5 fun a6 w6 I6 => ?_
      refine goQ [bO .add 3 hup] (nonR w) I6 fun β9 a9 w9 I9 hb9 => ?_
      obtain ⟨u', Iu⟩ := I9.scr (bodyL Try.f4) (scrF 78 mbK) (mbW m p s x x.length (i + 1)) [] 0
      exact endL ⟨x.length - (i + 1), by omega, i + 1, β9, u', rfl, hil, Iu⟩
    · refine dwQ 22 [vO 35 3 c1, bO .lss 3 (run_lssZ (x := i) (y := p) (b := false) (decide_eq_false (by omega))), vO 35 3 c1, lnO s, bO .add 3 hadd, bO .geq 3 (run_geqZ (x := i) (y := (p + s.length : Nat)) (b := false) (decide_eq_false (by omega)))] (nonR w) (PanOk.then PanOk.post.qk) I5 fun a6 w6 I6 => ?_
      refine goQ [bO .add 3 hup] (nonR w) I6 fun β9 a9 w9 I9 hb9 => ?_
      obtain ⟨u', Iu⟩ := I9.scr (bodyL Try.f4) (scrF 78 mbK) (mbW m p s x x.length (i + 1)) [] 0
      exact endL ⟨x.length - (i + 1), by omega, i + 1, β9, u', rfl, hil, Iu⟩
  · obtain rfl : i = x.length := by omega
    refine goQ [bO .lss 3 (run_lssZ (x := x.length) (y := x.length) (b := false) (by simp))] (nonR w) I4 fun β5 a5 w5 I5 hb5 => ?_
    refine endE 0 ?_
    refine goQ [kC Try.func8 awake_any] (nonR w) (I5.exit _) fun β6 a6 w6 I6 hb6 => ?_
    exact outQ (v := .bool true) I6 ⟨rfl, I6.hJ⟩
end Go.Proofs.Ytdbilbcpnhkbaaa
